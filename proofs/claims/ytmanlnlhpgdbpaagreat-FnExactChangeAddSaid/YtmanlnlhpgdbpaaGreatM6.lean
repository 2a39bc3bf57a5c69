/- Merged texts: ChI1, ChI2, ChI3, Sh2, Mark2, CpT, JoinRF, Own7, CpAttr, toString, toAttr, CpsAttr. -/
import Derived.Test.YtmanlnlhpgdbpaaGreatM5
import Derived.Test.YtmanlnlhpgdbpaaGreatM1
import Derived.Laws.OwnMore
import Derived.Deep.AppendLies
import Derived.Test.YtmanlnlhpgdbpaaGreatM4
import Derived.Test.YtmanlnlhpgdbpaaGreatM3
import Derived.Test.YtmanlnlhpgdbpaaGreatM2
import Derived.Laws.MakeOwn
/- Change logs: the program's small functions. -/
namespace Go.Proofs.YtmanlnlhpgdbpaaGreat
open Go.RowKit
attribute [local go_sem ↓] Go.wp_at_zero Go.wp_at_succ

theorem fieldDn (v : Value) (c : Int) (w : World) : (Instr.field 101 (.agg #[v, .int .i64 c]) 0).run Tryz.prog w = .ok v w := by kernel_rfl
theorem len_zero (n : Nat) : ((n : Int) == 0) = decide (n = 0) := by rw [Bool.eq_iff_iff]; simp
set_option maxRecDepth 100000 in
set_option maxHeartbeats 1000000 in
theorem isZero_any (o3 o4 : Option Addr) (n3 n4 k3 k4 : Nat) (w : World) :
    Calls Tryz.prog 88 #[.agg #[.slice o3 n3 k3, .slice o4 n4 k4]] w fun e w' => e = .returned (.bool (decide (n3 = 0) && decide (n4 = 0))) ∧ Below w.heap.size w w' := by
  have e3 := len_zero n3
  have e4 := len_zero n4
  generalize decide (n3 = 0) = r3 at *
  generalize decide (n4 = 0) = r4 at *
  go_enter Tryz.func88, Tryz.ntmps88
  cases r3
  · go_wp2
    go_ret
    exact ⟨rfl, more' (Below.refl _ _) _⟩
  · go_wp2
    go_ret
    exact ⟨rfl, more' (Below.refl _ _) _⟩
set_option maxRecDepth 100000 in
set_option maxHeartbeats 1000000 in
theorem mayLeave_any (k : Int) (o3 o4 : Option Addr) (a3 : RdnL) (a4 : List AttrV) (k3 k4 : Nat) (w : World) (h3 : DnAt w o3 a3) (h4 : AttrsAt w o4 a4) (f3 : Fits a3) (f4 : FitsA a4) :
    Calls Tryz.prog 68 #[.int .i64 k, .agg #[.slice o3 a3.length k3, .slice o4 a4.length k4]] w fun e w' => e = .returned (.bool (mayB k a3 a4)) ∧ Below w.heap.size w w' := by
  have CR : Hid (∀ W : World, Below w.heap.size w W → Calls Tryz.prog 87 #[.agg #[.slice o3 a3.length k3, .slice o4 a4.length k4]] W fun e w' => e = .returned (.bool (rightB a3 a4)) ∧ Below W.heap.size W w') := Lib.hid (fun W b => EntryRight_any o3 o4 a3 a4 k3 k4 W (h3.below b) (h4.below b) f3 f4)
  have CZ : Hid (∀ W : World, Calls Tryz.prog 88 #[.agg #[.slice o3 a3.length k3, .slice o4 a4.length k4]] W fun e w' => e = .returned (.bool (noneB a3 a4)) ∧ Below W.heap.size W w') := Lib.hid (fun W => isZero_any o3 o4 _ _ k3 k4 W)
  have M1 : Hid (k = 1 ∨ k = 3 ∨ k = 4 → mayB k a3 a4 = rightB a3 a4) := Lib.hid (fun h => by rcases h with rfl | rfl | rfl <;> simp [mayB])
  have M2 : Hid (k = 2 → mayB k a3 a4 = noneB a3 a4) := Lib.hid (fun h => by subst h; simp [mayB])
  have M3 : Hid (k ≠ 1 → k ≠ 2 → k ≠ 3 → k ≠ 4 → mayB k a3 a4 = false) := Lib.hid (fun h1 h2 h3 h4 => by simp [mayB, h1, h2, h3, h4])
  clear h3 h4 f3 f4
  generalize rightB a3 a4 = r at *
  generalize noneB a3 a4 = z at *
  generalize mayB k a3 a4 = m at *
  by_cases c1 : k = 1
  · have HR := Lib.hid (M1.out (.inl c1)); subst c1
    go_enter Tryz.func68, Tryz.ntmps68
    go_wp2_with fail
    refine calls_by (fun W => Below w.heap.size w W) (more' (Below.refl _ _) _) ?_
    intro W b1
    refine (CR.out W b1).mono ?_
    rintro e w2 ⟨rfl, hb⟩
    go_wp2
    go_ret
    exact ⟨ret_bool HR.out.symm, b1.trans (hb.mono b1.size)⟩
  have c1' : (k == 1) = false := by simpa using c1
  by_cases c3 : k = 3
  · have HR := Lib.hid (M1.out (.inr (.inl c3))); subst c3
    go_enter Tryz.func68, Tryz.ntmps68
    go_wp2_with fail
    refine calls_by (fun W => Below w.heap.size w W) (more' (Below.refl _ _) _) ?_
    intro W b1
    refine (CR.out W b1).mono ?_
    rintro e w2 ⟨rfl, hb⟩
    go_wp2
    go_ret
    exact ⟨ret_bool HR.out.symm, b1.trans (hb.mono b1.size)⟩
  have c3' : (k == 3) = false := by simpa using c3
  by_cases c4 : k = 4
  · have HR := Lib.hid (M1.out (.inr (.inr c4))); subst c4
    go_enter Tryz.func68, Tryz.ntmps68
    go_wp2_with fail
    refine calls_by (fun W => Below w.heap.size w W) (more' (Below.refl _ _) _) ?_
    intro W b1
    refine (CR.out W b1).mono ?_
    rintro e w2 ⟨rfl, hb⟩
    go_wp2
    go_ret
    exact ⟨ret_bool HR.out.symm, b1.trans (hb.mono b1.size)⟩
  have c4' : (k == 4) = false := by simpa using c4
  by_cases c2 : k = 2
  · have HR := Lib.hid (M2.out c2); subst c2
    go_enter Tryz.func68, Tryz.ntmps68
    go_wp2_with fail
    refine calls_by (fun W => Below w.heap.size w W) (more' (Below.refl _ _) _) ?_
    intro W b1
    refine (CZ.out W).mono ?_
    rintro e w2 ⟨rfl, hb⟩
    go_wp2
    go_ret
    exact ⟨ret_bool HR.out.symm, b1.trans (hb.mono b1.size)⟩
  have c2' : (k == 2) = false := by simpa using c2
  have HR := Lib.hid (M3.out c1 c2 c3 c4)
  go_enter Tryz.func68, Tryz.ntmps68
  go_wp2
  go_ret
  exact ⟨ret_bool HR.out.symm, more' (Below.refl _ _) _⟩
set_option maxRecDepth 100000 in
set_option maxHeartbeats 1000000 in
theorem changeRight_any {S : Bs} (a0 a1 : Int) (a2 : ByteArray) (a3 : List RdnT) (a4 : List AttrT) (v3 v4 : Value) (w : World) (h3 : SlAt rdnE S w a3 v3) (h4 : SlAt attrE S w a4 v4) (hz : changeE.sz (a0, a1, a2, (a3, a4)) ≤ 1048576) :
    Calls Tryz.prog 37 #[.agg #[.int .i64 a0, .int .i64 a1, .string a2, v3, v4]] w fun e w' => e = .returned (.bool (chgB (a0, a1, a2, (a3, a4)))) ∧ Below w.heap.size w w' := by
  have HE : changeE.sz (a0, a1, a2, (a3, a4)) = 0 + (0 + (a2.size + ((a3.length + szL rdnE a3) + (a4.length + szL attrE a4)))) := rfl
  rw [HE] at hz
  obtain ⟨o3, k3, rfl⟩ := h3.sl
  obtain ⟨o4, k4, rfl⟩ := h4.sl
  have hs : a2.size ≤ maxLen := by unfold maxLen; omega
  have CM : Hid (∀ W : World, Below w.heap.size w W → Calls Tryz.prog 68 #[.int .i64 a1, .agg #[.slice o3 a3.length k3, .slice o4 a4.length k4]] W fun e w' => e = .returned (.bool (mayB a1 a3 a4)) ∧ Below W.heap.size W w') := Lib.hid (fun W b => mayLeave_any a1 o3 o4 a3 a4 k3 k4 W ((dn_of h3).below b) ((attrs_of h4).below b) (fits_dn (by omega)) (fits_attrs (by omega)))
  have HD : Hid (chgB (a0, a1, a2, (a3, a4)) = (decide (0 < (readD a2).length) && mayB a1 a3 a4)) := Lib.hid rfl
  have CD : Hid (∀ W : World, Calls Tryz.prog 67 #[.string a2] W fun e w' => (∃ o k, e = .returned (.agg #[.slice o (readD a2).length k, .int .i64 (readC a2)])) ∧ Below W.heap.size W w') := Lib.hid (fun W => (DnRead_any a2 W hs).mono fun e w' ⟨⟨v, he, ho⟩, hb⟩ => ⟨by obtain ⟨o, k, rfl⟩ := own_slice ho; exact ⟨o, k, he⟩, hb⟩)
  clear h3 h4 hz HE hs
  generalize readC a2 = rc at *
  generalize chgB (a0, a1, a2, (a3, a4)) = R at *
  generalize mayB a1 a3 a4 = m at *
  generalize (readD a2).length = n at *
  go_enter Tryz.func37, Tryz.ntmps37
  go_wp2_with fail
  refine calls_by (fun W => Below w.heap.size w W ∧ Blk W w.heap.size [.int .i64 a0, .int .i64 a1, .string a2, .slice o3 a3.length k3, .slice o4 a4.length k4]) ⟨more' (Below.refl _ _) _, Blk.new _ _ _⟩ ?_
  rintro W1 ⟨b1, t1⟩
  refine (CD.out W1).mono ?_
  rintro e w2 ⟨⟨o, k, rfl⟩, hb⟩
  have b2 := b1.trans (hb.mono b1.size); have T2 := Lib.hid (t1.below hb)
  clear hb t1 b1
  have x1 := T2.out.cell 1 rfl; have x3 := T2.out.cell 3 rfl; have x4 := T2.out.cell 4 rfl
  have hf0 := fieldDn
  by_cases hn : 0 < n
  · have hn1 : (0 : Int) < (n : Int) := by omega
    have HR := Lib.hid HD.out
    go_wp2_with fail
    refine (CM.out w2 b2).mono ?_
    rintro e w3 ⟨rfl, hb⟩
    go_wp2
    go_ret
    exact ⟨ret_bool (by rw [HR.out]; simp [hn]), b2.trans (hb.mono b2.size)⟩
  · have hn1 : ¬ (0 : Int) < (n : Int) := by omega
    have HR := Lib.hid HD.out
    go_wp2
    go_ret
    exact ⟨ret_bool (by rw [HR.out]; simp [hn]), b2⟩
end Go.Proofs.YtmanlnlhpgdbpaaGreat
/- Change logs: what the program's ChangesRight returns. -/
namespace Go.Proofs.YtmanlnlhpgdbpaaGreat
open Go.RowKit
attribute [local go_sem ↓] Go.wp_at_zero Go.wp_at_succ

set_option maxRecDepth 100000 in
set_option maxHeartbeats 1000000 in
theorem sequenceOf_any (n : Int) (o : Option Addr) (l k : Nat) (w : World) :
    Calls Tryz.prog 35 #[.agg #[.int .i64 n, .slice o l k]] w fun e w' => e = .returned (.agg #[.int .i64 n, .slice o l k]) ∧ Below w.heap.size w w' := by
  go_enter Tryz.func35, Tryz.ntmps35
  go_wp2
  refine bodyPost_ret (v := .agg #[.int .i64 n, .slice o l k]) (by simp [results, Tryz.results35, go_sem]) rfl ⟨rfl, more' (more' (Below.refl _ _) _) _⟩
set_option maxRecDepth 100000 in
set_option maxHeartbeats 1000000 in
theorem first_any (n : Int) (o : Option Addr) (l k : Nat) (w : World) (h1 : 0 ≤ n) (h2 : n ≤ 1000000) (h3 : l ≤ 1048576) :
    Calls Tryz.prog 36 #[.agg #[.int .i64 n, .slice o l k]] w fun e w' => e = .returned (.int .i64 (n - l)) ∧ Below w.heap.size w w' := by
  go_enter Tryz.func36, Tryz.ntmps36
  go_wp2
  go_ret
  exact ⟨rfl, more' (Below.refl _ _) _⟩
set_option maxRecDepth 100000 in
set_option maxHeartbeats 1000000 in
theorem ChangesRight_any {S : Bs} (n : Int) (v : Value) (d : List ChangeT) (w : World) (hd : SlAt changeE S w d v) (hz : d.length + szL changeE d ≤ 1048576) :
    Calls Tryz.prog 10 #[.agg #[.int .i64 n, v]] w fun e w' => e = .returned (.bool (chsB n d)) ∧ Below w.heap.size w w' := by
  obtain ⟨ao, ca, rfl⟩ := hd.sl
  have HA := Lib.hid hd
  have HZ : Hid (∀ x ∈ d, changeE.sz x ≤ 1048576) := Lib.hid (fun x h => by have h1 := szL_mem changeE h; omega)
  have hl : d.length ≤ 1048576 := by omega
  have HB := Lib.hid (@chsB_bad n d)
  have HG := Lib.hid (@chsB_good n d)
  clear hd hz
  generalize chsB n d = R at *
  by_cases c1 : n < 1
  · have HR := Lib.hid (HB.out (by omega))
    go_enter Tryz.func10, Tryz.ntmps10
    go_wp2
    go_ret
    exact ⟨ret_bool HR.out.symm, more' (Below.refl _ _) _⟩
  by_cases c2 : 1000000 < n
  · have HR := Lib.hid (HB.out (by omega))
    go_enter Tryz.func10, Tryz.ntmps10
    go_wp2
    go_ret
    exact ⟨ret_bool HR.out.symm, more' (Below.refl _ _) _⟩
  by_cases c3 : 40 < d.length
  · have HR := Lib.hid (HB.out (by omega))
    have c3' : (40 : Int) < (d.length : Int) := by omega
    go_enter Tryz.func10, Tryz.ntmps10
    go_wp2
    go_ret
    exact ⟨ret_bool HR.out.symm, more' (Below.refl _ _) _⟩
  have c3' : ¬ (40 : Int) < (d.length : Int) := by omega
  have HG' : Hid (1 ≤ n - (d.length : Int) → numsB (n - d.length) d = true → R = true) := Lib.hid (fun h1 h2 => HG.out (by omega) (by omega) (by omega) h1 h2)
  have HB' : Hid (¬ (1 ≤ n - (d.length : Int) ∧ numsB (n - d.length) d = true) → R = false) := Lib.hid (fun h => HB.out (fun x => h ⟨x.2.2.2.1, x.2.2.2.2⟩))
  clear HG HB
  go_enter Tryz.func10, Tryz.ntmps10
  go_wp2_with fail
  refine calls_by (fun W => Below w.heap.size w W ∧ Blk W w.heap.size [.int .i64 n, .slice ao d.length ca]) ⟨more' (Below.refl _ _) _, Blk.new _ _ _⟩ ?_
  rintro W1 ⟨b1, t1⟩
  refine (sequenceOf_any n ao d.length ca W1).mono ?_
  rintro e w2 ⟨rfl, hb⟩
  have b2 := b1.trans (hb.mono b1.size); have T2 := Lib.hid (t1.below hb)
  clear hb t1 b1
  go_wp2_with fail
  refine (first_any n ao d.length ca _ (by omega) (by omega) hl).mono ?_
  rintro e w3 ⟨rfl, hb⟩
  have b3 := b2.trans (hb.mono b2.size); have T3 := Lib.hid (T2.out.below hb)
  clear hb T2 b2
  have x1 := T3.out.cell 1 rfl
  have CR : Hid (∀ (W : World) (a0 a1 : Int) (a2 : ByteArray) (a3 : List RdnT) (a4 : List AttrT) (v3 v4 : Value) (S' : Bs), SlAt rdnE S' W a3 v3 → SlAt attrE S' W a4 v4 → changeE.sz (a0, a1, a2, (a3, a4)) ≤ 1048576 → Calls Tryz.prog 37 #[.agg #[.int .i64 a0, .int .i64 a1, .string a2, v3, v4]] W fun e w' => e = .returned (.bool (chgB (a0, a1, a2, (a3, a4)))) ∧ Below W.heap.size W w') := Lib.hid (fun W a0 a1 a2 a3 a4 v3 v4 S' h3 h4 hz => changeRight_any a0 a1 a2 a3 a4 v3 v4 W h3 h4 hz)
  have hf1 : 1 ≤ n := by omega
  have hf2 : n ≤ 1000000 := by omega
  generalize hf : n - (d.length : Int) = f at *
  have hf3 : -1000000 ≤ f ∧ f ≤ 1000000 := by omega
  have hd40 : d.length ≤ 40 := by omega
  clear hf T3
  go_wp2_with fail
  go_loopw [26] (fun i wr => ∃ k : Nat, k ≤ d.length ∧ i = .int .i64 k ∧ numsB f (d.take k) = true ∧ Below w.heap.size w wr) (fun i _ => d.length - (intOf i).toNat)
  case atStart => exact ⟨0, Nat.zero_le _, rfl, by simp [numsB], b3⟩
  case round =>
    clear b3 x1
    obtain ⟨k, hk, rfl, hgood, hbel⟩ := hrel
    have HGood := Lib.hid hgood; clear hgood
    by_cases hlt : k < d.length
    · obtain ⟨b, off, a0, a1, a2, a3, a4, v3, v4, rfl, _, hb0, hx, ⟨hc0, hc1, hc2, hc3, hc4⟩, s3, s4, _⟩ := change_row (HA.out.frame (Same.of_below' hbel)) hlt
      have HZ1 : Hid (changeE.sz (a0, a1, a2, (a3, a4)) ≤ 1048576) := Lib.hid (by have := HZ.out _ (List.getElem_mem hlt); rw [hx] at this; exact this)
      have HT : Hid (numsB f (d.take (k + 1)) = (numsB f (d.take k) && (decide (a0 = f + k) && chgB (a0, a1, a2, (a3, a4))))) := Lib.hid (by rw [numsB_take f d k hlt, hx])
      have HN : Hid ((decide (a0 = f + k) && chgB (a0, a1, a2, (a3, a4))) = false → numsB f d = false) := Lib.hid (fun h => numsB_bad f d k hlt (by rw [hx]; exact h))
      obtain ⟨o3, k3, rfl⟩ := s3.sl
      obtain ⟨o4, k4, rfl⟩ := s4.sl
      have CK : Hid (∀ W : World, Below wr.heap.size wr W → Calls Tryz.prog 37 #[.agg #[.int .i64 a0, .int .i64 a1, .string a2, .slice o3 a3.length k3, .slice o4 a4.length k4]] W fun e w' => e = .returned (.bool (chgB (a0, a1, a2, (a3, a4)))) ∧ Below W.heap.size W w') := Lib.hid (fun W b => CR.out W a0 a1 a2 a3 a4 _ _ _ (s3.frame (Same.of_below' b)) (s4.frame (Same.of_below' b)) HZ1.out)
      clear s3 s4 hx HZ1
      generalize chgB (a0, a1, a2, (a3, a4)) = rr at *
      have g1 : (0 : Int) ≤ (k : Int) := by omega
      have g2 : (k : Int) < (d.length : Int) := by omega
      by_cases hnum : a0 = f + k
      · subst hnum
        have hnn : (f + (k : Int) != f + (k : Int)) = false := by simp
        go_wp2_with fail
        refine calls_by (fun W => Below wr.heap.size wr W) (more' (Below.refl _ _) _) ?_
        intro W1 d1
        refine (CK.out W1 d1).mono ?_
        clear hc0 hc1 hc2 hc3 hc4
        rintro e w2 ⟨rfl, hb⟩
        have b2 := hbel.trans ((d1.trans (hb.mono d1.size)).mono hbel.size)
        clear hb d1
        cases rr
        · have HR := Lib.hid (HB'.out (fun h => by rw [HN.out (by simp)] at h; exact Bool.noConfusion h.2))
          go_wp2
          go_ret
          exact ⟨ret_bool HR.out.symm, b2⟩
        · have HT2 : Hid (numsB f (d.take (k + 1)) = true) := Lib.hid (by rw [HT.out, HGood.out]; simp)
          go_wp2
          go_roundw
          case rel => exact ⟨k + 1, by omega, by go_num, HT2.out, b2⟩
          case measure => simp [intOf]; omega
      · have hnn : (a0 != f + (k : Int)) = true := by simpa using hnum
        have HR := Lib.hid (HB'.out (fun h => by rw [HN.out (by simp [hnum])] at h; exact Bool.noConfusion h.2))
        go_wp2
        go_ret
        exact ⟨ret_bool HR.out.symm, more' hbel _⟩
    · have e : d.take k = d := List.take_of_length_le (by omega)
      have HO : Hid (numsB f d = true) := Lib.hid (by have := HGood.out; rw [e] at this; exact this)
      clear e
      by_cases h1 : 1 ≤ f
      · have HR := Lib.hid (HG'.out h1 HO.out)
        go_wp2
        go_ret
        exact ⟨ret_bool (by rw [HR.out]; first | done | simpa using h1), hbel⟩
      · have HR := Lib.hid (HB'.out (fun h => h1 h.1))
        have h1' : f < 1 := by omega
        go_wp2
        go_ret
        exact ⟨ret_bool (by rw [HR.out]; first | done | simpa using h1'), hbel⟩
end Go.Proofs.YtmanlnlhpgdbpaaGreat
/- Change logs: the changes from a number on. -/
namespace Go.Proofs.YtmanlnlhpgdbpaaGreat
open Go.RowKit
attribute [local go_sem ↓] Go.wp_at_zero Go.wp_at_succ

theorem SlAt.drop {α : Type} {e : Enc α} {S : Bs} {w : World} {l : List α} {b off n cap : Nat} (h : SlAt e S w l (.slice (some ⟨b, off, none⟩) n cap)) {j : Nat} (hj : j ≤ l.length) (hb : j < cap) :
    SlAt e S w (l.drop j) (.slice (some ⟨b, off + j * e.n, none⟩) (l.drop j).length (cap - j)) := by
  obtain ⟨ao, cap', e1, h2, h3, h4⟩ := h
  cases e1
  refine ⟨_, _, rfl, by rw [List.length_drop]; omega, (fun h => by cases h), ?_⟩
  rcases h4 with h4 | ⟨b', off', e1, g2, g3, g4⟩
  · left; subst h4; simp
  · cases e1
    refine .inr ⟨b, off + j * e.n, rfl, g2, g3, fun i hi => ?_⟩
    rw [List.length_drop] at hi
    obtain ⟨cs, q1, q2⟩ := g4 (j + i) (by omega)
    refine ⟨cs, fun t ht => ?_, by rw [List.getElem_drop]; exact q2⟩
    have := q1 t ht
    rw [Nat.add_mul] at this
    rw [show off + j * e.n + i * e.n + t = off + (j * e.n + i * e.n) + t by omega]; exact this
theorem slAt_none {α : Type} {e : Enc α} (S : Bs) (w : World) {ao : Option Addr} {cap : Nat} (h : ao = none → cap = 0) : SlAt e S w ([] : List α) (.slice ao 0 cap) := ⟨ao, cap, rfl, Nat.zero_le _, h, .inl rfl⟩
theorem Tryz.elemCh : Tryz.prog.elem 27 = 61 := by kernel_rfl
theorem Tryz.sizeCh (w : World) : (sizeOf 61).run Tryz.prog w = .ok 5 w := by kernel_rfl
/-- l[k:] -/
theorem cutCh {S : Bs} (w : World) (ao : Option Addr) (d : List ChangeT) (k cap : Nat) (hk : k ≤ d.length) (hd : SlAt changeE S w d (.slice ao d.length cap)) :
    ∃ ao', (∀ W : World, (Instr.slice 27 (.slice ao d.length cap) (some (.int .i64 (k : Int))) none none).run Tryz.prog W = .ok (.slice ao' (d.drop k).length (cap - k)) W) ∧ SlAt changeE S w (d.drop k) (.slice ao' (d.drop k).length (cap - k)) := by
  have hc := hd.cap.2.1; have hn := hd.cap.2.2
  refine ⟨if cap = k then ao else ao.map (·.add (k * 5)), fun W => ?_, ?_⟩
  · rw [run_slice_l W 27 ao d.length cap (by rw [Tryz.elemCh]; exact Tryz.underlying27) .i64 (k : Int) (by omega) (by omega), Tryz.elemCh, Tryz.sizeCh]
    simp [Result.andThen, sliced]
  · by_cases h0 : cap = k
    · rw [if_pos h0]
      have e : d.drop k = [] := List.drop_eq_nil_of_le (by omega)
      rw [e]
      exact slAt_none S w (fun h => by have := hn h; omega)
    · rw [if_neg h0]
      rcases ao with _ | ⟨b, off, spot⟩
      · have := hn rfl
        omega
      · by_cases hl : d = []
        · subst hl
          refine ⟨_, _, rfl, by simp, (fun h => by cases h), .inl (by simp)⟩
        · have hp : 0 < d.length := List.length_pos_iff.2 hl
          obtain ⟨b', off', cs, e1, _⟩ := hd.row hp
          cases e1
          have := hd.drop hk (by omega)
          have e : Option.map (fun x : Addr => x.add (k * 5)) (some ⟨b, off, none⟩) = some ⟨b, off + k * 5, none⟩ := by simp [Addr.add]
          rw [e]
          exact this
set_option maxRecDepth 100000 in
set_option maxHeartbeats 1000000 in
theorem from_any {S : Bs} (n q : Int) (v : Value) (d : List ChangeT) (w : World) (hd : SlAt changeE S w d v) (h1 : 1 ≤ n) (h2 : n ≤ 1000000) (h3 : d.length ≤ 40) (hq : -9223372036854775808 ≤ q ∧ q ≤ 9223372036854775807) :
    Calls Tryz.prog 57 #[.agg #[.int .i64 n, v], .int .i64 q] w fun e w' => (∃ ao k, e = .returned (.slice ao (fromL n d q).length k) ∧ SlAt changeE S w' (fromL n d q) (.slice ao (fromL n d q).length k)) ∧ Below w.heap.size w w' := by
  obtain ⟨ao, ca, rfl⟩ := hd.sl
  go_enter Tryz.func57, Tryz.ntmps57
  go_wp2_with fail
  refine wp_world (fun W => Below w.heap.size w W ∧ Blk W w.heap.size [.int .i64 n, .slice ao d.length ca]) ⟨more' (Below.refl _ _) _, Blk.new _ _ _⟩ ?_
  rintro W1 ⟨b1, t1⟩
  have T1 := Lib.hid t1; clear t1
  have CF : Hid (∀ W : World, Calls Tryz.prog 36 #[.agg #[.int .i64 n, .slice ao d.length ca]] W fun e w' => e = .returned (.int .i64 (n - d.length)) ∧ Below W.heap.size W w') := Lib.hid (fun W => first_any n ao d.length ca W (by omega) (by omega) (by omega))
  have HL : Hid (fromL n d q = d.drop (min (max q (n - d.length)) n - (n - d.length)).toNat) := Lib.hid rfl
  have SK : Hid (∀ Z' : World, Below W1.heap.size W1 Z' → Z'.cell? ⟨w.heap.size, 0, none⟩ = some (.int .i64 n) ∧ Z'.cell? ⟨w.heap.size, 1, none⟩ = some (.slice ao d.length ca)) := Lib.hid (fun Z' h => ⟨(T1.out.below h).cell 0 rfl, (T1.out.below h).cell 1 rfl⟩)
  have BD : Below W1.heap.size W1 W1.drew := (Below.refl _ _).drew
  refine wp_region_held_drew (S := (fun Z' => Z'.cell? ⟨w.heap.size, 0, none⟩ = some (.int .i64 n) ∧ Z'.cell? ⟨w.heap.size, 1, none⟩ = some (.slice ao d.length ca))) (by kernel_rfl) ?_ (fun hHeld => ?_)
  · (try dsimp only)
    first | exact SK.out _ (by assumption) | exact SK.out _ BD | exact SK.out _ (more' (by assumption) _) | exact SK.out _ (more' BD _)
  refine wpAnyH_take (i := 0) (oi := { dst := some 6, op := Op.move (Operand.tmp 1), type := 2, pos := "l08_change.go:53", after := #[], guard := none }) (v := ?_) rfl (by kernel_rfl) (by kernel_rfl) (by kernel_rfl) (fun _ _ _ h => h) (Or.inl ⟨by rfl, ?_⟩) (by assumption) ?_
  rotate_left
  · intro w hSw; (try dsimp only at hSw); go_simp; (try with_reducible rfl)
  (try simp only [Act.put, List.setIfInBounds_toArray, List.set_cons_zero, List.set_cons_succ])
  refine wpAnyH_take (i := 1) (oi := { dst := some 7, op := Op.load 67 (Operand.tmp 2), type := 67, pos := "l08_change.go:53", after := #[], guard := none }) (v := ?_) rfl (by kernel_rfl) (by kernel_rfl) (by kernel_rfl) (fun _ _ _ h => h) (Or.inl ⟨by rfl, ?_⟩) (by assumption) ?_
  rotate_left
  · intro w hSw; (try dsimp only at hSw); go_simp; (try with_reducible rfl)
  (try simp only [Act.put, List.setIfInBounds_toArray, List.set_cons_zero, List.set_cons_succ])
  refine wpAnyH_take (i := 4) (oi := { dst := some 10, op := Op.fieldAddr 67 (Operand.tmp 2) 0, type := 0, pos := "l08_change.go:53", after := #[], guard := none }) (v := ?_) rfl (by kernel_rfl) (by kernel_rfl) (by kernel_rfl) (fun _ _ _ h => h) (Or.inl ⟨by rfl, ?_⟩) (by assumption) ?_
  rotate_left
  · intro w hSw; (try dsimp only at hSw); go_simp; (try with_reducible rfl)
  (try simp only [Act.put, List.setIfInBounds_toArray, List.set_cons_zero, List.set_cons_succ])
  refine wpAnyH_take (i := 5) (oi := { dst := some 11, op := Op.load 2 (Operand.tmp 10), type := 2, pos := "l08_change.go:53", after := #[{ on := 4, ground := Ground.data }], guard := none }) (v := ?_) rfl (by kernel_rfl) (by kernel_rfl) (by kernel_rfl) (fun _ _ _ h => h) (Or.inl ⟨by rfl, ?_⟩) (by assumption) ?_
  rotate_left
  · intro w hSw; (try dsimp only at hSw); go_simp; (try with_reducible rfl)
  (try simp only [Act.put, List.setIfInBounds_toArray, List.set_cons_zero, List.set_cons_succ])
  refine wpAnyH_ready (rs := [2]) (by kernel_rfl) (by simp) ?_
  refine AllReadyH.cons (o := { dst := some 8, op := Op.call { callee := Callee.value (Operand.func 36), args := #[Operand.tmp 7], argTypes := #[67] }, type := 2, pos := "l08_change.go:53", after := #[{ on := 1, ground := Ground.data }], guard := none }) rfl (fun K hK => ?_) (AllReadyH.nil)
  go_simp
  refine (CF.out _).mono ?_
  rintro e w2 ⟨rfl, hb⟩
  have D2 : Below W1.heap.size W1 w2 := BD.trans (hb.mono BD.size)
  clear hb
  clear hHeld
  refine hK.out _ _ ?_ (fun hHeld => ?_)
  · (try dsimp only)
    first | exact SK.out _ (by assumption) | exact SK.out _ BD | exact SK.out _ (more' (by assumption) _) | exact SK.out _ (more' BD _)
  clear hK K
  (try simp only [Act.put, List.setIfInBounds_toArray, List.set_cons_zero, List.set_cons_succ])
  refine wpAnyH_take (i := 3) (oi := { dst := some 9, op := Op.call { callee := Callee.builtin Builtin.max, args := #[Operand.tmp 6, Operand.tmp 8], argTypes := #[2, 2] }, type := 2, pos := "l08_change.go:53", after := #[{ on := 0, ground := Ground.data }, { on := 2, ground := Ground.data }], guard := none }) (v := ?_) rfl (by kernel_rfl) (by kernel_rfl) (by kernel_rfl) (fun _ _ _ h => h) (Or.inl ⟨by rfl, ?_⟩) (by assumption) ?_
  rotate_left
  · intro w hSw; (try dsimp only at hSw); go_simp; (try with_reducible rfl)
  (try simp only [Act.put, List.setIfInBounds_toArray, List.set_cons_zero, List.set_cons_succ])
  refine wpAnyH_take (i := 6) (oi := { dst := some 12, op := Op.call { callee := Callee.builtin Builtin.min, args := #[Operand.tmp 9, Operand.tmp 11], argTypes := #[2, 2] }, type := 2, pos := "l08_change.go:53", after := #[{ on := 3, ground := Ground.data }, { on := 5, ground := Ground.data }], guard := none }) (v := ?_) rfl (by kernel_rfl) (by kernel_rfl) (by kernel_rfl) (fun _ _ _ h => h) (Or.inl ⟨by rfl, ?_⟩) (by assumption) ?_
  rotate_left
  · intro w hSw; (try dsimp only at hSw); go_simp; (try with_reducible rfl)
  (try simp only [Act.put, List.setIfInBounds_toArray, List.set_cons_zero, List.set_cons_succ])
  refine wpAnyH_take (i := 7) (oi := { dst := some 5, op := Op.assign (Operand.tmp 12), type := 2, pos := "l08_change.go:53", after := #[{ on := 6, ground := Ground.data }, { on := 2, ground := Ground.chain }, { on := 0, ground := Ground.phase }, { on := 1, ground := Ground.phase }, { on := 2, ground := Ground.phase }, { on := 3, ground := Ground.phase }, { on := 4, ground := Ground.phase }, { on := 5, ground := Ground.phase }, { on := 6, ground := Ground.phase }], guard := none }) (v := ?_) rfl (by kernel_rfl) (by kernel_rfl) (by kernel_rfl) (fun _ _ _ h => h) (Or.inl ⟨by rfl, ?_⟩) (by assumption) ?_
  rotate_left
  · intro w hSw; (try dsimp only at hSw); go_simp; (try with_reducible rfl)
  (try simp only [Act.put, List.setIfInBounds_toArray, List.set_cons_zero, List.set_cons_succ])
  refine wpAnyH_done (by kernel_rfl) ?_ _
  clear SK
  have B2 := Lib.hid (b1.trans (D2.mono b1.size)); have T2 := Lib.hid (T1.out.below D2)
  clear BD D2 hHeld T1 b1
  obtain ⟨j, hj⟩ : ∃ j : Nat, min (max q (n - (d.length : Int))) n = n - (d.length : Int) + (j : Int) := ⟨(min (max q (n - (d.length : Int))) n - (n - (d.length : Int))).toNat, by omega⟩
  rw [hj] at HL ⊢
  have hjl : j ≤ d.length := by omega
  have HL2 : Hid (fromL n d q = d.drop j) := Lib.hid (by rw [HL.out]; congr 1; omega)
  clear HL hj
  have hs : n - (d.length : Int) + (j : Int) - (n - (d.length : Int)) = (j : Int) := by omega
  have hwj : IntKind.i64.wrap (j : Int) = (j : Int) := IntWalk.i64_in _ (by omega)
  obtain ⟨ao', hcut, hdr⟩ := cutCh w ao d j ca hjl hd
  have HD := Lib.hid hdr; clear hdr hd
  go_wp2_with fail
  have SK : Hid (∀ Z' : World, Below w2.heap.size w2 Z' → Z'.cell? ⟨w.heap.size, 0, none⟩ = some (.int .i64 n) ∧ Z'.cell? ⟨w.heap.size, 1, none⟩ = some (.slice ao d.length ca)) := Lib.hid (fun Z' h => ⟨(T2.out.below h).cell 0 rfl, (T2.out.below h).cell 1 rfl⟩)
  have BD : Below w2.heap.size w2 w2.drew := (Below.refl _ _).drew
  refine wp_region_held_drew (S := (fun Z' => Z'.cell? ⟨w.heap.size, 0, none⟩ = some (.int .i64 n) ∧ Z'.cell? ⟨w.heap.size, 1, none⟩ = some (.slice ao d.length ca))) (by kernel_rfl) ?_ (fun hHeld => ?_)
  · (try dsimp only)
    first | exact SK.out _ (by assumption) | exact SK.out _ BD | exact SK.out _ (more' (by assumption) _) | exact SK.out _ (more' BD _)
  refine wpAnyH_take (i := 0) (oi := { dst := some 13, op := Op.fieldAddr 67 (Operand.tmp 2) 1, type := 0, pos := "l08_change.go:54", after := #[], guard := none }) (v := ?_) rfl (by kernel_rfl) (by kernel_rfl) (by kernel_rfl) (fun _ _ _ h => h) (Or.inl ⟨by rfl, ?_⟩) (by assumption) ?_
  rotate_left
  · intro w hSw; (try dsimp only at hSw); go_simp; (try with_reducible rfl)
  (try simp only [Act.put, List.setIfInBounds_toArray, List.set_cons_zero, List.set_cons_succ])
  refine wpAnyH_take (i := 1) (oi := { dst := some 14, op := Op.load 27 (Operand.tmp 13), type := 27, pos := "l08_change.go:54", after := #[{ on := 0, ground := Ground.data }], guard := none }) (v := ?_) rfl (by kernel_rfl) (by kernel_rfl) (by kernel_rfl) (fun _ _ _ h => h) (Or.inl ⟨by rfl, ?_⟩) (by assumption) ?_
  rotate_left
  · intro w hSw; (try dsimp only at hSw); go_simp; (try with_reducible rfl)
  (try simp only [Act.put, List.setIfInBounds_toArray, List.set_cons_zero, List.set_cons_succ])
  refine wpAnyH_take (i := 2) (oi := { dst := some 15, op := Op.move (Operand.tmp 5), type := 2, pos := "l08_change.go:54", after := #[], guard := none }) (v := ?_) rfl (by kernel_rfl) (by kernel_rfl) (by kernel_rfl) (fun _ _ _ h => h) (Or.inl ⟨by rfl, ?_⟩) (by assumption) ?_
  rotate_left
  · intro w hSw; (try dsimp only at hSw); go_simp; (try with_reducible rfl)
  (try simp only [Act.put, List.setIfInBounds_toArray, List.set_cons_zero, List.set_cons_succ])
  refine wpAnyH_take (i := 3) (oi := { dst := some 16, op := Op.load 67 (Operand.tmp 2), type := 67, pos := "l08_change.go:54", after := #[], guard := none }) (v := ?_) rfl (by kernel_rfl) (by kernel_rfl) (by kernel_rfl) (fun _ _ _ h => h) (Or.inl ⟨by rfl, ?_⟩) (by assumption) ?_
  rotate_left
  · intro w hSw; (try dsimp only at hSw); go_simp; (try with_reducible rfl)
  (try simp only [Act.put, List.setIfInBounds_toArray, List.set_cons_zero, List.set_cons_succ])
  refine wpAnyH_ready (rs := [4]) (by kernel_rfl) (by simp) ?_
  refine AllReadyH.cons (o := { dst := some 17, op := Op.call { callee := Callee.value (Operand.func 36), args := #[Operand.tmp 16], argTypes := #[67] }, type := 2, pos := "l08_change.go:54", after := #[{ on := 3, ground := Ground.data }], guard := none }) rfl (fun K hK => ?_) (AllReadyH.nil)
  go_simp
  refine (CF.out _).mono ?_
  rintro e w3 ⟨rfl, hb⟩
  have D3 : Below w2.heap.size w2 w3 := BD.trans (hb.mono BD.size)
  clear hb
  clear hHeld
  refine hK.out _ _ ?_ (fun hHeld => ?_)
  · (try dsimp only)
    first | exact SK.out _ (by assumption) | exact SK.out _ BD | exact SK.out _ (more' (by assumption) _) | exact SK.out _ (more' BD _)
  clear hK K
  (try simp only [Act.put, List.setIfInBounds_toArray, List.set_cons_zero, List.set_cons_succ])
  refine wpAnyH_take (i := 5) (oi := { dst := some 18, op := Op.binOp BinOp.sub 2 (Operand.tmp 15) (Operand.tmp 17) 2, type := 2, pos := "l08_change.go:54", after := #[{ on := 2, ground := Ground.data }, { on := 4, ground := Ground.data }], guard := none }) (v := ?_) rfl (by kernel_rfl) (by kernel_rfl) (by kernel_rfl) (fun _ _ _ h => h) (Or.inl ⟨by rfl, ?_⟩) (by assumption) ?_
  rotate_left
  · intro w hSw; (try dsimp only at hSw); go_simp; (try with_reducible rfl)
  (try simp only [Act.put, List.setIfInBounds_toArray, List.set_cons_zero, List.set_cons_succ])
  refine wpAnyH_take (i := 6) (oi := { dst := some 19, op := Op.slice 27 (Operand.tmp 14) (some (Operand.tmp 18)) none none, type := 27, pos := "l08_change.go:54", after := #[{ on := 1, ground := Ground.data }, { on := 5, ground := Ground.data }], guard := none }) (v := ?_) rfl (by kernel_rfl) (by kernel_rfl) (by kernel_rfl) (fun _ _ _ h => h) (Or.inl ⟨by rfl, ?_⟩) (by assumption) ?_
  rotate_left
  · intro w hSw; (try dsimp only at hSw); go_simp; (try with_reducible rfl)
  (try simp only [Act.put, List.setIfInBounds_toArray, List.set_cons_zero, List.set_cons_succ])
  refine wpAnyH_take (i := 7) (oi := { dst := some 4, op := Op.assign (Operand.tmp 19), type := 27, pos := "l08_change.go:54", after := #[{ on := 6, ground := Ground.data }, { on := 4, ground := Ground.chain }, { on := 0, ground := Ground.phase }, { on := 1, ground := Ground.phase }, { on := 2, ground := Ground.phase }, { on := 3, ground := Ground.phase }, { on := 4, ground := Ground.phase }, { on := 5, ground := Ground.phase }, { on := 6, ground := Ground.phase }], guard := none }) (v := ?_) rfl (by kernel_rfl) (by kernel_rfl) (by kernel_rfl) (fun _ _ _ h => h) (Or.inl ⟨by rfl, ?_⟩) (by assumption) ?_
  rotate_left
  · intro w hSw; (try dsimp only at hSw); go_simp; (try with_reducible rfl)
  (try simp only [Act.put, List.setIfInBounds_toArray, List.set_cons_zero, List.set_cons_succ])
  refine wpAnyH_done (by kernel_rfl) ?_ _
  clear SK
  have B3 := B2.out.trans (D3.mono B2.out.size)
  clear BD D3 hHeld
  go_wp2
  go_ret
  rw [HL2.out]
  exact ⟨⟨ao', ca - j, by rw [List.length_drop]; rfl, HD.out.frame (Same.of_below' B3)⟩, B3⟩
end Go.Proofs.YtmanlnlhpgdbpaaGreat
/- Rows that a call makes by append: they come to be owned. -/
namespace Go.Proofs.YtmanlnlhpgdbpaaGreat
open Go.RowKit

section
variable {α : Type} {e : Enc α}
/-- rows in making, behind append: the cells of the slice, and each row's own blocks -/
structure Grow (e : Enc α) (T : TypeId) (B : Nat) (w : World) (v : Value) (l : List α) (xs : List Value) : Prop where
  row : w.ownsRow B T e.n v l.length xs
  ex : ∃ P : Nat → Bs, (∀ i, i < l.length → (∀ b, P i b → B ≤ b ∧ b < w.heap.size) ∧ ∀ g, v.ownBlock = some g → ¬ P i g) ∧ (∀ i j, i < l.length → j < l.length → i ≠ j → ∀ b, P i b → ¬ P j b) ∧
    ∀ i (h : i < l.length), ∃ cs, (∀ j (h : j < cs.length), xs[i * e.n + j]? = some cs[j]) ∧ e.Own (P i) w l[i] cs
theorem Grow.nil (e : Enc α) (T : TypeId) (B : Nat) (w : World) : Grow e T B w (.slice none 0 0) [] [] := ⟨⟨by simp, .inl ⟨rfl, rfl⟩⟩, fun _ _ => False, fun _ h => by simp at h, fun _ _ h => by simp at h, fun _ h => by simp at h⟩
theorem Grow.below {T : TypeId} {B : Nat} {w w' : World} {v : Value} {l : List α} {xs : List Value} (h : Grow e T B w v l xs) (hb : Below w.heap.size w w') : Grow e T B w' v l xs := by
  obtain ⟨hr, P, h1, h2, h3⟩ := h
  refine ⟨hr.kept (row := none) ⟨hb.os, hb.tape, hb.output, hb.size, fun k hk _ => hb.block k hk⟩ (by cases v.ownBlock <;> simp), P, fun i hi => ⟨fun b hx => ⟨((h1 i hi).1 b hx).1, Nat.lt_of_lt_of_le ((h1 i hi).1 b hx).2 hb.size⟩, (h1 i hi).2⟩, h2, fun i hi => ?_⟩
  obtain ⟨cs, q1, q2⟩ := h3 i hi
  exact ⟨cs, q1, e.ownFrame q2 (Same.of_below' hb)⟩
theorem Grow.step {T : TypeId} {B : Nat} {wr w2 w3 w' : World} {v v' : Value} {l : List α} {xs : List Value} {x : α} {cs : List Value} (h : Grow e T B wr v l xs) (hB : B ≤ wr.heap.size) (hb : Below wr.heap.size wr w2) (hx : e.Own (Fresh wr w2) w2 x cs)
    (h23 : Below w2.heap.size w2 w3) (h1 : w'.ownsRow B T e.n v' (l.length + 1) (xs ++ cs)) (h2 : w3.grownBy w' v.ownBlock) (h3 : ∀ g, v'.ownBlock = some g → v.ownBlock = some g ∨ w2.heap.size ≤ g) :
    Grow e T B w' v' (l ++ [x]) (xs ++ cs) := by
  have hr0 := h.row
  have hxl : xs.length = l.length * e.n := hr0.1
  have hn := e.ownLen hx
  have hG2 := h.below hb
  obtain ⟨_, P, p1, p2, p3⟩ := h
  obtain ⟨_, P2, _, _, _⟩ := hG2
  have hown : ∀ g, v.ownBlock = some g → g < wr.heap.size := fun g hg => (hr0.lt g hg).2
  have hs3 := h23.size
  have hs4 := h2.size
  have hsame : ∀ S : Bs, (∀ b, S b → b < w2.heap.size) → (∀ g, v.ownBlock = some g → ¬ S g) → Same S w2 w' := fun S hs hv k hk _ => by
    have e1 := h23.block k (hs k hk)
    have e2 := h2.block k (Nat.lt_of_lt_of_le (hs k hk) hs3) (fun e => hv k e.symm hk)
    exact e2.trans e1
  refine ⟨by rw [List.length_append]; exact h1, fun i => if i = l.length then Fresh wr w2 else P i, ?_, ?_, ?_⟩
  · intro i hi
    have hi' : i < l.length + 1 := by simpa using hi
    by_cases ei : i = l.length
    · subst ei
      simp only [if_true]
      refine ⟨fun b hx => ⟨by have := hx.1; omega, by have := hx.2; omega⟩, fun g hg hx => ?_⟩
      rcases h3 g hg with h | h
      · have := hown g h; have := hx.1; omega
      · have := hx.2; omega
    · simp only [if_neg ei]
      have hil : i < l.length := by omega
      have hbs := hb.size
      refine ⟨fun b hx => ⟨((p1 i hil).1 b hx).1, by have := ((p1 i hil).1 b hx).2; omega⟩, fun g hg hx => ?_⟩
      rcases h3 g hg with h | h
      · exact (p1 i hil).2 g h hx
      · have := ((p1 i hil).1 g hx).2; omega
  · intro i j hi hj hne b x1 x2
    have hi' : i < l.length + 1 := by simpa using hi
    have hj' : j < l.length + 1 := by simpa using hj
    by_cases ei : i = l.length
    · simp only [if_pos ei] at x1
      rw [if_neg (by omega)] at x2
      have := ((p1 j (by omega)).1 b x2).2
      have := x1.1
      omega
    · simp only [if_neg ei] at x1
      by_cases ej : j = l.length
      · simp only [if_pos ej] at x2
        have := ((p1 i (by omega)).1 b x1).2
        have := x2.1
        omega
      · simp only [if_neg ej] at x2
        exact p2 i j (by omega) (by omega) hne b x1 x2
  · intro i hi
    have hi' : i < l.length + 1 := by simpa using hi
    by_cases ei : i = l.length
    · subst ei
      refine ⟨cs, fun j hj => ?_, ?_⟩
      · rw [List.getElem?_append_right (by omega), hxl, Nat.add_sub_cancel_left, List.getElem?_eq_getElem hj]
      · have hxx : (l ++ [x])[l.length] = x := by rw [List.getElem_append_right (by omega)]; simp
        show e.Own (if l.length = l.length then _ else _) _ _ _
        rw [if_pos rfl, hxx]
        exact e.ownFrame hx (hsame _ (fun b h => h.2) (fun g hg hx => by have := hown g hg; have := hx.1; omega))
    · have hil : i < l.length := by omega
      obtain ⟨cs', q1, q2⟩ := p3 i hil
      have hn' := e.ownLen q2
      have hm : (i + 1) * e.n ≤ l.length * e.n := Nat.mul_le_mul_right _ (by omega)
      rw [Nat.add_mul] at hm
      refine ⟨cs', fun j hj => ?_, ?_⟩
      · rw [List.getElem?_append_left (by omega)]; exact q1 j hj
      · have hxx : (l ++ [x])[i] = l[i] := List.getElem_append_left (by omega)
        show e.Own (if i = l.length then _ else _) _ _ _
        rw [if_neg ei, hxx]
        have hbs := hb.size
        exact e.ownFrame (e.ownFrame q2 (Same.of_below' hb)) (hsame _ (fun b h => by have := ((p1 i hil).1 b h).2; omega) (p1 i hil).2)
theorem Grow.own {T : TypeId} {B : Nat} {w : World} {v : Value} {l : List α} {xs : List Value} (h : Grow e T B w v l xs) : SlOwn e (fun b => B ≤ b ∧ b < w.heap.size) w l v := by
  obtain ⟨hr, P, h1, h2, h3⟩ := h
  rcases hr.2 with ⟨rfl, h0⟩ | ⟨g, cap, cur, rfl, hB, hk, hc, _, hsz, ht⟩
  · have : l = [] := List.length_eq_zero_iff.1 h0
    subst this
    exact ⟨none, 0, rfl, Nat.le_refl _, fun _ => rfl, .inl rfl⟩
  · refine ⟨some ⟨g, 0, none⟩, cap, rfl, hc, (fun x => by cases x), .inr ⟨g, P, rfl, ⟨hB, (Array.getElem?_eq_some_iff.1 hk).1⟩, fun i hi => ⟨(h1 i hi).2 g rfl, (h1 i hi).1⟩, h2, fun i hi => ?_⟩⟩
    obtain ⟨cs, q1, q2⟩ := h3 i hi
    refine ⟨cs, ⟨cur, T, hk, fun j hj => ?_⟩, q2⟩
    have hn' := e.ownLen q2
    have hm : (i + 1) * e.n ≤ l.length * e.n := Nat.mul_le_mul_right _ (by omega)
    rw [Nat.add_mul] at hm
    have := q1 j hj
    rw [← ht, List.getElem?_take_of_lt (by omega), Array.getElem?_toList] at this
    exact this
/-- texts that a call has made -/
theorem own_texts {T : TypeId} {B : Nat} {w : World} {v : Value} {l : List ByteArray} (h : w.ownsRow B T 1 v l.length (l.map Value.string)) : SlOwn strE (fun b => B ≤ b ∧ b < w.heap.size) w l v :=
  Grow.own (T := T) (xs := l.map Value.string) ⟨h, fun _ => Nil, fun i _ => ⟨fun b x => x.elim, fun _ _ x => x⟩, fun _ _ _ _ _ _ x => x.elim, fun i hi => ⟨[.string l[i]], fun j hj => by
    have e : j = 0 := by simp at hj; exact hj
    subst e
    show (l.map Value.string)[i * 1 + 0]? = _
    rw [Nat.mul_one, Nat.add_zero, List.getElem?_map, List.getElem?_eq_getElem hi]; rfl, rfl⟩⟩
theorem own_slice3' {w : World} {B T z n : Nat} {v : Value} {xs : List Value} (h : w.ownsRow B T z v n xs) : ∃ p a c, v = .slice p a c := by
  rcases h.2 with ⟨rfl, _⟩ | ⟨g, cap, cur, rfl, _⟩
  · exact ⟨_, _, _, rfl⟩
  · exact ⟨_, _, _, rfl⟩
end
end Go.Proofs.YtmanlnlhpgdbpaaGreat
/- The helpers of the laws: marks laid into a name, and found there again. -/
namespace Go.Proofs.YtmanlnlhpgdbpaaGreat
open Go.RowKit
attribute [local go_sem ↓] Go.wp_at_zero Go.wp_at_succ

theorem grown_of {a b : World} (h : Below a.heap.size a b) (row : Option Nat) : a.grownBy b row := ⟨h.os, h.tape, h.output, h.size, fun k hk _ => h.block k hk⟩
theorem grown_tr {a b c : World} {r : Option Nat} (h : a.grownBy b r) (g : b.grownBy c r) : a.grownBy c r :=
  ⟨g.os.trans h.os, g.tape.trans h.tape, g.output.trans h.output, Nat.le_trans h.size g.size, fun k hk hne => (g.block k (Nat.lt_of_lt_of_le hk h.size) hne).trans (h.block k hk hne)⟩
theorem markText_from (w0 : World) (n : Nat) (w : World) (h0 : 0 < n) (hn : n ≤ 1000000000) (hB : Below w0.heap.size w0 w) :
    Calls Tryz.prog 52 #[.int .i64 n] w fun e w' => e = .returned (.string (mkT n)) ∧ Below w0.heap.size w0 w' :=
  (markText_any n w h0 hn).mono fun _ _ ⟨he, hb⟩ => ⟨he, hB.trans (hb.mono hB.size)⟩
end Go.Proofs.YtmanlnlhpgdbpaaGreat
/- AttrOf: the program's copies of texts, and its map of attributes by their names. -/
namespace Go.Proofs.YtmanlnlhpgdbpaaGreat
open Go.RowKit
attribute [local go_sem ↓] Go.wp_at_zero Go.wp_at_succ

theorem concat_copy (a : ByteArray) (w : World) (h : a.size ≤ 10000000) :
    Calls Tryz.prog 77 #[.slice (some ⟨w.heap.size, 0, none⟩) 1 1] (w.alloc (.cells #[.string a] 9)) fun e w' => e = .returned (.string a) ∧ Below w.heap.size w w' := by
  have := concat_any w.heap.size 0 1 [a] (w.alloc (.cells #[.string a] 9)) (by simp) (by simp) (by simp [joinL]; omega) (fun i hi => by
    match i, hi with
    | 0, _ => simp)
  rw [joinS_one] at this
  exact this.mono fun e w' ⟨he, hb⟩ => ⟨he, ((Below.refl _ _).alloc (Nat.le_refl _) _).trans (hb.mono (by simp))⟩
theorem take_snoc' {α : Type} (l : List α) (k : Nat) (h : k < l.length) : l.take (k + 1) = l.take k ++ [l[k]] := List.take_succ_eq_append_getElem h
set_option maxRecDepth 100000 in
set_option maxHeartbeats 1000000 in
theorem copyTexts_any (vo : Option Addr) (V : List ByteArray) (vc : Nat) (w : World) (hd : StrsAt w vo V) (hf : FitsV V) :
    Calls Tryz.prog 113 #[.slice vo V.length vc] w fun e w' => (∃ v, e = .returned v ∧ w'.ownsRow w.heap.size 9 1 v V.length (ss V)) ∧ Below w.heap.size w w' := by
  have hl := hf.1
  have HD := Lib.hid hd; have HF := Lib.hid hf; clear hd hf
  go_enter Tryz.func113, Tryz.ntmps113
  go_wp2_with fail
  go_loopw [3, 8] (fun v i wr => ∃ k : Nat, k ≤ V.length ∧ i = .int .i64 k ∧ wr.ownsRow w.heap.size 9 1 v (V.take k).length (ss (V.take k)) ∧ Below w.heap.size w wr) (fun _ i _ => V.length - (intOf i).toNat)
  case atStart => exact ⟨0, Nat.zero_le _, rfl, ⟨rfl, .inl ⟨rfl, rfl⟩⟩, Below.refl _ _⟩
  case round =>
    obtain ⟨k, hk, rfl, hown, hbel⟩ := hrel
    have hsz := hbel.size
    by_cases hlt : k < V.length
    · obtain ⟨p, off, rfl, hp0, hd1⟩ := HD.out.at hlt
      have hz := HF.out.at hlt
      have c1 := (hbel.cell (p := ⟨p, off + k, none⟩) hp0).trans hd1
      have HN := Lib.hid (take_snoc' V k hlt)
      have HL : Hid ((V.take k).length ≤ 1000000000) := Lib.hid (by simp; omega)
      have g1 : (0 : Int) ≤ (k : Int) := by omega
      have g2 : (k : Int) < (V.length : Int) := by omega
      clear hd1
      generalize V[k] = x at *
      generalize V.take k = pre at *
      go_wp2_with (first
        | (go_at_call 77; refine (concat_copy x wr (by omega)).mono ?_; rintro e w3 ⟨rfl, hb3⟩; have O3 := own_below hown hb3; have L3 := Nat.le_trans hsz hb3.size; have B3 := hbel.trans (hb3.mono hsz); clear hb3)
        | (at_builtin; refine append_str w.heap.size rfl _ _ rfl _ pre rfl O3 _ rfl HL.out L3 B3 ?_; intro v4 w4 hown4 hbel4 hsz4 _ _)
        | (fail "none"))
      go_roundw
      case rel => exact ⟨k + 1, by omega, by go_num, by rw [HN.out]; exact hown4, hbel4⟩
      case measure => simp [intOf]; omega
    · obtain rfl : k = V.length := by omega
      have HO : Hid (wr.ownsRow w.heap.size 9 1 u3 V.length (ss V)) := Lib.hid (by have h := hown; rw [List.take_length] at h; exact h)
      clear hown
      go_wp2
      go_ret
      exact ⟨⟨_, rfl, HO.out⟩, hbel⟩

end Go.Proofs.YtmanlnlhpgdbpaaGreat
/- joinRdns: what the program's text returns. -/
namespace Go.Proofs.YtmanlnlhpgdbpaaGreat
open Go.RowKit
attribute [local go_sem ↓] Go.wp_at_zero Go.wp_at_succ

set_option maxRecDepth 100000 in
set_option maxHeartbeats 2000000 in
theorem joinRdns_any (pb po pc : Nat) (ps : List (Option Addr × Nat × RdnL)) (w : World) (hp : PartsAt w pb po ps) (hm : ps.length ≤ 10) :
    Calls Tryz.prog 97 #[.slice (some ⟨pb, po, none⟩) ps.length pc] w fun e w' => (∃ v, e = .returned v ∧ w'.ownsRow w.heap.size 77 2 v (flat ps).length (rs (flat ps))) ∧ Below w.heap.size w w' := by
  have HP := Lib.hid hp; clear hp
  go_enter Tryz.func97, Tryz.ntmps97
  go_wp2
  go_loopw [3, 9] (fun v i wr => ∃ k : Nat, k ≤ ps.length ∧ i = .int .i64 k ∧ wr.ownsRow w.heap.size 77 2 v (flat (ps.take k)).length (rs (flat (ps.take k))) ∧ Below w.heap.size w wr) (fun _ i _ => ps.length - (intOf i).toNat)
  case atStart => exact ⟨0, Nat.zero_le _, rfl, ⟨rfl, .inl ⟨rfl, rfl⟩⟩, Below.refl _ _⟩
  case round =>
    obtain ⟨k, hk, rfl, hown, hbel⟩ := hrel
    by_cases hlt : k < ps.length
    · obtain ⟨hc0, hd, hf⟩ := HP.out.2 k hlt
      have hc := (hbel.cell (p := ⟨pb, po + k, none⟩) HP.out.1).trans hc0
      have hl := hf.1
      have HF := Lib.hid (flat_succ ps k hlt)
      have hown0 : wr.ownsRow w.heap.size 77 2 u3 (flat (ps.take k) ++ ps[k].2.2.take 0).length (rs (flat (ps.take k) ++ ps[k].2.2.take 0)) := by rw [List.take_zero, List.append_nil]; exact hown
      have HO := Lib.hid hown0; have HD := Lib.hid hd; have HFi := Lib.hid hf; have HC0 := Lib.hid hc0
      clear hown hown0 hd hf hc0
      have hpl := HP.out.len hm k
      generalize flat (ps.take k) = pre at *
      generalize ps[k].1 = ao at *
      generalize ps[k].2.1 = cp at *
      generalize ps[k].2.2 = d at *
      go_wp2_with fail
      go_loopw [3, 17] (fun v i wr => ∃ j : Nat, j ≤ d.length ∧ i = .int .i64 j ∧ wr.ownsRow w.heap.size 77 2 v (pre ++ d.take j).length (rs (pre ++ d.take j)) ∧ Below w.heap.size w wr) (fun _ i _ => d.length - (intOf i).toNat)
      case atStart => exact ⟨0, Nat.zero_le _, rfl, HO.out, hbel⟩
      case round =>
        clear hc HO hbel
        obtain ⟨j, hj, rfl, hown, hbel⟩ := hrel
        have hc := (hbel.cell (p := ⟨pb, po + k, none⟩) HP.out.1).trans HC0.out
        by_cases hjlt : j < d.length
        · obtain ⟨b, off, rfl, hb0, hd1, hd2⟩ := HD.out.at hjlt
          have hc1 := (hbel.cell (p := ⟨b, off + j * 2, none⟩) hb0).trans hd1
          have hc2 := (hbel.cell (p := ⟨b, off + j * 2 + 1, none⟩) hb0).trans hd2
          have hz := HFi.out.small hjlt
          have HN : Hid (d.take (j + 1) = d.take j ++ [d[j]]) := Lib.hid (List.take_succ_eq_append_getElem hjlt)
          clear hd1 hd2
          have HR : Hid (u3.ownBlock ≠ some wr.heap.size) := Lib.hid (fun e => by have := (hown.lt _ e).2; omega)
          have HO := Lib.hid hown
          have hpl2 : Hid ((pre ++ d.take j).length ≤ 1000000000) := Lib.hid (by rw [List.length_append, List.length_take]; omega)
          have HD2 : Hid (d[j] = (d[j].1, d[j].2)) := Lib.hid rfl
          generalize d[j].1 = A at *
          generalize d[j].2 = V at *
          go_wp2_with fail
          refine wp_world (fun W => (W.cell? ⟨wr.heap.size, 0, none⟩ = some (.string A) ∧ W.cell? ⟨wr.heap.size, 1, none⟩ = some (.string V)) ∧ W.ownsRow w.heap.size 77 2 u3 (pre ++ d.take j).length (rs (pre ++ d.take j)) ∧ Below w.heap.size w W)
            ⟨⟨by simp, by simp⟩, HO.out.alloc _, more hbel _⟩ ?_
          rintro W0 ⟨hW1, hW2, hW3⟩
          have HO2 := Lib.hid hW2
          generalize wr.heap.size = R at *
          clear hown HO hW2 hc hc1 hc2 hbel
          have hW4 : Below W0.heap.size W0 W0.drew := (Below.refl _ _).drew
          obtain ⟨hz1, hz2⟩ := hz
          go_region_held3 (fun W => W.cell? ⟨R, 0, none⟩ = some (.string A) ∧ W.cell? ⟨R, 1, none⟩ = some (.string V))
            (first | go_keep | exact keep_far hg5 HR.out (by assumption) | exact keep_two hb2 (by assumption))
            (first
              | (go_at_call 77; refine (concat_at W0 _ A _ hz1 ?_ ?_ ?_).mono ?_; (focus (first | (simp; done) | (simp; omega) | (exact Nat.lt_of_lt_of_le (by first | (simp; done) | (simp; omega)) hb2.size))); (focus (first | (simp; done) | (rw [bc _ _ (by first | (simp; done) | (simp; omega))]; simp; done))); (focus (first | assumption | exact more (by assumption) _ | exact (more (Below.refl _ _) _).drew | exact (more (more (Below.refl _ _) _) _).drew)); rintro e w2 ⟨rfl, hq2, hb2⟩; obtain ⟨bc, bf⟩ := bcell hb2)
              | (go_at_call 77; refine (concat_at W0 _ V _ hz2 ?_ ?_ ?_).mono ?_; (focus (first | (simp; done) | (simp; omega) | (exact Nat.lt_of_lt_of_le (by first | (simp; done) | (simp; omega)) hb2.size))); (focus (first | (simp; done) | (rw [bc _ _ (by first | (simp; done) | (simp; omega))]; simp; done))); (focus (first | assumption | exact more (by assumption) _ | exact (more (Below.refl _ _) _).drew | exact (more (more (Below.refl _ _) _) _).drew)); rintro e w2 ⟨rfl, hq2, hb2⟩; obtain ⟨bc, bf⟩ := bcell hb2)
              | (refine step_rdn2 w.heap.size (by rfl) _ _ (by rfl) _ (pre ++ d.take j) (by rfl) (own_below HO2.out hq2) _ _ (by rfl) hpl2.out (Nat.le_trans hW3.size hq2.size) (hW3.trans (hq2.mono hW3.size)) ?_; intro g cp5 w5 hown5 hbel5 hg5)
              | (fail "none"))
          all_goals
            rw [show (pre ++ d.take j).length + 1 = pre.length + j + 1 by rw [List.length_append, List.length_take]; omega] at hown5
            have HO5 := Lib.hid hown5
            clear hown5 bc bf
            go_wp2
            go_roundw
            case rel => exact ⟨j + 1, by omega, by go_num, by rw [HN.out, HD2.out, ← List.append_assoc]; exact HO5.out, hbel5⟩
            case measure => simp [intOf]; omega
        · have e : d.take j = d := List.take_of_length_le (by omega)
          rw [e] at hown
          have HO := Lib.hid hown
          clear hown e
          go_wp2
          go_roundw
          case rel => exact ⟨k + 1, by omega, by go_num, by rw [HF.out]; exact HO.out, hbel⟩
          case measure => simp [intOf]; omega
    · have e : ps.take k = ps := List.take_of_length_le (by omega)
      rw [e] at hown
      have HO := Lib.hid hown
      clear hown e
      go_wp2
      go_ret
      exact ⟨⟨_, rfl, HO.out⟩, hbel⟩
end Go.Proofs.YtmanlnlhpgdbpaaGreat
/- Rows that the program makes, as owned ones; names joined. -/
namespace Go.Proofs.YtmanlnlhpgdbpaaGreat
open Go.RowKit

theorem own_rdns {T : TypeId} {B : Nat} {w : World} {v : Value} {l : RdnL} (h : w.ownsRow B T 2 v l.length (rs l)) : SlOwn rdnE (fun b => B ≤ b ∧ b < w.heap.size) w l v :=
  Grow.own (e := rdnE) (T := T) (xs := rs l) ⟨h, fun _ => Nil, fun i _ => ⟨fun b x => x.elim, fun _ _ x => x⟩, fun _ _ _ _ _ _ x => x.elim, fun i hi => ⟨[.string l[i].1, .string l[i].2], fun j hj => by
    obtain ⟨g0, g1⟩ := rs_get l i hi
    match j, hj with
    | 0, _ => exact g0
    | 1, _ => exact g1, rdn_pack (S := Nil) (w := w) l[i].1 l[i].2 trivial⟩⟩
theorem own_nilS {α : Type} (e : Enc α) (S : Bs) (w : World) : SlOwn e S w [] (.slice none 0 0) := ⟨none, 0, rfl, Nat.le_refl _, fun _ => rfl, .inl rfl⟩
/-- one name joined is a copy of it -/
theorem joinOne_any (o k : _) (dn : RdnL) (W : World) (T : TypeId) (hd : DnAt W o dn) (hf : Fits dn) : Calls Tryz.prog 97 #[.slice (some ⟨W.heap.size, 0, none⟩) 1 1] (W.alloc (.cells #[.slice o dn.length k] T)) fun e w' => ∃ u, e = .returned u ∧ SlOwn rdnE (Fresh W w') w' dn u ∧ Below W.heap.size W w' := by
  have := joinRdns_any W.heap.size 0 1 [(o, k, dn)] (W.alloc (.cells #[.slice o dn.length k] T)) ⟨by simp, fun i hi => by
    match i, hi with
    | 0, _ => exact ⟨by simp, hd.below (more' (Below.refl _ _) _), hf⟩⟩ (by simp)
  have e : flat [(o, k, dn)] = dn := by simp [flat]
  rw [e] at this
  exact this.mono fun e w' ⟨⟨v, he, ho⟩, hb⟩ => ⟨v, he, (own_rdns ho).wide (fun b h => ⟨by have h1 : (W.alloc (.cells #[.slice o dn.length k] T)).heap.size ≤ b := h.1; have h2 : (W.alloc (.cells #[.slice o dn.length k] T)).heap.size = W.heap.size + 1 := World.size_alloc W _; omega, h.2⟩), (more' (Below.refl _ _) _).trans (hb.mono (by simp))⟩
end Go.Proofs.YtmanlnlhpgdbpaaGreat
/- The program copies a Attr. -/
namespace Go.Proofs.YtmanlnlhpgdbpaaGreat
open Go.RowKit
attribute [local go_sem ↓] Go.wp_at_zero Go.wp_at_succ

set_option maxRecDepth 100000 in
set_option maxHeartbeats 4000000 in
theorem cpyAttr_any {S : Bs} (a0 : ByteArray) (a1 : (List ByteArray)) (v1 : Value) (w : World) (h1 : SlAt strE S w a1 v1) (hz : attrE.sz (a0, a1) ≤ 1048576) :
    Calls Tryz.prog 99 #[.agg #[.string a0, v1]] w fun e w' => ∃ u1, e = .returned (.agg #[.string a0, u1]) ∧ attrE.Own (Fresh w w') w' (a0, a1) [.string a0, u1] ∧ Below w.heap.size w w' := by
  have HE : attrE.sz (a0, a1) = a0.size + ((a1.length + szL strE a1)) := rfl
  rw [HE] at hz
  obtain ⟨o1, k1, rfl⟩ := h1.sl
  have z0 : a0.size ≤ 1048576 := by omega
  have CT1 : Hid (∀ W : World, Below w.heap.size w W → Calls Tryz.prog 113 #[.slice o1 a1.length k1] W fun e w' => ∃ u, e = .returned u ∧ SlOwn strE (Fresh W w') w' a1 u ∧ Below W.heap.size W w') := Lib.hid (fun W b => (copyTexts_any o1 a1 k1 W ((strs_of h1).below b) (fits_str (by omega))).mono fun e w' ⟨⟨v, he, ho⟩, hb⟩ => ⟨v, he, own_texts ho, hb⟩)
  clear h1 hz HE
  go_enter Tryz.func99, Tryz.ntmps99
  go_wp2
  refine wp_world (fun W => Below w.heap.size w W ∧ Blk W w.heap.size [.string a0, .slice o1 a1.length k1] ∧ Blk W (w.heap.size + 1) [.string ⟨#[]⟩, .slice none 0 0]) ⟨more' (more' (Below.refl _ _) _) _, (Blk.new _ _ _).alloc _, blk_at _ _ _ (by simp)⟩ ?_
  rintro W0 ⟨B, ta, tr⟩
  have TA := Lib.hid ta; have TR := Lib.hid tr
  have hn : w.heap.size + 1 < W0.heap.size := tr.lt
  clear ta tr
  have SK : Hid (∀ Z' : World, Below W0.heap.size W0 Z' → Z'.cell? ⟨w.heap.size, 0, none⟩ = some (.string a0) ∧ Z'.cell? ⟨w.heap.size, 1, none⟩ = some (.slice o1 a1.length k1)) := Lib.hid (fun Z' h => ⟨(TA.out.below h).cell 0 rfl, (TA.out.below h).cell 1 rfl⟩)
  have BD : Below W0.heap.size W0 W0.drew := (Below.refl _ _).drew
  refine wp_region_held_drew (S := (fun Z' => Z'.cell? ⟨w.heap.size, 0, none⟩ = some (.string a0) ∧ Z'.cell? ⟨w.heap.size, 1, none⟩ = some (.slice o1 a1.length k1))) (by kernel_rfl) ?_ (fun hHeld => ?_)
  · (try dsimp only)
    first | exact SK.out _ (by assumption) | exact SK.out _ BD | exact SK.out _ (more' (by assumption) _) | exact SK.out _ (more' BD _) | exact SX.out _ _
  refine wpAnyH_take (i := 0) (oi := { dst := some 3, op := Op.fieldAddr 109 (Operand.tmp 1) 0, type := 0, pos := "l03_entry.go:112", after := #[], guard := none }) (v := ?_) rfl (by kernel_rfl) (by kernel_rfl) (by kernel_rfl) (fun _ _ _ h => h) (Or.inl ⟨by rfl, ?_⟩) (by assumption) ?_
  rotate_left
  · intro w hSw; (try dsimp only at hSw); go_simp; (try with_reducible rfl)
  (try simp only [Act.put, List.setIfInBounds_toArray, List.set_cons_zero, List.set_cons_succ])
  refine wpAnyH_take (i := 1) (oi := { dst := some 4, op := Op.load 9 (Operand.tmp 3), type := 9, pos := "l03_entry.go:112", after := #[{ on := 0, ground := Ground.data }], guard := none }) (v := ?_) rfl (by kernel_rfl) (by kernel_rfl) (by kernel_rfl) (fun _ _ _ h => h) (Or.inl ⟨by rfl, ?_⟩) (by assumption) ?_
  rotate_left
  · intro w hSw; (try dsimp only at hSw); go_simp; (try with_reducible rfl)
  (try simp only [Act.put, List.setIfInBounds_toArray, List.set_cons_zero, List.set_cons_succ])
  refine wpAnyH_take (i := 4) (oi := { dst := some 7, op := Op.fieldAddr 109 (Operand.tmp 1) 1, type := 0, pos := "l03_entry.go:112", after := #[], guard := none }) (v := ?_) rfl (by kernel_rfl) (by kernel_rfl) (by kernel_rfl) (fun _ _ _ h => h) (Or.inl ⟨by rfl, ?_⟩) (by assumption) ?_
  rotate_left
  · intro w hSw; (try dsimp only at hSw); go_simp; (try with_reducible rfl)
  (try simp only [Act.put, List.setIfInBounds_toArray, List.set_cons_zero, List.set_cons_succ])
  refine wpAnyH_take (i := 5) (oi := { dst := some 8, op := Op.load 94 (Operand.tmp 7), type := 94, pos := "l03_entry.go:112", after := #[{ on := 4, ground := Ground.data }], guard := none }) (v := ?_) rfl (by kernel_rfl) (by kernel_rfl) (by kernel_rfl) (fun _ _ _ h => h) (Or.inl ⟨by rfl, ?_⟩) (by assumption) ?_
  rotate_left
  · intro w hSw; (try dsimp only at hSw); go_simp; (try with_reducible rfl)
  (try simp only [Act.put, List.setIfInBounds_toArray, List.set_cons_zero, List.set_cons_succ])
  refine wpAnyH_ready (rs := [2]) (by kernel_rfl) (by simp) ?_
  refine AllReadyH.cons (o := { dst := some 5, op := Op.buildSlice 94 1 #[(0, Operand.tmp 4)], type := 94, pos := "l03_entry.go:112", after := #[{ on := 1, ground := Ground.data }], guard := none }) rfl (fun K hK => ?_) (AllReadyH.nil)
  go_simp
  clear hHeld
  refine hK.out _ _ ?_ (fun hHeld => ?_)
  · (try dsimp only)
    first | exact SK.out _ (by assumption) | exact SK.out _ BD | exact SK.out _ (more' (by assumption) _) | exact SK.out _ (more' BD _) | exact SX.out _ _
  clear hK K
  (try simp only [Act.put, List.setIfInBounds_toArray, List.set_cons_zero, List.set_cons_succ])
  refine wpAnyH_ready (rs := [3]) (by kernel_rfl) (by simp) ?_
  refine AllReadyH.cons (o := { dst := some 6, op := Op.call { callee := Callee.value (Operand.func 77), args := #[Operand.tmp 5], argTypes := #[94] }, type := 9, pos := "l03_entry.go:112", after := #[{ on := 2, ground := Ground.data }], guard := none }) rfl (fun K hK => ?_) (AllReadyH.nil)
  go_simp
  refine (concat_copy a0 W0.drew (by omega)).mono ?_
  rintro e w1 ⟨rfl, hb⟩
  have D1 : Below W0.heap.size W0 w1 := BD.trans (hb.mono BD.size)
  have b1 : Below w.heap.size w w1 := B.trans (D1.mono B.size)
  have hs1 : W0.heap.size ≤ w1.heap.size := hb.size
  clear hb
  clear hHeld
  refine hK.out _ _ ?_ (fun hHeld => ?_)
  · (try dsimp only)
    first | exact SK.out _ (by assumption) | exact SK.out _ BD | exact SK.out _ (more' (by assumption) _) | exact SK.out _ (more' BD _) | exact SX.out _ _
  clear hK K
  (try simp only [Act.put, List.setIfInBounds_toArray, List.set_cons_zero, List.set_cons_succ])
  refine wpAnyH_ready (rs := [6]) (by kernel_rfl) (by simp) ?_
  refine AllReadyH.cons (o := { dst := some 9, op := Op.call { callee := Callee.value (Operand.func 113), args := #[Operand.tmp 8], argTypes := #[94] }, type := 94, pos := "l03_entry.go:112", after := #[{ on := 5, ground := Ground.data }, { on := 3, ground := Ground.chain }], guard := none }) rfl (fun K hK => ?_) (AllReadyH.nil)
  go_simp
  refine (CT1.out w1 b1).mono ?_
  rintro e w2 ⟨u1, rfl, q1, hb⟩
  have D2 : Below W0.heap.size W0 w2 := D1.trans (hb.mono D1.size)
  have b2 : Below w.heap.size w w2 := B.trans (D2.mono B.size)
  have hs2 : w1.heap.size ≤ w2.heap.size := hb.size
  have Q1 := Lib.hid q1; obtain ⟨p1, e1, rfl⟩ := q1.at.sl; clear q1
  clear hb
  have TX := Lib.hid (TA.out.below D2); have RX := Lib.hid (TR.out.below D2)
  have x0 := RX.out.cell 0 rfl; have f0 := RX.out.soft 0
  have x1 := RX.out.cell 1 rfl; have f1 := RX.out.soft 1
  have SX : Hid (∀ y0 y1 : Value, ((w2.setCell ⟨w.heap.size + 1, 0, none⟩ y0).setCell ⟨w.heap.size + 1, 1, none⟩ y1).cell? ⟨w.heap.size, 0, none⟩ = some (.string a0) ∧ ((w2.setCell ⟨w.heap.size + 1, 0, none⟩ y0).setCell ⟨w.heap.size + 1, 1, none⟩ y1).cell? ⟨w.heap.size, 1, none⟩ = some (.slice o1 a1.length k1)) := Lib.hid (fun y0 y1 => ⟨((TX.out.far (by omega) y0).far (by omega) y1).cell 0 rfl, ((TX.out.far (by omega) y0).far (by omega) y1).cell 1 rfl⟩)
  clear hHeld
  refine hK.out _ _ ?_ (fun hHeld => ?_)
  · (try dsimp only)
    first | exact SK.out _ (by assumption) | exact SK.out _ BD | exact SK.out _ (more' (by assumption) _) | exact SK.out _ (more' BD _) | exact SX.out _ _
  clear hK K
  (try simp only [Act.put, List.setIfInBounds_toArray, List.set_cons_zero, List.set_cons_succ])
  refine wpAnyH_take (i := 7) (oi := { dst := some 10, op := Op.build 109 #[(0, Operand.tmp 6), (1, Operand.tmp 9)], type := 109, pos := "l03_entry.go:112", after := #[{ on := 3, ground := Ground.data }, { on := 6, ground := Ground.data }], guard := none }) (v := ?_) rfl (by kernel_rfl) (by kernel_rfl) (by kernel_rfl) (fun _ _ _ h => h) (Or.inl ⟨by rfl, ?_⟩) (by assumption) ?_
  rotate_left
  · intro w hSw; (try dsimp only at hSw); go_simp; (try with_reducible rfl)
  (try simp only [Act.put, List.setIfInBounds_toArray, List.set_cons_zero, List.set_cons_succ])
  refine wpAnyH_ready (rs := [8]) (by kernel_rfl) (by simp) ?_
  refine AllReadyH.cons (o := { dst := none, op := Op.store 109 (Operand.tmp 2) (Operand.tmp 10), type := 0, pos := "l03_entry.go:112", after := #[{ on := 7, ground := Ground.data }, { on := 6, ground := Ground.chain }, { on := 0, ground := Ground.phase }, { on := 1, ground := Ground.phase }, { on := 2, ground := Ground.phase }, { on := 3, ground := Ground.phase }, { on := 4, ground := Ground.phase }, { on := 5, ground := Ground.phase }, { on := 6, ground := Ground.phase }, { on := 7, ground := Ground.phase }], guard := none }) rfl (fun K hK => ?_) (AllReadyH.nil)
  go_simp
  clear hHeld
  refine hK.out _ _ ?_ (fun hHeld => ?_)
  · (try dsimp only)
    first | exact SK.out _ (by assumption) | exact SK.out _ BD | exact SK.out _ (more' (by assumption) _) | exact SK.out _ (more' BD _) | exact SX.out _ _
  clear hK K
  (try simp only [Act.put, List.setIfInBounds_toArray, List.set_cons_zero, List.set_cons_succ])
  refine wpAnyH_done (by kernel_rfl) ?_ _
  have TE := ((RX.out.set 0 (.string a0)).set 1 (.slice p1 a1.length e1))
  have j0 := TE.cell 0 rfl
  have j1 := TE.cell 1 rfl
  clear TE
  go_wp2
  refine bodyPost_ret (v := .agg #[.string a0, .slice p1 a1.length e1]) (by simp [results, Tryz.results99, go_sem, j0, j1]) rfl ⟨_, rfl, ?_, ?_⟩
  · have hdr : W0.drew.heap.size = W0.heap.size := rfl
    have g1 := ((Q1.out.frame (Same.set _ (g := w.heap.size + 1) 0 (.string a0) (by intro h; have := h.1; omega))).frame (Same.set _ (g := w.heap.size + 1) 1 (.slice p1 a1.length e1) (by intro h; have := h.1; omega)))
    exact attr_pack a0 a1 _ (Fresh w1 w2) ⟨g1, fun k z => ⟨by have := z.1; omega, by have := z.2; show _ < (World.heap _).size; simp only [setCell_size]; omega⟩, trivial⟩
  · exact ((b2.setCell (p := ⟨w.heap.size + 1, 0, none⟩) (by show w.heap.size ≤ w.heap.size + 1; omega) _).setCell (p := ⟨w.heap.size + 1, 1, none⟩) (by show w.heap.size ≤ w.heap.size + 1; omega) _)
end Go.Proofs.YtmanlnlhpgdbpaaGreat
/- The helpers of the laws: copies. -/
namespace Go.Proofs.YtmanlnlhpgdbpaaGreat
open Go.RowKit
attribute [local go_sem ↓] Go.wp_at_zero Go.wp_at_succ

theorem Tryz.infoTString : (Tryz.prog.info? 9).map (fun i => (i.zero, i.size, i.bytes)) = some (some (.string ByteArray.empty), 1, 16) := by kernel_rfl
theorem mkString (n : Nat) (hn : n ≤ 1048576) (W : World) : ∃ C : Array Value, C.size = n * 1 ∧
    (Instr.makeSlice 94 (.int .i64 (n : Int)) (.int .i64 (n : Int))).run Tryz.prog W = .ok (.slice (some ⟨W.heap.size, 0, none⟩) n n) (W.alloc (.cells C 9)) := by
  obtain ⟨i0, hi, hz0, hz1, hz2⟩ := info_parts Tryz.infoTString
  have := run_make (P := Tryz.prog) W 94 9 i0 _ Tryz.underlying94 hi hz0 .i64 .i64 (n : Int) (n : Int) (by omega) (by omega) (by rw [hz2]; omega) (by omega)
  rw [hz1] at this
  refine ⟨madeCells (Value.cells (.string ByteArray.empty)) (n * 1), size_madeCells _ _, ?_⟩
  simpa using this
set_option maxRecDepth 100000 in
set_option maxHeartbeats 4000000 in
theorem toStringS_at {S : Bs} (v : Value) (d : List ByteArray) (w : World) (hd : SlAt strE S w d v) (hz : d.length + szL strE d ≤ 1048576) :
    Calls Tryz.prog 91 #[v] w fun e w' => ∃ u, e = .returned u ∧ SlOwn strE (Fresh w w') w' d u ∧ Below w.heap.size w w' := by
  obtain ⟨ao, cap, rfl⟩ := hd.sl
  have HD := Lib.hid hd; clear hd
  have HL := Lib.hid hz
  have hl : d.length ≤ 1048576 := by omega
  clear hz
  obtain ⟨C, hC, hmk⟩ := mkString d.length hl w
  have HC := Lib.hid hC; clear hC
  go_enter Tryz.func91, Tryz.ntmps91
  go_wp2
  clear hmk
  go_loopw [4] (fun i wr => ∃ k : Nat, k ≤ d.length ∧ i = .int .i64 k ∧ Build strE wr w.heap.size d.length (d.take k) ∧ Below w.heap.size w wr) (fun i _ => d.length - (intOf i).toNat)
  case atStart => exact ⟨0, Nat.zero_le _, rfl, Build.new _ _ _ _ HC.out, (Below.refl _ _).alloc (Nat.le_refl _) _⟩
  case round =>
    obtain ⟨k, hk, rfl, hR, hbel⟩ := hrel
    have HR := Lib.hid hR; clear hR
    have hsz := hbel.size
    by_cases hlt : k < d.length
    · obtain ⟨b, off, A, rfl, _, hb0, hx, hc1⟩ := str_row (HD.out.frame (Same.of_below' hbel)) hlt
      have HT : Hid (d.take (k + 1) = d.take k ++ [A]) := Lib.hid (by rw [List.take_succ_eq_append_getElem hlt, hx])
      have HK : Hid ((d.take k).length = k) := Lib.hid (by rw [List.length_take]; omega)
      clear hx
      obtain ⟨x, c0⟩ := HR.out.cell (k := k) (u := 0) hlt (by decide)
      have c0 : wr.cell? ⟨w.heap.size, k, none⟩ = some x := by have e1 : k * strE.n + 0 = k := by (show k * 1 + 0 = k); omega
                                                               rw [e1] at c0; exact c0
      have f0 := HR.out.soft k
      go_wp2
      go_roundw
      case rel => exact ⟨k + 1, by omega, by go_num, by rw [HT.out]; exact HR.out.row (o := k) (cs := [.string A]) (by rw [HK.out]; exact hlt) (by rw [HK.out]; show k = k * 1; omega) (Below.refl _ _) rfl, hbel.setCell (Nat.le_refl _) _⟩
      case measure => simp [intOf]; omega
    · have e : d.take k = d := List.take_of_length_le (by omega)
      rw [e] at HR
      clear e
      go_wp2
      go_ret
      exact ⟨_, rfl, HR.out.own, hbel⟩
end Go.Proofs.YtmanlnlhpgdbpaaGreat
/- The helpers of the laws: copies. -/
namespace Go.Proofs.YtmanlnlhpgdbpaaGreat
open Go.RowKit
attribute [local go_sem ↓] Go.wp_at_zero Go.wp_at_succ

theorem Tryz.infoTAttr : (Tryz.prog.info? 109).map (fun i => (i.zero, i.size, i.bytes)) = some (some (.agg #[.string ByteArray.empty, .slice none 0 0]), 2, 40) := by kernel_rfl
theorem mkAttr (n : Nat) (hn : n ≤ 1048576) (W : World) : ∃ C : Array Value, C.size = n * 2 ∧
    (Instr.makeSlice 44 (.int .i64 (n : Int)) (.int .i64 (n : Int))).run Tryz.prog W = .ok (.slice (some ⟨W.heap.size, 0, none⟩) n n) (W.alloc (.cells C 109)) := by
  obtain ⟨i0, hi, hz0, hz1, hz2⟩ := info_parts Tryz.infoTAttr
  have := run_make (P := Tryz.prog) W 44 109 i0 _ Tryz.underlying44 hi hz0 .i64 .i64 (n : Int) (n : Int) (by omega) (by omega) (by rw [hz2]; omega) (by omega)
  rw [hz1] at this
  refine ⟨madeCells (Value.cells (.agg #[.string ByteArray.empty, .slice none 0 0])) (n * 2), size_madeCells _ _, ?_⟩
  simpa using this
set_option maxRecDepth 100000 in
set_option maxHeartbeats 4000000 in
theorem toAttr_at {S : Bs} (a0 : ByteArray) (a1 : (List ByteArray)) (v1 : Value) (w : World) (h1 : SlAt strE S w a1 v1) (hz : attrE.sz (a0, a1) ≤ 1048576) :
    Calls Tryz.prog 73 #[.agg #[.string a0, v1]] w fun e w' => ∃ u1, e = .returned (.agg #[.string a0, u1]) ∧ attrE.Own (Fresh w w') w' (a0, a1) [.string a0, u1] ∧ Below w.heap.size w w' := by
  have HE : attrE.sz (a0, a1) = a0.size + ((a1.length + szL strE a1)) := rfl
  rw [HE] at hz
  have C1 : Hid (∀ W : World, Below w.heap.size w W → Calls Tryz.prog 91 #[v1] W fun e w' => ∃ u, e = .returned u ∧ SlOwn strE (Fresh W w') w' a1 u ∧ Below W.heap.size W w') := Lib.hid (fun W b => toStringS_at v1 a1 W (h1.frame (Same.of_below' b)) (by omega))
  obtain ⟨o1, k1, rfl⟩ := h1.sl
  clear hz HE h1
  go_enter Tryz.func73, Tryz.ntmps73
  go_wp2_with fail
  refine calls_by (fun W => Below w.heap.size w W ∧ Blk W w.heap.size [.string a0, .slice o1 a1.length k1] ∧ Blk W (w.heap.size + 1) [.string ⟨#[]⟩, .slice none 0 0] ∧ Blk W (w.heap.size + 1 + 1) [.string a0, .slice none 0 0]) ⟨more' (more' (more' (Below.refl _ _) _) _) _, ((Blk.new _ _ _).alloc _).alloc _, (blk_at _ _ _ (by simp)).alloc _, blk_at _ _ _ (by simp)⟩ ?_
  rintro W0 ⟨b0, t0, r0, s0⟩
  have hn : w.heap.size + 1 + 1 < W0.heap.size := s0.lt
  refine (C1.out W0 b0).mono ?_
  rintro e y1 ⟨u1, rfl, q1, hb⟩
  obtain ⟨p1, j1, rfl⟩ := q1.at.sl
  have T := Lib.hid (t0.below hb); have Rr := Lib.hid (r0.below hb); have U := Lib.hid (s0.below hb); have B := Lib.hid (b0.trans (hb.mono b0.size)); have hs1 := hb.size
  have Q1 := Lib.hid q1
  clear t0 r0 s0 b0 hb q1 C1
  have m0 := T.out.cell 0 rfl
  have c0 := U.out.cell 0 rfl
  have f0 := U.out.soft 0
  have m1 := T.out.cell 1 rfl
  have c1 := U.out.cell 1 rfl
  have f1 := U.out.soft 1
  have TE := (((Rr.out.far (R := w.heap.size + 1 + 1) (j := 1) (by omega) (.slice p1 a1.length j1)).set 0 (.string a0)).set 1 (.slice p1 a1.length j1))
  have d0 := Rr.out.cell 0 rfl
  have g0 := Rr.out.soft 0
  have k100 := TE.cell 0 rfl
  have d1 := Rr.out.cell 1 rfl
  have g1 := Rr.out.soft 1
  have k101 := TE.cell 1 rfl
  clear TE
  go_wp2_with fail
  refine bodyPost_ret (v := .agg #[.string a0, .slice p1 a1.length j1]) (by simp [results, Tryz.results73, go_sem, k100, k101]) rfl ⟨_, rfl, ?_, ?_⟩
  · exact attr_pack a0 a1 _ (Fresh W0 y1) ⟨(((Q1.out.frame (Same.set _ _ _ (by intro h; have := h.1; omega))).frame (Same.set _ _ _ (by intro h; have := h.1; omega))).frame (Same.set _ _ _ (by intro h; have := h.1; omega))), (fun k z => ⟨by have := z.1; omega, by have := z.2; show _ < (World.heap _).size; simp only [setCell_size]; omega⟩), trivial⟩
  · exact (((B.out.setCell (p := ⟨w.heap.size + 1 + 1, 1, none⟩) (by show w.heap.size ≤ w.heap.size + 1 + 1; omega) _).setCell (p := ⟨w.heap.size + 1, 0, none⟩) (by show w.heap.size ≤ w.heap.size + 1; omega) _).setCell (p := ⟨w.heap.size + 1, 1, none⟩) (by show w.heap.size ≤ w.heap.size + 1; omega) _)
set_option maxRecDepth 100000 in
set_option maxHeartbeats 4000000 in
theorem toAttrS_at {S : Bs} (v : Value) (d : List AttrT) (w : World) (hd : SlAt attrE S w d v) (hz : d.length + szL attrE d ≤ 1048576) :
    Calls Tryz.prog 44 #[v] w fun e w' => ∃ u, e = .returned u ∧ SlOwn attrE (Fresh w w') w' d u ∧ Below w.heap.size w w' := by
  obtain ⟨ao, cap, rfl⟩ := hd.sl
  have HD := Lib.hid hd; clear hd
  have HL := Lib.hid hz
  have hl : d.length ≤ 1048576 := by omega
  clear hz
  obtain ⟨C, hC, hmk⟩ := mkAttr d.length hl w
  have HC := Lib.hid hC; clear hC
  go_enter Tryz.func44, Tryz.ntmps44
  go_wp2
  clear hmk
  go_loopw [4] (fun i wr => ∃ k : Nat, k ≤ d.length ∧ i = .int .i64 k ∧ Build attrE wr w.heap.size d.length (d.take k) ∧ Below w.heap.size w wr) (fun i _ => d.length - (intOf i).toNat)
  case atStart => exact ⟨0, Nat.zero_le _, rfl, Build.new _ _ _ _ HC.out, (Below.refl _ _).alloc (Nat.le_refl _) _⟩
  case round =>
    obtain ⟨k, hk, rfl, hR, hbel⟩ := hrel
    have HR := Lib.hid hR; clear hR
    have hsz := hbel.size
    by_cases hlt : k < d.length
    · obtain ⟨b, off, a0, a1, v1, rfl, _, hb0, hx, ⟨hc0, hc1⟩, s1, _⟩ := attr_row (HD.out.frame (Same.of_below' hbel)) hlt
      have HT : Hid (d.take (k + 1) = d.take k ++ [(a0, a1)]) := Lib.hid (by rw [List.take_succ_eq_append_getElem hlt, hx])
      have HK : Hid ((d.take k).length = k) := Lib.hid (by rw [List.length_take]; omega)
      have HZ : Hid (attrE.sz (a0, a1) ≤ 1048576) := Lib.hid (by have h1 := szL_mem attrE (List.getElem_mem hlt); rw [hx] at h1; have := HL.out; omega)
      clear hx
      have HV1 := Lib.hid s1; clear s1
      obtain ⟨o1, k1, rfl⟩ := HV1.out.sl
      go_wp2_with fail
      refine (toAttr_at a0 a1 _ wr HV1.out HZ.out).mono ?_
      rintro e w2 ⟨u1, rfl, hq, hb2⟩
      have HR2 := Lib.hid (HR.out.below hb2)
      have B2 := Lib.hid (hbel.trans (hb2.mono hsz))
      have HQ := Lib.hid hq
      have HB := Lib.hid hb2
      clear hb2 hq hc0 hc1
      have hsl := attr_sl HQ.out rfl
      obtain ⟨p1, l1, j1, rfl⟩ := hsl
      obtain ⟨x0, c0⟩ := HR2.out.cell (k := k) (u := 0) hlt (by decide)
      have c0 : w2.cell? ⟨w.heap.size, k * 2, none⟩ = some x0 := c0
      have f0 := HR2.out.soft (k * 2)
      obtain ⟨x1, c1⟩ := HR2.out.cell (k := k) (u := 1) hlt (by decide)
      have c1 : w2.cell? ⟨w.heap.size, k * 2 + 1, none⟩ = some x1 := c1
      have f1 := HR2.out.soft (k * 2 + 1)
      go_wp2
      go_roundw
      case rel => exact ⟨k + 1, by omega, by go_num, by rw [HT.out]; exact HR.out.row (o := k * 2) (cs := [.string a0, .slice p1 l1 j1]) (by rw [HK.out]; exact hlt) (by rw [HK.out]; rfl) HB.out HQ.out, ((B2.out.setCell (Nat.le_refl _) _).setCell (Nat.le_refl _) _)⟩
      case measure => simp [intOf]; omega
    · have e : d.take k = d := List.take_of_length_le (by omega)
      rw [e] at HR
      clear e
      go_wp2
      go_ret
      exact ⟨_, rfl, HR.out.own, hbel⟩
end Go.Proofs.YtmanlnlhpgdbpaaGreat
/- The program copies a list of Attr. -/
namespace Go.Proofs.YtmanlnlhpgdbpaaGreat
open Go.RowKit
attribute [local go_sem ↓] Go.wp_at_zero Go.wp_at_succ

section
variable {ops : Array Oper} {rest : List Oper} {o : Oper} {a : Act} {Q : Exit → Act → World → Prop} {w3 : World}
theorem app_attr (B : Nat) (hgd : o.guard = none) (s x : Operand)
    (ho : o.op = .call { callee := .builtin .append, args := #[s, x], argTypes := #[44, 44] }) (v : Value) (n : Nat) (xs : List Value) (hs : a.eval s = v) (hown : w3.ownsRow B 109 2 v n xs)
    (a0 : ByteArray) (p1 : Option Addr) (m1 c1 : Nat) (N : Nat) (hN : N = w3.heap.size) (hx : a.eval x = .slice (some ⟨N, 0, none⟩) 1 1) (hlen : n ≤ 100000000) (hB : B ≤ w3.heap.size)
    (h : ∀ g cap w', w'.ownsRow B 109 2 (.slice (some ⟨g, 0, none⟩) (n + 1) cap) (n + 1) (xs ++ [.string a0, .slice p1 m1 c1]) → (w3.alloc (.cells #[.string a0, .slice p1 m1 c1] 109)).grownBy w' v.ownBlock → (v.ownBlock = some g ∨ g = w3.heap.size + 1) → wpList Tryz.prog ops Q rest (a.put o.dst (.slice (some ⟨g, 0, none⟩) (n + 1) cap)) w') :
    wpList Tryz.prog ops Q (o :: rest) a (w3.alloc (.cells #[.string a0, .slice p1 m1 c1] 109)) := by
  subst hN
  obtain ⟨i0, hi, hz0, hz1, hz2⟩ := info_parts Tryz.infoTAttr
  refine wpList_append_lies _ hgd s x 44 ho B 109 i0 _ 2 40 Tryz.underlying44 hi hz0 hz1 hz2 rfl (by decide) v n xs hs (hown.alloc _) ⟨w3.heap.size, 0, none⟩ 1 1 [.string a0, .slice p1 m1 c1] hx rfl (World.news_of_block (cs := #[.string a0, .slice p1 m1 c1]) (t := 109) (fr := (0, 0)) (heap_alloc_new _ _)) ?_ (by omega) ?_ ?_ ?_ (w3.heap.size + 1) (by simp) ?_
  · intro u hu; simp at hu; rcases hu with rfl | rfl <;> rfl
  · unfold maxLen; omega
  · omega
  · simp; omega
  · intro g cap w' h1 h2 h3 _
    exact h g cap w' h1 h2 h3
end
set_option maxRecDepth 100000 in
set_option maxHeartbeats 4000000 in
theorem cpysAttr_any {S : Bs} (v : Value) (d : List AttrT) (w : World) (hd : SlAt attrE S w d v) (hz : d.length + szL attrE d ≤ 1048576) :
    Calls Tryz.prog 98 #[v, .func (.func 99) #[] #[]] w fun e w' => (∃ u, e = .returned u ∧ SlOwn attrE (Fresh w w') w' d u) ∧ Below w.heap.size w w' := by
  obtain ⟨ao, ca, rfl⟩ := hd.sl
  have HA := Lib.hid hd
  have HZ : Hid (∀ x ∈ d, attrE.sz x ≤ 1048576) := Lib.hid (fun x h => by have h1 := szL_mem attrE h; omega)
  have hl : d.length ≤ 1048576 := by omega
  clear hd hz
  go_enter Tryz.func98, Tryz.ntmps98
  go_wp2
  go_loopw [5, 10] (fun v i wr => ∃ k : Nat, k ≤ d.length ∧ i = .int .i64 k ∧ (∃ xs, Grow attrE 109 w.heap.size wr v (d.take k) xs) ∧ Below w.heap.size w wr) (fun _ i _ => d.length - (intOf i).toNat)
  case atStart => exact ⟨0, Nat.zero_le _, rfl, ⟨[], Grow.nil _ _ _ _⟩, Below.refl _ _⟩
  case round =>
    obtain ⟨k, hk, rfl, ⟨xs, hg⟩, hbel⟩ := hrel
    have HG := Lib.hid hg; clear hg
    obtain ⟨p7, n7, q7, hv7⟩ := own_slice3' HG.out.row
    subst hv7
    by_cases hlt : k < d.length
    · obtain ⟨b, off, a0, a1, v1, rfl, _, hb0, hx, ⟨hc0, hc1⟩, s1, _⟩ := attr_row (HA.out.frame (Same.of_below' hbel)) hlt
      have HZ1 : Hid (attrE.sz (a0, a1) ≤ 1048576) := Lib.hid (by have := HZ.out _ (List.getElem_mem hlt); rw [hx] at this; exact this)
      have HT : Hid (d.take (k + 1) = d.take k ++ [(a0, a1)]) := Lib.hid (by rw [List.take_succ_eq_append_getElem hlt, hx])
      have HC : Hid (∀ W : World, Below wr.heap.size wr W → Calls Tryz.prog 99 #[.agg #[.string a0, v1]] W fun e w' => ∃ u1, e = .returned (.agg #[.string a0, u1]) ∧ attrE.Own (Fresh W w') w' (a0, a1) [.string a0, u1] ∧ Below W.heap.size W w') := Lib.hid (fun W b => cpyAttr_any a0 a1 v1 W (s1.frame (Same.of_below' b)) HZ1.out)
      obtain ⟨o1, k1, rfl⟩ := s1.sl
      clear s1 hx
      have hrl : (d.take k).length ≤ 100000000 := by rw [List.length_take]; omega
      have hrl2 := Lib.hid hrl
      clear hrl
      generalize d.take k = pre at *
      have g1 : (0 : Int) ≤ (k : Int) := by omega
      have g2 : (k : Int) < (d.length : Int) := by omega
      go_wp2_with fail
      refine calls_by (fun W => Below wr.heap.size wr W) (more' (Below.refl _ _) _) ?_
      intro W1 d1
      refine (HC.out W1 d1).mono ?_
      clear hc0 hc1
      rintro e w3 ⟨u1, rfl, q, hb1⟩
      have hb : Below wr.heap.size wr w3 := d1.trans (hb1.mono d1.size)
      obtain ⟨p1, n1, j1, rfl⟩ := attr_sl q rfl
      have Q3 := Lib.hid (Enc.ownWide _ q (fun b h => (⟨Nat.le_trans d1.size h.1, h.2⟩ : Fresh wr w3 b)))
      have b3 := hbel.trans (hb.mono hbel.size); have D3 := Lib.hid hb
      have R3 := Lib.hid (HG.out.below hb).row
      have hs3 := hb.size; have hs2 := hbel.size
      clear hb1 d1
      have hB3 : w.heap.size ≤ w3.heap.size := b3.size
      clear hb q
      go_wp2_with (first
        | (at_builtin; refine app_attr w.heap.size rfl _ _ rfl _ _ xs rfl R3.out a0 p1 n1 j1 _ rfl rfl hrl2.out hB3 ?_; intro g cap w5 h1 h2 h3)
        | (fail "none"))
      have HG5 : Hid (Grow attrE 109 w.heap.size w5 (.slice (some ⟨g, 0, none⟩) (pre.length + 1) cap) (pre ++ [(a0, a1)]) (xs ++ [.string a0, .slice p1 n1 j1])) := Lib.hid (Grow.step HG.out hs2 D3.out Q3.out (more' (Below.refl _ _) _) h1 h2 (fun g' hg' => by
        have e : g = g' := by simpa [Value.ownBlock] using hg'
        subst e
        rcases h3 with h | h
        · exact .inl h
        · exact .inr (by omega)))
      have B5 : Below w.heap.size w w5 := (b3.alloc b3.size _).grown h2 (by simp; omega) (fun r hr => by have := (R3.out.lt r hr).1; omega)
      clear h1 h2 h3 R3
      go_wp2
      go_roundw
      case rel => exact ⟨k + 1, by omega, by go_num, ⟨_, by rw [HT.out]; exact HG5.out⟩, B5⟩
      case measure => simp [intOf]; omega
    · have e : d.take k = d := List.take_of_length_le (by omega)
      have HO : Hid (SlOwn attrE (Fresh w wr) wr d (.slice p7 n7 q7)) := Lib.hid (by have := HG.out.own; rw [e] at this; exact this)
      clear e
      go_wp2
      go_ret
      exact ⟨⟨_, rfl, HO.out⟩, hbel⟩
end Go.Proofs.YtmanlnlhpgdbpaaGreat
