/- Merged texts: Mark, Mark2, GrI, GrG. -/
import Derived.Test.YtglgkocjdockdaaM3
import Derived.Test.YtglgkocjdockdaaM1
import Derived.RangeFuncNested
import Derived.RangeFuncBound
import Derived.RangeFuncCalls
import Derived.RangeFuncLeaves
import Derived.RangeFuncBox
import Derived.Shelf.Abstract
import Derived.Shelf.RegionOpen
import Derived.OwnWalkIn
import Derived.TacticsInMore
import Derived.LoopNIn
import Derived.LoopIn
import Derived.Scope
/- The helpers of the laws: marks. -/
namespace Go.Proofs.Ytglgkocjdockdaa
open Go.RowKit
attribute [local go_sem ↓] Go.wp_at_zero Go.wp_at_succ

theorem toS_list (l : List UInt8) : (toS l).data.toList = l := by simp [toS]
theorem toS_size (l : List UInt8) : (toS l).size = l.length := by rw [← size_len, toS_list]
theorem one_str (W : World) (n : Nat) (hn : n < 256) :
    (convert 67 9 (.slice (some ⟨W.heap.size, 0, none⟩) 1 1)).run Try.prog (W.alloc (.cells #[.int .u8 (n : Int)] 5)) = .ok (.string ⟨#[UInt8.ofNat n]⟩) (W.alloc (.cells #[.int .u8 (n : Int)] 5)) := by
  refine str22 _ ⟨W.heap.size, 0, none⟩ 1 [UInt8.ofNat n] 1 rfl fun j hj => ?_
  match j, hj with
  | 0, _ =>
    rw [add_plain, World.cell?_alloc_mark]
    simp; omega
set_option maxRecDepth 100000 in
set_option maxHeartbeats 1000000 in
theorem markText_any (n : Nat) (w : World) (h0 : 0 < n) (hn : n ≤ 1000000000) :
    Calls Try.prog 88 #[.int .i64 n] w fun e w' => e = .returned (.string (mkT n)) ∧ Below w.heap.size w w' := by
  go_enter Try.func88, Try.ntmps88
  go_wp2
  go_loopw [0, 3] (fun t u wr => ∃ (f k : Nat) (o : List UInt8), k ≤ n ∧ t = .int .i64 k ∧ u = .string (toS o) ∧ digs 20 n [] = digs f k o ∧ k < 10 ^ f ∧ f ≤ 20 ∧ o.length + f ≤ 20 ∧ Below w.heap.size w wr) (fun t _ _ => (intOf t).toNat)
  case atStart => exact ⟨20, n, [], Nat.le_refl _, rfl, rfl, rfl, by omega, by omega, by simp, Below.refl _ _⟩
  case round =>
    obtain ⟨f, k, o, hk, rfl, rfl, hD, hf, hf2, ho, hbel⟩ := hrel
    have HD := Lib.hid hD; clear hD
    have hsz := hbel.size
    by_cases hk0 : 0 < k
    · obtain ⟨g, rfl⟩ : ∃ g, f = g + 1 := ⟨f - 1, by
        rcases f with _ | f
        · simp at hf; omega
        · simp⟩
      have HN : Hid (digs 20 n [] = digs g (k / 10) (UInt8.ofNat (48 + k % 10) :: o)) := Lib.hid (by rw [HD.out, digs, if_neg (by omega)])
      have HF : Hid (k / 10 < 10 ^ g) := Lib.hid (by rw [Nat.pow_succ] at hf; omega)
      have HC : Hid ((⟨#[UInt8.ofNat (48 + k % 10)]⟩ : ByteArray) ++ toS o = toS (UInt8.ofNat (48 + k % 10) :: o)) := Lib.hid (by apply ByteArray.ext; simp [toS])
      clear hf
      have hos : (toS o).size ≤ 20 := by rw [toS_size]; omega
      have hcv := one_str wr (48 + k % 10) (by omega)
      have hca := cat ⟨#[UInt8.ofNat (48 + k % 10)]⟩ (toS o) (by rw [sz1]; omega)
      have e1 : ((48 + k % 10 : Nat) : Int) = 48 + (k : Int) % 10 := by omega
      rw [e1] at hcv
      clear e1
      generalize UInt8.ofNat (48 + k % 10) = c at *
      go_wp2
      refine ⟨⟨g, k / 10, c :: o, by omega, by go_num, by rw [HC.out], HN.out, HF.out, by omega, by simp only [List.length_cons]; omega, more hbel _⟩, ?_⟩
      simp [intOf]; omega
    · have HE : Hid (⟨#[109]⟩ ++ toS o = mkT n) := Lib.hid (by
        have e : k = 0 := by omega
        subst e
        have : digs f 0 o = o := by cases f <;> simp [digs]
        unfold mkT mkL
        rw [HD.out, this]
        apply ByteArray.ext; simp [toS])
      have hos : (toS o).size ≤ 20 := by rw [toS_size]; omega
      have hca := cat ⟨#[109]⟩ (toS o) (by rw [sz1]; omega)
      go_wp2
      go_ret
      exact ⟨ret_str HE.out, hbel⟩
/-- n pairs of marks, from k on -/
def marks : Nat → Nat → RdnL
  | _, 0 => []
  | k, n + 1 => marks k n ++ [(mkT (k + 2 * n), mkT (k + 2 * n + 1))]
theorem marks_len (k n : Nat) : (marks k n).length = n := by
  induction n with
  | zero => rfl
  | succ n ih => rw [marks, List.length_append, ih]; rfl
theorem marks_get (k n i : Nat) (h : i < n) (h' : i < (marks k n).length) : (marks k n)[i] = (mkT (k + 2 * i), mkT (k + 2 * i + 1)) := by
  induction n with
  | zero => omega
  | succ n ih =>
    have hl := marks_len k n
    simp only [marks]
    by_cases e : i < n
    · rw [List.getElem_append_left (by omega)]; exact ih e (by omega)
    · have : i = n := by omega
      subst this
      rw [List.getElem_append_right (by omega)]
      simp [hl]
/-- a block of pairs, the first k marked, the rest as they were -/
def MarkTo (w : World) (g n k j : Nat) : Prop := ∃ C : Array Value, w.heap[g]? = some (.cells C 104 (0, 0)) ∧ C.size = n * 2 ∧ C.toList.take (j * 2) = rs (marks k j)
theorem MarkTo.below {w w' : World} {g n k j : Nat} (h : MarkTo w g n k j) (hb : Below w.heap.size w w') : MarkTo w' g n k j := by
  obtain ⟨C, h1, h2⟩ := h
  exact ⟨C, (hb.block g (Array.getElem?_eq_some_iff.1 h1).1).trans h1, h2⟩
end Go.Proofs.Ytglgkocjdockdaa
/- The helpers of the laws: marks laid into a name, and found there again. -/
namespace Go.Proofs.Ytglgkocjdockdaa
open Go.RowKit
attribute [local go_sem ↓] Go.wp_at_zero Go.wp_at_succ

theorem grown_of {a b : World} (h : Below a.heap.size a b) (row : Option Nat) : a.grownBy b row := ⟨h.os, h.tape, h.output, h.size, fun k hk _ => h.block k hk⟩
theorem grown_tr {a b c : World} {r : Option Nat} (h : a.grownBy b r) (g : b.grownBy c r) : a.grownBy c r :=
  ⟨g.os.trans h.os, g.tape.trans h.tape, g.output.trans h.output, Nat.le_trans h.size g.size, fun k hk hne => (g.block k (Nat.lt_of_lt_of_le hk h.size) hne).trans (h.block k hk hne)⟩
theorem markText_from (w0 : World) (n : Nat) (w : World) (h0 : 0 < n) (hn : n ≤ 1000000000) (hB : Below w0.heap.size w0 w) :
    Calls Try.prog 88 #[.int .i64 n] w fun e w' => e = .returned (.string (mkT n)) ∧ Below w0.heap.size w0 w' :=
  (markText_any n w h0 hn).mono fun _ _ ⟨he, hb⟩ => ⟨he, hB.trans (hb.mono hB.size)⟩
end Go.Proofs.Ytglgkocjdockdaa
/- Access control: the iterator over the rules that apply. -/
namespace Go.Proofs.Ytglgkocjdockdaa
open Go.RowKit Go.Shelf
attribute [local go_sem] Oper.semAt_some

/-- a rule's value, as the iterator hands it on -/
abbrev RV := ByteArray × (Option Addr × Nat × Nat) × (Option Addr × Nat × Nat) × Int × Bool
def rvVal (x : RV) : Value := .agg #[.string x.1, .slice x.2.1.1 x.2.1.2.1 x.2.1.2.2, .slice x.2.2.1.1 x.2.2.1.2.1 x.2.2.1.2.2, .int .i64 x.2.2.2.1, .bool x.2.2.2.2]
def alw (l : List RV) : List Bool := l.map fun x => x.2.2.2.2
def alwR (l : List RuleT) : List Bool := l.map fun x => x.2.2.2.2
theorem alw_snoc (l : List RV) (x : RV) : alw (l ++ [x]) = alw l ++ [x.2.2.2.2] := by simp [alw]
set_option maxRecDepth 100000 in
set_option maxHeartbeats 4000000 in
theorem iter_in {S S' : Bs} (n : Nat) (hn : 1 ≤ n) (l Bl Ba n₀ : Nat) (L : List RuleT) (who : ByteArray) (dn : RdnL) (attr : ByteArray) (right : Int) (ao bo : Option Addr) (m c k1 k2 : Nat) (J Jx : List RV → World → Prop)
    (W : World) (hBl0 : Bl < n₀) (hBa0 : Ba < n₀) (hJ : AbidesFrom W.heap.size J) (hJx : AbidesFrom W.heap.size Jx)
    (hY : ∀ pre x W1, J pre W1 → pre.length < L.length → YieldAt Fence.wide (n - 1) Try.prog l #[rvVal x] W1 fun e W' =>
      (e = .returned (.bool true) ∧ J (pre ++ [x]) W' ∧ Below n₀ W1 W') ∨ (e = .returned (.bool false) ∧ Jx (pre ++ [x]) W'))
    (hBl : W.cell? ⟨Bl, 0, none⟩ = some (.slice ao m c)) (x1 : W.cell? ⟨Ba, 0, none⟩ = some (.string who)) (x2 : W.cell? ⟨Ba, 1, none⟩ = some (.slice bo k1 k2)) (x3 : W.cell? ⟨Ba, 2, none⟩ = some (.string attr)) (x4 : W.cell? ⟨Ba, 3, none⟩ = some (.int .i64 right))
    (hL : ∀ X, Below n₀ W X → SlAt ruleE S X L (.slice ao m c)) (hd : ∀ X, Below n₀ W X → SlAt rdnE S' X dn (.slice bo k1 k2)) (hz : L.length + szL ruleE L ≤ 1048576) (hzd : dn.length + szL rdnE dn ≤ 1048576) (hn0 : n₀ ≤ W.heap.size)
    (h0 : J [] W) :
    CallsIn Fence.wide n Try.prog 145 #[.func (.yield l) #[] #[], .pointer (some ⟨Bl, 0, none⟩), .pointer (some ⟨Ba, 0, none⟩)] W fun e W' => (∃ v, e = .returned v) ∧
      ((∃ ys, alw ys = alwR (L.filter (appB who dn attr right)) ∧ J ys W') ∨ (∃ pre, (∃ k, alw pre = alwR ((L.take k).filter (appB who dn attr right))) ∧ Jx pre W')) := by
  obtain ⟨rfl, _, _⟩ := (hL W (Below.refl _ _)).cap
  have HL := Lib.hid hL; have HDn := Lib.hid hd; have HZ := Lib.hid hz; have HZd := Lib.hid hzd
  have hl : L.length ≤ 1048576 := by omega
  have HBl := Lib.hid hBl; have HX := Lib.hid (And.intro x1 (And.intro x2 (And.intro x3 x4)))
  have HY := Lib.hid hY; have HJ0 := Lib.hid h0
  have HJb : Hid (∀ pre A B, J pre A → Below A.heap.size A B → J pre B) := Lib.hid (fun pre A B h b => hJ pre A B none h (grown_of b none) (fun r e => by cases e))
  clear hz hzd hL hd hY h0 x1 x2 x3 x4 hJ hJx
  refine callsIn_of_wp Try.func145 rfl trivial ?_ rfl
  simp only [Try.ntmps145, List.size_toArray, List.length_cons, List.length_nil, Nat.reduceAdd, Nat.reduceSub, Array.replicate_succ, Array.replicate_zero, List.push_toArray, List.append_toArray, List.nil_append, List.cons_append]
  gi_wp2
  gi_loopw [8] (fun i wr => ∃ k : Nat, k ≤ L.length ∧ i = .int .i64 k ∧ ∃ pre, alw pre = alwR ((L.take k).filter (appB who dn attr right)) ∧ pre.length ≤ k ∧ J pre wr ∧ Below n₀ W wr ∧ n₀ ≤ wr.heap.size)
    (fun i _ => L.length - (intOf i).toNat)
  case atStart => exact ⟨0, Nat.zero_le _, rfl, [], rfl, Nat.le_refl _, HJ0.out, Below.refl _ _, hn0⟩
  case round =>
    obtain ⟨k, hk, rfl, pre, hp, hpl, hJs, hnx, hnr⟩ := hrel
    have HP := Lib.hid hp; have HJs := Lib.hid hJs; have HN := Lib.hid hnx
    clear hp hJs hnx
    by_cases hlt : k < L.length
    · obtain ⟨b, off, a0, a1, a2, a3, a4, v1, v2, rfl, hbS, hb0, hx, ⟨hc0, hc1, hc2, hc3, hc4⟩, s1, s2, _⟩ := rule_row (HL.out wr HN.out) hlt
      have HZr : Hid (ruleE.sz (a0, a1, a2, a3, a4) ≤ 1048576) := Lib.hid (by have h1 := szL_mem ruleE (List.getElem_mem hlt); rw [hx] at h1; have := HZ.out; omega)
      have HFl : Hid ((L.take (k + 1)).filter (appB who dn attr right) = (L.take k).filter (appB who dn attr right) ++ (if appB who dn attr right (a0, a1, a2, a3, a4) then [(a0, a1, a2, a3, a4)] else [])) := Lib.hid (by
        rw [List.take_succ_eq_append_getElem hlt, List.filter_append, hx]
        cases h : appB who dn attr right (a0, a1, a2, a3, a4) <;> simp [List.filter_cons, h])
      clear hx
      have hdw := HDn.out wr HN.out
      have CA : Hid (∀ X : World, Below wr.heap.size wr X → Calls Try.prog 146 #[.agg #[.string a0, v1, v2, .int .i64 a3, .bool a4], .agg #[.string who, .slice bo k1 k2, .string attr, .int .i64 right]] X fun e w' => e = .returned (.bool (appB who dn attr right (a0, a1, a2, a3, a4))) ∧ Below X.heap.size X w') :=
        Lib.hid (fun X h => applies_any a0 a1 a2 a3 a4 v1 v2 who dn (.slice bo k1 k2) attr right X (s1.frame (Same.of_below' h)) (s2.frame (Same.of_below' h)) (hdw.frame (Same.of_below' h)) HZr.out HZd.out)
      obtain ⟨o1, q1, rfl⟩ := s1.sl
      obtain ⟨o2, q2, rfl⟩ := s2.sl
      have XA : ∀ X : World, Below n₀ W X → X.cell? ⟨Ba, 0, none⟩ = some (.string who) ∧ X.cell? ⟨Ba, 1, none⟩ = some (.slice bo k1 k2) ∧ X.cell? ⟨Ba, 2, none⟩ = some (.string attr) ∧ X.cell? ⟨Ba, 3, none⟩ = some (.int .i64 right) := fun X h => by
        obtain ⟨x1, x2, x3, x4⟩ := HX.out
        exact ⟨(h.cell (p := ⟨Ba, _, none⟩) hBa0).trans x1, (h.cell (p := ⟨Ba, _, none⟩) hBa0).trans x2, (h.cell (p := ⟨Ba, _, none⟩) hBa0).trans x3, (h.cell (p := ⟨Ba, _, none⟩) hBa0).trans x4⟩
      have HXA := Lib.hid XA; clear XA
      obtain ⟨x1, x2, x3, x4⟩ := HXA.out (wr.alloc (.cells #[.string a0, .slice o1 a1.length q1, .slice o2 a2.length q2, .int .i64 a3, .bool a4] 74)) (HN.out.alloc hnr _)
      clear s1 s2 hdw
      generalize appB who dn attr right (a0, a1, a2, a3, a4) = r at *
      have HAl : Hid (Below wr.heap.size wr (wr.alloc (.cells #[.string a0, .slice o1 a1.length q1, .slice o2 a2.length q2, .int .i64 a3, .bool a4] 74)) ∧ Blk (wr.alloc (.cells #[.string a0, .slice o1 a1.length q1, .slice o2 a2.length q2, .int .i64 a3, .bool a4] 74)) wr.heap.size [.string a0, .slice o1 a1.length q1, .slice o2 a2.length q2, .int .i64 a3, .bool a4]) := Lib.hid ⟨more' (Below.refl _ _) _, Blk.new _ _ _⟩
      gi_wp2_with fail
      refine ⟨trivial, ?_⟩
      refine (callsIn_wide.2 (CA.out _ HAl.out.1)).mono ?_
      rintro e w2 ⟨rfl, hb⟩
      have B2 := Lib.hid (HAl.out.1.trans (hb.mono HAl.out.1.size)); have T2 := Lib.hid (HAl.out.2.below hb)
      clear hb HAl x1 x2 x3 x4 hc0 hc1 hc2 hc3 hc4 CA
      have hN2 := HN.out.trans (B2.out.mono hnr)
      have hs2 : n₀ ≤ w2.heap.size := Nat.le_trans hnr B2.out.size
      have HJ2 := Lib.hid (HJb.out pre wr w2 HJs.out B2.out)
      cases r
      · have HF2 : Hid (alw pre = alwR ((L.take (k + 1)).filter (appB who dn attr right))) := Lib.hid (by rw [HFl.out]; simpa using HP.out)
        gi_wp2
        refine ⟨fun _ h => (by cases h), ?_⟩
        gi_wp2
        go_roundw
        case rel => exact ⟨k + 1, by omega, by simp, pre, HF2.out, by omega, HJ2.out, hN2, hs2⟩
        case measure => simp [intOf]; omega
      · have HF2 : Hid (alw (pre ++ [(a0, (o1, a1.length, q1), (o2, a2.length, q2), a3, a4)]) = alwR ((L.take (k + 1)).filter (appB who dn attr right))) := Lib.hid (by rw [HFl.out, alw_snoc, HP.out]; simp [alwR])
        obtain ⟨fn, tmps, assign, body, hy, hR⟩ := HY.out pre (a0, (o1, a1.length, q1), (o2, a2.length, q2), a3, a4) w2 HJ2.out (by omega)
        simp only [rvVal] at hy
        have m0 := T2.out.cell 0 rfl
        have m1 := T2.out.cell 1 rfl
        have m2 := T2.out.cell 2 rfl
        have m3 := T2.out.cell 3 rfl
        have m4 := T2.out.cell 4 rfl
        have HRR := Lib.hid hR; clear hR
        gi_wp2
        refine HRR.out.mono ?_
        rintro e W3 (⟨rfl, hJ3, hk3⟩ | ⟨rfl, hJx3⟩)
        · have HJ3 := Lib.hid hJ3; clear hJ3
          have hN3 := hN2.trans hk3
          have hs3 : n₀ ≤ W3.heap.size := Nat.le_trans hs2 hk3.size
          gi_wp2
          go_roundw
          case rel => exact ⟨k + 1, by omega, by simp, _, HF2.out, by simp; omega, HJ3.out, hN3, hs3⟩
          case measure => simp [intOf]; omega
        · have HJ3 := Lib.hid hJx3; clear hJx3
          gi_wp2
          refine bodyPost_ret (results_none rfl _ _ _) rfl ?_
          exact ⟨⟨_, rfl⟩, .inr ⟨_, ⟨k + 1, HF2.out⟩, HJ3.out⟩⟩
    · have e : L.take k = L := List.take_of_length_le (by omega)
      have HP2 : Hid (alw pre = alwR (L.filter (appB who dn attr right))) := Lib.hid (by have := HP.out; rw [e] at this; exact this)
      clear e
      gi_wp2
      go_end0
      exact ⟨⟨_, rfl⟩, .inl ⟨pre, HP2.out, HJs.out⟩⟩
end Go.Proofs.Ytglgkocjdockdaa
/- Access control: the first rule that applies decides: the program. -/
namespace Go.Proofs.Ytglgkocjdockdaa
open Go.RowKit Go.Shelf
attribute [local go_sem] Oper.semAt_some

set_option maxRecDepth 100000 in
set_option maxHeartbeats 1000000 in
theorem rules_in (n : Nat) (ao bo : Option Addr) (m c k1 k2 : Nat) (who attr : ByteArray) (right : Int) (w : World) :
    CallsIn Fence.wide n Try.prog 121 #[.slice ao m c, .agg #[.string who, .slice bo k1 k2, .string attr, .int .i64 right]] w fun e w' => e = .returned (.func (.func 145) #[] #[.pointer (some ⟨w.heap.size, 0, none⟩), .pointer (some ⟨w.heap.size + 1, 0, none⟩)]) ∧
      w' = (w.alloc (.cells #[.slice ao m c] 25)).alloc (.cells #[.string who, .slice bo k1 k2, .string attr, .int .i64 right] 107) := by
  refine callsIn_of_wp Try.func121 rfl trivial ?_ rfl
  simp only [Try.ntmps121, List.size_toArray, List.length_cons, List.length_nil, Nat.reduceAdd, Nat.reduceSub, Array.replicate_succ, Array.replicate_zero, List.push_toArray, List.append_toArray, List.nil_append, List.cons_append]
  gi_wp2
  go_ret
  exact ⟨rfl, rfl⟩
set_option maxRecDepth 100000 in
set_option maxHeartbeats 4000000 in
theorem grants_any {S S' : Bs} (v : Value) (d : List RuleT) (who : ByteArray) (dn : RdnL) (dv : Value) (attr : ByteArray) (right : Int) (w : World) (hL : SlAt ruleE S w d v) (hd : SlAt rdnE S' w dn dv) (hz : d.length + szL ruleE d ≤ 1048576) (hzd : dn.length + szL rdnE dn ≤ 1048576) :
    Calls Try.prog 76 #[v, .agg #[.string who, dv, .string attr, .int .i64 right]] w fun e w' => e = .returned (.bool (grantB d who dn attr right)) ∧ Below w.heap.size w w' := by
  obtain ⟨ao, c, rfl⟩ := hL.sl
  obtain ⟨bo, k2, rfl⟩ := hd.sl
  have HG0 : Hid (alwR (d.filter (appB who dn attr right)) = [] → grantB d who dn attr right = false) := Lib.hid (fun h => by
    have : d.filter (appB who dn attr right) = [] := by simpa [alwR] using h
    unfold grantB; rw [this]; rfl)
  have HG1 : Hid (∀ k b, alwR ((d.take k).filter (appB who dn attr right)) = [b] → grantB d who dn attr right = b) := Lib.hid (fun k b h => by
    have e : d.filter (appB who dn attr right) = (d.take k).filter (appB who dn attr right) ++ (d.drop k).filter (appB who dn attr right) := by rw [← List.filter_append, List.take_append_drop]
    unfold grantB
    rw [e]
    generalize (d.take k).filter (appB who dn attr right) = q at *
    match q, h with
    | [x], h => simp only [alwR, List.map_cons, List.map_nil, List.cons.injEq, and_true] at h; simpa using h
    | [], h => simp [alwR] at h
    | x :: y :: q, h => simp [alwR] at h)
  generalize grantB d who dn attr right = G at *
  refine (callsIn_wide (n := 6)).1 ?_
  refine callsIn_of_wp_marks Try.func76 rfl trivial ?_ rfl
  simp only [Try.ntmps76, List.size_toArray, List.length_cons, List.length_nil, Nat.reduceAdd, Nat.reduceSub, Array.replicate_succ, Array.replicate_zero, List.push_toArray, List.append_toArray, List.nil_append, List.cons_append]
  gi_wp2
  refine wpIn_wide.2 (wp_scope_straight ((wpIn_wide (n := 6)).1 ?_))
  gi_wp2
  refine wpIn_wide.2 (wp_label ?_)
  gi_wp2_with (refine ⟨trivial, ?_⟩; gi_at_call 121; refine (rules_in _ ao bo _ _ _ _ _ _ _ _).mono ?_; rintro e w1 ⟨rfl, rfl⟩)
  have hW : ∃ W0 : World, W0 = (((w.alloc (.cells #[.string who, .slice bo dn.length k2, .string attr, .int .i64 right] 107)).alloc (.cells #[.bool false] 4)).alloc (.cells #[.slice ao d.length c] 25)).alloc (.cells #[.string who, .slice bo dn.length k2, .string attr, .int .i64 right] 107) := ⟨_, rfl⟩
  obtain ⟨W0, hW0⟩ := hW
  rw [← hW0]
  have hB0 : Below w.heap.size w W0 := by rw [hW0]; exact more' (more' (more' (more' (Below.refl _ _) _) _) _) _
  have hsz : W0.heap.size = w.heap.size + 4 := by rw [hW0]; simp
  have bF : Boxed W0 (w.heap.size + 1) 4 (.bool false) := by
    rw [hW0]
    have := Boxed.new (w.alloc (.cells #[.string who, .slice bo dn.length k2, .string attr, .int .i64 right] 107)) 4 (.bool false)
    rw [World.size_alloc] at this
    exact (this.alloc _).alloc _
  have bL : Blk W0 (w.heap.size + 1 + 1) [.slice ao d.length c] := by rw [hW0]; exact (blk_at _ _ _ (by simp)).alloc _
  have bA : Blk W0 (w.heap.size + 1 + 1 + 1) [.string who, .slice bo dn.length k2, .string attr, .int .i64 right] := by rw [hW0]; exact blk_at _ _ _ (by simp)
  have hLw : ∀ X, Below w.heap.size w X → SlAt ruleE S X d (.slice ao d.length c) := fun X h => hL.frame (Same.of_below' h)
  have hdw : ∀ X, Below w.heap.size w X → SlAt rdnE S' X dn (.slice bo dn.length k2) := fun X h => hd.frame (Same.of_below' h)
  clear hW0 hL hd
  refine wpIn_rangeFunc_ownH rfl (by omega) (gf := 145) (lb := #[.pointer (some ⟨w.heap.size + 1 + 1, 0, none⟩), .pointer (some ⟨w.heap.size + 1 + 1 + 1, 0, none⟩)]) (by rfl) trivial (enters_of Try.func145 (by kernel_rfl) rfl)
    (encs := fun x : RV => #[rvVal x]) (Kp := Below W0.heap.size) (S := fun ys => alw ys = alwR (d.filter (appB who dn attr right))) (Sp := fun pre => ∃ k, alw pre = alwR ((d.take k).filter (appB who dn attr right))) (N := d.length) (w0 := W0)
    (fun l J Jx W hW hJ hJx hY h0 => iter_in (6 - 1) (by omega) l (w.heap.size + 1 + 1) (w.heap.size + 1 + 1 + 1) W0.heap.size d who dn attr right ao bo d.length c dn.length k2 J Jx W (by omega) (by omega) hJ hJx hY
      ((bL.below hW).cell 0 rfl) ((bA.below hW).cell 0 rfl) ((bA.below hW).cell 1 rfl) ((bA.below hW).cell 2 rfl) ((bA.below hW).cell 3 rfl)
      (fun X h => hLw X (hB0.trans ((hW.trans h).mono (by omega)))) (fun X h => hdw X (hB0.trans ((hW.trans h).mono (by omega)))) hz hzd hW.size h0)
    belowK_t (belowK_b (Nat.le_refl _)) (Below.refl _ _) (fun _ => rfl)
    (fun pre W => ((pre = [] ∧ Boxed W (w.heap.size + 1) 4 (.bool false)) ∧ Below w.heap.size w W) ∧ W0.heap.size ≤ W.heap.size)
    (fun cd pre W => (cd = .exit 0 ∧ ∃ b, alw pre = [b] ∧ Boxed W (w.heap.size + 1) 4 (.bool b)) ∧ Below w.heap.size w W)
    (OwnFrom.and (OwnFrom.and (OwnFrom.and (ownFrom_pure _ _) (Own.from (boxed_own _ _ _) _)) (ownFrom_below (Nat.le_refl _) (by omega))) (fun _ _ _ _ hs hg _ => Nat.le_trans hs hg.size))
    (fun cd => OwnFrom.and (fun s A B row hs hg hr => by obtain ⟨h1, b, h2, h3⟩ := hs; exact ⟨h1, b, h2, boxed_own (w.heap.size + 1) 4 (fun (_ : Unit) => Value.bool b) () A B row h3 hg (fun r e => (hr r e).2)⟩) (ownFrom_below (Nat.le_refl _) (by omega)))
    ⟨⟨⟨rfl, bF⟩, hB0⟩, Nat.le_refl _⟩
    (fun x a' W => ∃ Bx, w.heap.size + 3 < Bx ∧ Blk W Bx [.string x.1, .slice x.2.1.1 x.2.1.2.1 x.2.1.2.2, .slice x.2.2.1.1 x.2.2.1.2.1 x.2.2.1.2.2, .int .i64 x.2.2.2.1, .bool x.2.2.2.2] ∧ a' = { tmps := #[.slice ao d.length c, .agg #[.string who, .slice bo dn.length k2, .string attr, .int .i64 right], undef, .pointer (some ⟨w.heap.size, 0, none⟩), .bool false, .pointer (some ⟨w.heap.size + 1, 0, none⟩), .pointer (some ⟨Bx, 0, none⟩), .slice ao d.length c, .agg #[.string who, .slice bo dn.length k2, .string attr, .int .i64 right], .func (.func 145) #[] #[.pointer (some ⟨w.heap.size + 1 + 1, 0, none⟩), .pointer (some ⟨w.heap.size + 1 + 1 + 1, 0, none⟩)], rvVal x, undef, undef, undef], defers := [] })
    (fun x a' _ X Y row hs hg hr => by
      obtain ⟨Bx, h1, ⟨T, h2⟩, h3⟩ := hs
      refine ⟨Bx, h1, ⟨T, (hg.block Bx (Array.getElem?_eq_some_iff.1 h2).1 (fun e => ?_)).trans h2⟩, h3⟩
      obtain ⟨_, o, ho, hc⟩ := hr Bx e.symm
      rw [h2] at ho; cases ho; cases hc)
    ?assign ?body ?done ?stop
  case assign =>
    rintro l pre x W K ⟨⟨⟨rfl, b1⟩, hB1⟩, hs1⟩ hK
    simp only [rvVal]
    have hK' : ∀ a' W', KeepsFrom W0.heap.size W W' → Below W0.heap.size W W' → _ → _ → K a' W' := hK
    gi_wp2
    refine hK' _ _ ((KeepsOthers.alloc _ _).from _) ((Below.refl _ W).alloc hs1 _) ⟨⟨⟨by first | rfl | trivial, b1.alloc _⟩, hB1.alloc hB1.size _⟩, by rw [World.size_alloc]; omega⟩ ⟨W.heap.size, by omega, Blk.new W _ _, rfl⟩
  case body =>
    rintro l pre x a' W hl ⟨r, hr⟩ ⟨⟨⟨rfl, b1⟩, hB1⟩, hs1⟩ ⟨Bx, hBx, bX, rfl⟩ hlt
    have m4 := bX.cell 4 rfl
    have c1 := b1.cell
    have f1 := b1.frozen
    gi_wp2
    exact ⟨(KeepsOthers.setCell _ _ _).from _, ⟨rfl, x.2.2.2.2, rfl, b1.set _⟩, hB1.setCell (p := ⟨w.heap.size + 1, 0, none⟩) (by show w.heap.size ≤ w.heap.size + 1; omega) _⟩
  case done =>
    rintro D ys W hD hS ⟨⟨⟨rfl, b1⟩, hB1⟩, hs1⟩ hK
    have e : G = false := HG0.out (by rw [← hS]; rfl)
    subst e
    have c1 := b1.cell
    gi_wp2
    refine ⟨by simp, .inl ⟨_, _, rfl, run_takeDeferred hK, ?_⟩⟩
    exact ⟨_, results_tmp rfl _ _ _, rfl, hB1.trans (belowK_b (w := w) (Nat.le_refl _) W D _ _ (by omega) hK rfl rfl)⟩
  case stop =>
    rintro D cd pre W hD ⟨k, hS⟩ ⟨⟨rfl, b, h2, b1⟩, hB1⟩ hK
    have e : G = b := HG1.out k b (by rw [← hS]; exact h2)
    subst e
    have c1 := b1.cell
    gi_wp2
    refine ⟨by simp, .inl ⟨_, _, rfl, run_takeDeferred hK, ?_⟩⟩
    exact ⟨_, results_tmp rfl _ _ _, rfl, hB1.trans (belowK_b (w := w) (Nat.le_refl _) W D _ _ (by omega) hK rfl rfl)⟩
end Go.Proofs.Ytglgkocjdockdaa
