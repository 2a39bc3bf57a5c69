/- Merged texts: ClsR3, AclR, AclR2, AclA, GrI, GrG. -/
import Derived.Test.YtglgkocjdockdaaM3
import Derived.Test.YtglgkocjdockdaaM2
import Derived.RangeFuncNested
import Derived.RangeFuncBound
import Derived.RangeFuncCalls
import Derived.RangeFuncLeaves
import Derived.RangeFuncBox
import Derived.Shelf.Abstract
import Derived.Shelf.RegionOpen
import Derived.OwnWalkIn
import Derived.TacticsInMore
import Derived.LoopNIn
import Derived.LoopIn
import Derived.Scope
/- Names among others: what slices.Contains and the specification's look-up return. -/
namespace Go.Proofs.Ytglgkocjdockdaa
open Go.RowKit
attribute [local go_sem ↓] Go.wp_at_zero Go.wp_at_succ

def hasS (l : List ByteArray) (x : ByteArray) : Bool := l.any fun y => y.toList == x.toList
theorem hasS_yes {l : List ByteArray} {x : ByteArray} {k : Nat} (hk : k < l.length) (h : (l[k].toList == x.toList) = true) : hasS l x = true := by
  unfold hasS
  rw [List.any_eq_true]
  exact ⟨l[k], List.getElem_mem hk, h⟩
theorem hasS_no {l : List ByteArray} {x : ByteArray} (h : ∀ j (h : j < l.length), (l[j].toList == x.toList) = false) : hasS l x = false := by
  unfold hasS
  rw [List.any_eq_false]
  intro y hy
  obtain ⟨i, hi, rfl⟩ := List.getElem_of_mem hy
  rw [h i hi]; simp
theorem beq_swap (a b : ByteArray) : (a.toList == b.toList) = (b.toList == a.toList) := by
  rw [Bool.eq_iff_iff]; simp only [beq_iff_eq]; exact ⟨Eq.symm, Eq.symm⟩
set_option maxRecDepth 100000 in
set_option maxHeartbeats 1000000 in
theorem index_any (ao : Option Addr) (l : List ByteArray) (cap : Nat) (x : ByteArray) (w : World) (hd : StrsAt w ao l) (hl : l.length ≤ 10000000) :
    Calls Try.prog 183 #[.slice ao l.length cap, .string x] w fun e w' => (∃ n : Int, e = .returned (.int .i64 n) ∧ decide (0 ≤ n) = hasS l x) ∧ w' = w := by
  have HD := Lib.hid hd; clear hd
  go_enter Try.func183, Try.ntmps183
  go_wp2
  go_loopw [5, 8] (fun _ i wr => ∃ k : Nat, k ≤ l.length ∧ i = .int .i64 k ∧ (∀ j (h : j < l.length), j < k → (l[j].toList == x.toList) = false) ∧ wr = w) (fun _ i _ => l.length - (intOf i).toNat)
  case atStart => exact ⟨0, Nat.zero_le _, rfl, fun j _ h => absurd h (Nat.not_lt_zero _), by trivial⟩
  case round =>
    obtain ⟨k, hk, rfl, ha, rfl⟩ := hrel
    have Ha := Lib.hid ha; clear ha
    by_cases hlt : k < l.length
    · obtain ⟨b, off, rfl, hb0, hc1⟩ := HD.out.at hlt
      have HY : Hid ((l[k].toList == x.toList) = true → hasS l x = true) := Lib.hid (fun h => hasS_yes hlt h)
      have HN : Hid ((l[k].toList == x.toList) = false → ∀ j (h : j < l.length), j < k + 1 → (l[j].toList == x.toList) = false) := Lib.hid (fun hn j h hj => by
        by_cases e : j = k
        · subst e; exact hn
        · exact Ha.out j h (by omega))
      generalize l[k] = A at *
      have hsw := beq_swap x A
      cases hq : (A.toList == x.toList)
      · rw [hq] at hsw
        have HN' := Lib.hid (HN.out hq)
        go_wp2
        go_roundw
        case rel => exact ⟨k + 1, by omega, by go_num, HN'.out, trivial⟩
        case measure => simp [intOf]; omega
      · rw [hq] at hsw
        have HY' := Lib.hid (HY.out hq)
        go_wp2
        go_ret
        exact ⟨⟨_, rfl, by rw [HY'.out]; exact decide_eq_true (by omega)⟩, rfl⟩
    · have HN' : Hid (hasS l x = false) := Lib.hid (hasS_no fun j h => Ha.out j h (by omega))
      go_wp2
      go_ret
      exact ⟨⟨_, rfl, by rw [HN'.out]; rfl⟩, rfl⟩
set_option maxHeartbeats 1000000 in
theorem contains_any (ao : Option Addr) (l : List ByteArray) (cap : Nat) (x : ByteArray) (w : World) (hd : StrsAt w ao l) (hl : l.length ≤ 10000000) :
    Calls Try.prog 163 #[.slice ao l.length cap, .string x] w fun e w' => e = .returned (.bool (hasS l x)) ∧ w' = w := by
  have HD := Lib.hid hd; clear hd
  go_enter Try.func163, Try.ntmps163
  go_wp2_with fail
  refine (index_any ao l cap x w HD.out hl).mono ?_
  rintro e w' ⟨⟨n, rfl, hn⟩, rfl⟩
  have HN := Lib.hid hn; clear hn
  by_cases h : 0 ≤ n
  · have HR : Hid (hasS l x = true) := Lib.hid (by rw [← HN.out]; exact decide_eq_true h)
    go_wp2
    go_ret
    exact ⟨ret_bool (by rw [HR.out]), rfl⟩
  · have HR : Hid (decide (0 ≤ n) = hasS l x) := HN
    go_wp2
    go_ret
    exact ⟨ret_bool HR.out, rfl⟩
set_option maxRecDepth 100000 in
set_option maxHeartbeats 1000000 in
theorem l04Has_any (ao : Option Addr) (l : List ByteArray) (cap : Nat) (x : ByteArray) (w : World) (hd : StrsAt w ao l) (hl : l.length ≤ 10000000) :
    Calls Try.prog 120 #[.slice ao l.length cap, .string x] w fun e w' => e = .returned (.bool (hasS l x)) ∧ w' = w := by
  have HD := Lib.hid hd; clear hd
  go_enter Try.func120, Try.ntmps120
  go_wp2
  go_loopw [5] (fun i wr => ∃ k : Nat, k ≤ l.length ∧ i = .int .i64 k ∧ (∀ j (h : j < l.length), j < k → (l[j].toList == x.toList) = false) ∧ wr = w) (fun i _ => l.length - (intOf i).toNat)
  case atStart => exact ⟨0, Nat.zero_le _, rfl, fun j _ h => absurd h (Nat.not_lt_zero _), by trivial⟩
  case round =>
    obtain ⟨k, hk, rfl, ha, rfl⟩ := hrel
    have Ha := Lib.hid ha; clear ha
    by_cases hlt : k < l.length
    · obtain ⟨b, off, rfl, hb0, hc1⟩ := HD.out.at hlt
      have HY : Hid ((l[k].toList == x.toList) = true → hasS l x = true) := Lib.hid (fun h => hasS_yes hlt h)
      have HN : Hid ((l[k].toList == x.toList) = false → ∀ j (h : j < l.length), j < k + 1 → (l[j].toList == x.toList) = false) := Lib.hid (fun hn j h hj => by
        by_cases e : j = k
        · subst e; exact hn
        · exact Ha.out j h (by omega))
      generalize l[k] = A at *
      cases hq : (A.toList == x.toList)
      · have HN' := Lib.hid (HN.out hq)
        go_wp2
        go_roundw
        case rel => exact ⟨k + 1, by omega, by go_num, HN'.out, trivial⟩
        case measure => simp [intOf]; omega
      · have HY' := Lib.hid (HY.out hq)
        go_wp2
        go_ret
        exact ⟨ret_bool (by rw [HY'.out]), rfl⟩
    · have HN' : Hid (hasS l x = false) := Lib.hid (hasS_no fun j h => Ha.out j h (by omega))
      go_wp2
      go_ret
      exact ⟨ret_bool (by rw [HN'.out]), rfl⟩

end Go.Proofs.Ytglgkocjdockdaa
/- Access control: which rules are right: the program. -/
namespace Go.Proofs.Ytglgkocjdockdaa
open Go.RowKit
attribute [local go_sem ↓] Go.wp_at_zero Go.wp_at_succ

def starB (s : ByteArray) : Bool := s.toList == [42]
def rtB (r : Int) : Bool := decide (1 ≤ r) && decide (r ≤ 4)
noncomputable def ruleB (x : RuleT) : Bool := (starB x.1 || nmL x.1) && (decide (x.2.2.1.length ≤ 8) && namesB x.2.2.1) && (dnB x.2.1 && rtB x.2.2.2.1)
noncomputable def aclB (l : List RuleT) : Bool := decide (l.length ≤ 10) && l.all ruleB
theorem isRight_any (r : Int) (w : World) : Calls Try.prog 118 #[.int .i64 r] w fun e w' => e = .returned (.bool (rtB r)) ∧ w' = w := by
  by_cases h1 : 1 ≤ r
  · by_cases h2 : r ≤ 4
    all_goals
      go_enter Try.func118, Try.ntmps118
      go_wp2
      go_ret
      exact ⟨ret_bool (by simp [rtB, h1, h2]), rfl⟩
  · go_enter Try.func118, Try.ntmps118
    go_wp2
    go_ret
    exact ⟨ret_bool (by simp [rtB, h1]; omega), rfl⟩
set_option maxRecDepth 100000 in
set_option maxHeartbeats 4000000 in
theorem ruleRight_any {S : Bs} (a0 : ByteArray) (a1 : List RdnT) (a2 : List ByteArray) (a3 : Int) (a4 : Bool) (v1 v2 : Value) (w : World) (h1 : SlAt rdnE S w a1 v1) (h2 : SlAt strE S w a2 v2) (hz : ruleE.sz (a0, a1, a2, a3, a4) ≤ 1048576) :
    Calls Try.prog 69 #[.agg #[.string a0, v1, v2, .int .i64 a3, .bool a4]] w fun e w' => e = .returned (.bool (ruleB (a0, a1, a2, a3, a4))) ∧ Below w.heap.size w w' := by
  have HE : ruleE.sz (a0, a1, a2, a3, a4) = a0.size + ((a1.length + szL rdnE a1) + ((a2.length + szL strE a2) + (0 + (0)))) := rfl
  rw [HE] at hz
  have HB : Hid (ruleB (a0, a1, a2, a3, a4) = ((starB a0 || nmL a0) && (decide (a2.length ≤ 8) && namesB a2) && (dnB a1 && rtB a3))) := Lib.hid rfl
  obtain ⟨o1, k1, rfl⟩ := h1.sl
  obtain ⟨o2, k2, rfl⟩ := h2.sl
  have CN : Hid (∀ W : World, Calls Try.prog 84 #[.string a0] W fun e w' => e = .returned (.bool (nmL a0)) ∧ W = w') := Lib.hid (fun W => NameRight_any a0 W (by unfold maxLen; omega))
  have CA : Hid (∀ W : World, Below w.heap.size w W → Calls Try.prog 116 #[.slice o2 a2.length k2] W fun e w' => e = .returned (.bool (namesB a2)) ∧ Below W.heap.size W w') := Lib.hid (fun W b => areNames_any o2 a2 k2 W ((strs_of h2).below b) (fits_str (by omega)))
  have CD : Hid (∀ W : World, Below w.heap.size w W → Calls Try.prog 117 #[.slice o1 a1.length k1] W fun e w' => e = .returned (.bool (dnB a1)) ∧ Below W.heap.size W w') := Lib.hid (fun W b => DnRight_any o1 a1 k1 W ((dn_of h1).below b) (fits_dn (by omega)))
  have hl2 : a2.length ≤ 1048576 := by omega
  clear h1 h2 hz HE
  generalize nmL a0 = nm at *
  generalize namesB a2 = nms at *
  generalize dnB a1 = dn at *
  generalize hs : starB a0 = st at *
  have hst : (a0.toList == [42]) = st := hs
  clear hs
  generalize ruleB (a0, a1, a2, a3, a4) = R at *
  have hcase : (st = false ∧ nm = false) ∨ (st || nm) = true := by cases st <;> cases nm <;> simp
  rcases hcase with ⟨e1, e2⟩ | hok
  · subst e1 e2
    go_enter Try.func69, Try.ntmps69
    go_wp2_with fail
    refine (CN.out _).mono ?_
    rintro e w1 ⟨rfl, rfl⟩
    go_wp2
    go_ret
    exact ⟨ret_bool (by rw [HB.out]; rfl), more' (Below.refl _ _) _⟩
  rw [hok] at HB
  have HB2 : Hid (R = ((decide (a2.length ≤ 8) && nms) && (dn && rtB a3))) := Lib.hid (by rw [HB.out]; simp)
  have CN2 : Hid (st = false → nm = true) := Lib.hid (fun h => by subst h; simpa using hok)
  clear HB hok
  by_cases h8 : a2.length ≤ 8
  rotate_left
  · have HR : Hid (R = false) := Lib.hid (by rw [HB2.out]; simp [h8])
    have h8' : (8 : Int) < (a2.length : Int) := by omega
    cases st
    all_goals
      first
        | (have hn := CN2.out rfl; rw [hn] at CN; clear CN2)
        | clear CN2
      go_enter Try.func69, Try.ntmps69
      go_wp2_with (first | (go_at_call 84; refine (CN.out _).mono ?_; rintro e w1 ⟨rfl, rfl⟩) | (fail "none"))
      go_ret
      exact ⟨ret_bool HR.out.symm, more' (Below.refl _ _) _⟩
  have HB3 : Hid (R = (nms && (dn && rtB a3))) := Lib.hid (by rw [HB2.out]; simp [h8])
  have h8' : ¬ (8 : Int) < (a2.length : Int) := by omega
  clear HB2
  cases st
  all_goals
    first
      | (have hn := CN2.out rfl; rw [hn] at CN; clear CN2)
      | clear CN2
    go_enter Try.func69, Try.ntmps69
    go_wp2_with (first | (go_at_call 84; refine (CN.out _).mono ?_; rintro e w1 ⟨rfl, rfl⟩) | (fail "none"))
    refine calls_by (fun W => Below w.heap.size w W ∧ Blk W w.heap.size [.string a0, .slice o1 a1.length k1, .slice o2 a2.length k2, .int .i64 a3, .bool a4]) ⟨more' (Below.refl _ _) _, Blk.new _ _ _⟩ ?_
    rintro W1 ⟨b1, t1⟩
    refine (CA.out W1 b1).mono ?_
    rintro e w2 ⟨rfl, hb⟩
    have b2 := b1.trans (hb.mono b1.size); have T2 := Lib.hid (t1.below hb)
    clear hb t1 b1
    cases nms
    · have HR : Hid (R = false) := Lib.hid (by rw [HB3.out]; rfl)
      go_wp2
      go_ret
      exact ⟨ret_bool HR.out.symm, b2⟩
    have m0 := T2.out.cell 0 rfl
    have m1 := T2.out.cell 1 rfl
    have m2 := T2.out.cell 2 rfl
    have m3 := T2.out.cell 3 rfl
    have m4 := T2.out.cell 4 rfl
    go_wp2_with fail
    refine (CD.out w2 b2).mono ?_
    rintro e w3 ⟨rfl, hb⟩
    have b3 := b2.trans (hb.mono b2.size); have T3 := Lib.hid (T2.out.below hb)
    clear hb T2 b2 m0 m1 m2 m3 m4
    cases dn
    · have HR : Hid (R = false) := Lib.hid (by rw [HB3.out]; rfl)
      go_wp2
      go_ret
      exact ⟨ret_bool HR.out.symm, b3⟩
    have HR : Hid (R = rtB a3) := Lib.hid (by rw [HB3.out]; rfl)
    have m3 := T3.out.cell 3 rfl
    go_wp2_with fail
    refine (isRight_any a3 w3).mono ?_
    rintro e w4 ⟨rfl, rfl⟩
    generalize rtB a3 = q at *
    go_wp2
    go_ret
    exact ⟨ret_bool HR.out.symm, b3⟩
end Go.Proofs.Ytglgkocjdockdaa
/- Access control: which lists are right: the program. -/
namespace Go.Proofs.Ytglgkocjdockdaa
open Go.RowKit
attribute [local go_sem ↓] Go.wp_at_zero Go.wp_at_succ

theorem aclB_long {l : List RuleT} (h : ¬ l.length ≤ 10) : aclB l = false := by unfold aclB; simp [h]
theorem aclB_bad {l : List RuleT} {k : Nat} (h : k < l.length) (hb : ruleB l[k] = false) : aclB l = false := by unfold aclB; rw [all_bad ruleB l k h hb]; simp
theorem aclB_all {l : List RuleT} (h1 : l.length ≤ 10) (h : l.all ruleB = true) : aclB l = true := by unfold aclB; rw [h]; simp [h1]
set_option maxRecDepth 100000 in
set_option maxHeartbeats 4000000 in
theorem AclRight_any {S : Bs} (v : Value) (d : List RuleT) (w : World) (hd : SlAt ruleE S w d v) (hz : d.length + szL ruleE d ≤ 1048576) :
    Calls Try.prog 15 #[v] w fun e w' => e = .returned (.bool (aclB d)) ∧ Below w.heap.size w w' := by
  obtain ⟨ao, ca, rfl⟩ := hd.sl
  have HD := Lib.hid hd; have HL := Lib.hid hz; clear hd
  have hl : d.length ≤ 1048576 := by omega
  clear hz
  by_cases h10 : d.length ≤ 10
  rotate_left
  · have HR := Lib.hid (aclB_long h10)
    have h10' : (10 : Int) < (d.length : Int) := by omega
    go_enter Try.func15, Try.ntmps15
    go_wp2
    go_ret
    exact ⟨ret_bool HR.out.symm, Below.refl _ _⟩
  have h10' : ¬ (10 : Int) < (d.length : Int) := by omega
  go_enter Try.func15, Try.ntmps15
  go_wp2
  go_loopw [10] (fun i wr => ∃ k : Nat, k ≤ d.length ∧ i = .int .i64 k ∧ (d.take k).all ruleB = true ∧ Below w.heap.size w wr) (fun i _ => d.length - (intOf i).toNat)
  case atStart => exact ⟨0, Nat.zero_le _, rfl, rfl, Below.refl _ _⟩
  case round =>
    obtain ⟨k, hk, rfl, ha, hbel⟩ := hrel
    have Ha := Lib.hid ha; clear ha
    have hsz := hbel.size
    by_cases hlt : k < d.length
    · obtain ⟨b, off, a0, a1, a2, a3, a4, v1, v2, rfl, _, hb0, hx, ⟨hc0, hc1, hc2, hc3, hc4⟩, s1, s2, _⟩ := rule_row (HD.out.frame (Same.of_below' hbel)) hlt
      have HZ : Hid (ruleE.sz (a0, a1, a2, a3, a4) ≤ 1048576) := Lib.hid (by have h1 := szL_mem ruleE (List.getElem_mem hlt); rw [hx] at h1; have := HL.out; omega)
      have HBad : Hid (ruleB (a0, a1, a2, a3, a4) = false → aclB d = false) := Lib.hid (fun h => aclB_bad hlt (by rw [hx]; exact h))
      have HT : Hid (ruleB (a0, a1, a2, a3, a4) = true → (d.take (k + 1)).all ruleB = true) := Lib.hid (fun h => by rw [all_take ruleB d k hlt, Ha.out, hx, h]; rfl)
      clear hx Ha
      have HC : Hid (∀ W : World, Below wr.heap.size wr W → Calls Try.prog 69 #[.agg #[.string a0, v1, v2, .int .i64 a3, .bool a4]] W fun e w' => e = .returned (.bool (ruleB (a0, a1, a2, a3, a4))) ∧ Below W.heap.size W w') := Lib.hid (fun W b => ruleRight_any a0 a1 a2 a3 a4 v1 v2 W (s1.frame (Same.of_below' b)) (s2.frame (Same.of_below' b)) HZ.out)
      obtain ⟨o1, k1, rfl⟩ := s1.sl
      obtain ⟨o2, k2, rfl⟩ := s2.sl
      clear s1 s2 HZ
      generalize ruleB (a0, a1, a2, a3, a4) = r at *
      have g1 : (0 : Int) ≤ (k : Int) := by omega
      have g2 : (k : Int) < (d.length : Int) := by omega
      go_wp2_with fail
      refine (HC.out _ (more' (Below.refl _ _) _)).mono ?_
      rintro e w2 ⟨rfl, hb2⟩
      have B2 := Lib.hid ((more' hbel _).trans (hb2.mono (more' hbel _).size)); clear hb2
      cases r
      · have HR := Lib.hid (HBad.out rfl)
        go_wp2
        go_ret
        exact ⟨ret_bool HR.out.symm, B2.out⟩
      · go_wp2
        go_roundw
        case rel => exact ⟨k + 1, by omega, by go_num, HT.out (by first | rfl | trivial), B2.out⟩
        case measure => simp [intOf]; omega
    · have HR : Hid (aclB d = true) := Lib.hid (aclB_all h10 (by have := Ha.out; rw [List.take_of_length_le (by omega)] at this; exact this))
      go_wp2
      go_ret
      exact ⟨ret_bool HR.out.symm, hbel⟩
end Go.Proofs.Ytglgkocjdockdaa
/- Access control: which rules apply: the program. -/
namespace Go.Proofs.Ytglgkocjdockdaa
open Go.RowKit
attribute [local go_sem ↓] Go.wp_at_zero Go.wp_at_succ

noncomputable def appB (who : ByteArray) (dn : RdnL) (attr : ByteArray) (right : Int) (x : RuleT) : Bool :=
  (starB x.1 || (x.1.toList == who.toList)) && ((decide (x.2.2.1.length = 0) || hasS x.2.2.1 attr) && (decide (x.2.2.2.1 = right) && underB dn x.2.1))
noncomputable def grantB (l : List RuleT) (who : ByteArray) (dn : RdnL) (attr : ByteArray) (right : Int) : Bool := ((l.filter (appB who dn attr right)).head?.map fun x => x.2.2.2.2).getD false
set_option maxRecDepth 100000 in
set_option maxHeartbeats 4000000 in
theorem applies_any {S S' : Bs} (a0 : ByteArray) (a1 : List RdnT) (a2 : List ByteArray) (a3 : Int) (a4 : Bool) (v1 v2 : Value) (who : ByteArray) (dn : RdnL) (dv : Value) (attr : ByteArray) (right : Int) (w : World) (h1 : SlAt rdnE S w a1 v1) (h2 : SlAt strE S w a2 v2) (hd : SlAt rdnE S' w dn dv)
    (hz : ruleE.sz (a0, a1, a2, a3, a4) ≤ 1048576) (hzd : dn.length + szL rdnE dn ≤ 1048576) :
    Calls Try.prog 146 #[.agg #[.string a0, v1, v2, .int .i64 a3, .bool a4], .agg #[.string who, dv, .string attr, .int .i64 right]] w fun e w' => e = .returned (.bool (appB who dn attr right (a0, a1, a2, a3, a4))) ∧ Below w.heap.size w w' := by
  have HE : ruleE.sz (a0, a1, a2, a3, a4) = a0.size + ((a1.length + szL rdnE a1) + ((a2.length + szL strE a2) + (0 + (0)))) := rfl
  rw [HE] at hz
  have HB : Hid (appB who dn attr right (a0, a1, a2, a3, a4) = ((starB a0 || (a0.toList == who.toList)) && ((decide (a2.length = 0) || hasS a2 attr) && (decide (a3 = right) && underB dn a1)))) := Lib.hid rfl
  obtain ⟨o1, k1, rfl⟩ := h1.sl
  obtain ⟨o2, k2, rfl⟩ := h2.sl
  obtain ⟨o3, k3, rfl⟩ := hd.sl
  have CC : Hid (∀ W : World, Below w.heap.size w W → Calls Try.prog 163 #[.slice o2 a2.length k2, .string attr] W fun e w' => e = .returned (.bool (hasS a2 attr)) ∧ w' = W) := Lib.hid (fun W b => contains_any o2 a2 k2 attr W ((strs_of h2).below b) (by omega))
  have CU : Hid (∀ W : World, Below w.heap.size w W → Calls Try.prog 164 #[.slice o3 dn.length k3, .slice o1 a1.length k1] W fun e w' => e = .returned (.bool (underB dn a1)) ∧ Below W.heap.size W w') := Lib.hid (fun W b => DnUnder_any o3 o1 dn a1 k3 k1 W hd.cap.2.1 ((dn_of hd).below b) ((dn_of h1).below b) (fits_dn hzd) (fits_dn (by omega)))
  have hl2 : a2.length ≤ 1048576 := by omega
  clear h1 h2 hd hz hzd HE
  generalize hasS a2 attr = hs at *
  generalize underB dn a1 = un at *
  generalize hst : starB a0 = st at *
  have hst : (a0.toList == [42]) = st := hst
  generalize appB who dn attr right (a0, a1, a2, a3, a4) = R at *
  generalize hwh : (a0.toList == who.toList) = wh at *
  have B0 : Hid (∀ T1 T2, Below w.heap.size w ((w.alloc (.cells #[.string a0, .slice o1 a1.length k1, .slice o2 a2.length k2, .int .i64 a3, .bool a4] T1)).alloc (.cells #[.string who, .slice o3 dn.length k3, .string attr, .int .i64 right] T2))) := Lib.hid (fun _ _ => more' (more' (Below.refl _ _) _) _)
  have hcase : (st = false ∧ wh = false) ∨ (st || wh) = true := by cases st <;> cases wh <;> simp
  rcases hcase with ⟨e1, e2⟩ | hok
  · subst e1 e2
    have HR : Hid (R = false) := Lib.hid (by rw [HB.out]; rfl)
    go_enter Try.func146, Try.ntmps146
    go_wp2
    go_ret
    exact ⟨ret_bool HR.out.symm, B0.out _ _⟩
  rw [hok] at HB
  have HB2 : Hid (R = ((decide (a2.length = 0) || hs) && (decide (a3 = right) && un))) := Lib.hid (by rw [HB.out]; simp)
  have CW : st = false → wh = true := fun h => by subst h; simpa using hok
  clear HB hok
  have hcase2 : (¬ a2.length = 0 ∧ hs = false) ∨ (decide (a2.length = 0) || hs) = true := by
    by_cases h : a2.length = 0
    · right; simp [h]
    · cases hs
      · left; exact ⟨h, rfl⟩
      · right; simp
  rcases hcase2 with ⟨e1, e2⟩ | hok
  · subst e2
    have HR : Hid (R = false) := Lib.hid (by rw [HB2.out]; simp [e1])
    have e1' : (0 : Int) < (a2.length : Int) := by omega
    cases st
    all_goals
      try (have hw1 := CW rfl; subst hw1)
      clear CW
      go_enter Try.func146, Try.ntmps146
      go_wp2_with (first | (go_at_call 163; refine (CC.out _ (B0.out _ _)).mono ?_; rintro e w1 ⟨rfl, rfl⟩) | (fail "none"))
      go_ret
      exact ⟨ret_bool HR.out.symm, B0.out _ _⟩
  rw [hok] at HB2
  have HB3 : Hid (R = (decide (a3 = right) && un)) := Lib.hid (by rw [HB2.out]; simp)
  by_cases hr : a3 = right
  rotate_left
  · have HR : Hid (R = false) := Lib.hid (by rw [HB3.out]; simp [hr])
    have hr' : (a3 == right) = false := by simp [hr]
    by_cases hn : a2.length = 0
    · have hn' : ¬ (0 : Int) < (a2.length : Int) := by omega
      clear hn hok
      cases st
      all_goals
        try (have hw1 := CW rfl; subst hw1)
        clear CW
        go_enter Try.func146, Try.ntmps146
        go_wp2
        go_ret
        exact ⟨ret_bool HR.out.symm, B0.out _ _⟩
    · have hn' : (0 : Int) < (a2.length : Int) := by omega
      have hh : hs = true := by simpa [hn] using hok
      subst hh
      cases st
      all_goals
        try (have hw1 := CW rfl; subst hw1)
        clear CW
        go_enter Try.func146, Try.ntmps146
        go_wp2_with (first | (go_at_call 163; refine (CC.out _ (B0.out _ _)).mono ?_; rintro e w1 ⟨rfl, rfl⟩) | (fail "none"))
        go_ret
        exact ⟨ret_bool HR.out.symm, B0.out _ _⟩
  subst hr
  have HR : Hid (R = un) := Lib.hid (by rw [HB3.out]; simp)
  have hr' : (a3 == a3) = true := by simp
  by_cases hn : a2.length = 0
  · have hn' : ¬ (0 : Int) < (a2.length : Int) := by omega
    clear hn hok
    cases st
    all_goals
      try (have hw1 := CW rfl; subst hw1)
      clear CW
      go_enter Try.func146, Try.ntmps146
      go_wp2_with fail
      refine (CU.out _ (B0.out _ _)).mono ?_
      rintro e w2 ⟨rfl, hb⟩
      have b2 := (B0.out _ _).trans (hb.mono (B0.out _ _).size)
      clear hb
      go_wp2
      go_ret
      exact ⟨ret_bool HR.out.symm, b2⟩
  · have hn' : (0 : Int) < (a2.length : Int) := by omega
    have hh : hs = true := by simpa [hn] using hok
    subst hh
    cases st
    all_goals
      try (have hw1 := CW rfl; subst hw1)
      clear CW
      go_enter Try.func146, Try.ntmps146
      go_wp2_with (first | (go_at_call 163; refine (CC.out _ (B0.out _ _)).mono ?_; rintro e w1 ⟨rfl, rfl⟩) | (fail "none"))
      refine (CU.out _ (B0.out _ _)).mono ?_
      rintro e w2 ⟨rfl, hb⟩
      have b2 := (B0.out _ _).trans (hb.mono (B0.out _ _).size)
      clear hb
      go_wp2
      go_ret
      exact ⟨ret_bool HR.out.symm, b2⟩
end Go.Proofs.Ytglgkocjdockdaa
/- Access control: the iterator over the rules that apply. -/
namespace Go.Proofs.Ytglgkocjdockdaa
open Go.RowKit Go.Shelf
attribute [local go_sem] Oper.semAt_some

/-- a rule's value, as the iterator hands it on -/
abbrev RV := ByteArray × (Option Addr × Nat × Nat) × (Option Addr × Nat × Nat) × Int × Bool
def rvVal (x : RV) : Value := .agg #[.string x.1, .slice x.2.1.1 x.2.1.2.1 x.2.1.2.2, .slice x.2.2.1.1 x.2.2.1.2.1 x.2.2.1.2.2, .int .i64 x.2.2.2.1, .bool x.2.2.2.2]
def alw (l : List RV) : List Bool := l.map fun x => x.2.2.2.2
def alwR (l : List RuleT) : List Bool := l.map fun x => x.2.2.2.2
theorem alw_snoc (l : List RV) (x : RV) : alw (l ++ [x]) = alw l ++ [x.2.2.2.2] := by simp [alw]
set_option maxRecDepth 100000 in
set_option maxHeartbeats 4000000 in
theorem iter_in {S S' : Bs} (n : Nat) (hn : 1 ≤ n) (l Bl Ba n₀ : Nat) (L : List RuleT) (who : ByteArray) (dn : RdnL) (attr : ByteArray) (right : Int) (ao bo : Option Addr) (m c k1 k2 : Nat) (J Jx : List RV → World → Prop)
    (W : World) (hBl0 : Bl < n₀) (hBa0 : Ba < n₀) (hJ : AbidesFrom W.heap.size J) (hJx : AbidesFrom W.heap.size Jx)
    (hY : ∀ pre x W1, J pre W1 → pre.length < L.length → YieldAt Fence.wide (n - 1) Try.prog l #[rvVal x] W1 fun e W' =>
      (e = .returned (.bool true) ∧ J (pre ++ [x]) W' ∧ Below n₀ W1 W') ∨ (e = .returned (.bool false) ∧ Jx (pre ++ [x]) W'))
    (hBl : W.cell? ⟨Bl, 0, none⟩ = some (.slice ao m c)) (x1 : W.cell? ⟨Ba, 0, none⟩ = some (.string who)) (x2 : W.cell? ⟨Ba, 1, none⟩ = some (.slice bo k1 k2)) (x3 : W.cell? ⟨Ba, 2, none⟩ = some (.string attr)) (x4 : W.cell? ⟨Ba, 3, none⟩ = some (.int .i64 right))
    (hL : ∀ X, Below n₀ W X → SlAt ruleE S X L (.slice ao m c)) (hd : ∀ X, Below n₀ W X → SlAt rdnE S' X dn (.slice bo k1 k2)) (hz : L.length + szL ruleE L ≤ 1048576) (hzd : dn.length + szL rdnE dn ≤ 1048576) (hn0 : n₀ ≤ W.heap.size)
    (h0 : J [] W) :
    CallsIn Fence.wide n Try.prog 145 #[.func (.yield l) #[] #[], .pointer (some ⟨Bl, 0, none⟩), .pointer (some ⟨Ba, 0, none⟩)] W fun e W' => (∃ v, e = .returned v) ∧
      ((∃ ys, alw ys = alwR (L.filter (appB who dn attr right)) ∧ J ys W') ∨ (∃ pre, (∃ k, alw pre = alwR ((L.take k).filter (appB who dn attr right))) ∧ Jx pre W')) := by
  obtain ⟨rfl, _, _⟩ := (hL W (Below.refl _ _)).cap
  have HL := Lib.hid hL; have HDn := Lib.hid hd; have HZ := Lib.hid hz; have HZd := Lib.hid hzd
  have hl : L.length ≤ 1048576 := by omega
  have HBl := Lib.hid hBl; have HX := Lib.hid (And.intro x1 (And.intro x2 (And.intro x3 x4)))
  have HY := Lib.hid hY; have HJ0 := Lib.hid h0
  have HJb : Hid (∀ pre A B, J pre A → Below A.heap.size A B → J pre B) := Lib.hid (fun pre A B h b => hJ pre A B none h (grown_of b none) (fun r e => by cases e))
  clear hz hzd hL hd hY h0 x1 x2 x3 x4 hJ hJx
  refine callsIn_of_wp Try.func145 rfl trivial ?_ rfl
  simp only [Try.ntmps145, List.size_toArray, List.length_cons, List.length_nil, Nat.reduceAdd, Nat.reduceSub, Array.replicate_succ, Array.replicate_zero, List.push_toArray, List.append_toArray, List.nil_append, List.cons_append]
  gi_wp2
  gi_loopw [8] (fun i wr => ∃ k : Nat, k ≤ L.length ∧ i = .int .i64 k ∧ ∃ pre, alw pre = alwR ((L.take k).filter (appB who dn attr right)) ∧ pre.length ≤ k ∧ J pre wr ∧ Below n₀ W wr ∧ n₀ ≤ wr.heap.size)
    (fun i _ => L.length - (intOf i).toNat)
  case atStart => exact ⟨0, Nat.zero_le _, rfl, [], rfl, Nat.le_refl _, HJ0.out, Below.refl _ _, hn0⟩
  case round =>
    obtain ⟨k, hk, rfl, pre, hp, hpl, hJs, hnx, hnr⟩ := hrel
    have HP := Lib.hid hp; have HJs := Lib.hid hJs; have HN := Lib.hid hnx
    clear hp hJs hnx
    by_cases hlt : k < L.length
    · obtain ⟨b, off, a0, a1, a2, a3, a4, v1, v2, rfl, hbS, hb0, hx, ⟨hc0, hc1, hc2, hc3, hc4⟩, s1, s2, _⟩ := rule_row (HL.out wr HN.out) hlt
      have HZr : Hid (ruleE.sz (a0, a1, a2, a3, a4) ≤ 1048576) := Lib.hid (by have h1 := szL_mem ruleE (List.getElem_mem hlt); rw [hx] at h1; have := HZ.out; omega)
      have HFl : Hid ((L.take (k + 1)).filter (appB who dn attr right) = (L.take k).filter (appB who dn attr right) ++ (if appB who dn attr right (a0, a1, a2, a3, a4) then [(a0, a1, a2, a3, a4)] else [])) := Lib.hid (by
        rw [List.take_succ_eq_append_getElem hlt, List.filter_append, hx]
        cases h : appB who dn attr right (a0, a1, a2, a3, a4) <;> simp [List.filter_cons, h])
      clear hx
      have hdw := HDn.out wr HN.out
      have CA : Hid (∀ X : World, Below wr.heap.size wr X → Calls Try.prog 146 #[.agg #[.string a0, v1, v2, .int .i64 a3, .bool a4], .agg #[.string who, .slice bo k1 k2, .string attr, .int .i64 right]] X fun e w' => e = .returned (.bool (appB who dn attr right (a0, a1, a2, a3, a4))) ∧ Below X.heap.size X w') :=
        Lib.hid (fun X h => applies_any a0 a1 a2 a3 a4 v1 v2 who dn (.slice bo k1 k2) attr right X (s1.frame (Same.of_below' h)) (s2.frame (Same.of_below' h)) (hdw.frame (Same.of_below' h)) HZr.out HZd.out)
      obtain ⟨o1, q1, rfl⟩ := s1.sl
      obtain ⟨o2, q2, rfl⟩ := s2.sl
      have XA : ∀ X : World, Below n₀ W X → X.cell? ⟨Ba, 0, none⟩ = some (.string who) ∧ X.cell? ⟨Ba, 1, none⟩ = some (.slice bo k1 k2) ∧ X.cell? ⟨Ba, 2, none⟩ = some (.string attr) ∧ X.cell? ⟨Ba, 3, none⟩ = some (.int .i64 right) := fun X h => by
        obtain ⟨x1, x2, x3, x4⟩ := HX.out
        exact ⟨(h.cell (p := ⟨Ba, _, none⟩) hBa0).trans x1, (h.cell (p := ⟨Ba, _, none⟩) hBa0).trans x2, (h.cell (p := ⟨Ba, _, none⟩) hBa0).trans x3, (h.cell (p := ⟨Ba, _, none⟩) hBa0).trans x4⟩
      have HXA := Lib.hid XA; clear XA
      obtain ⟨x1, x2, x3, x4⟩ := HXA.out (wr.alloc (.cells #[.string a0, .slice o1 a1.length q1, .slice o2 a2.length q2, .int .i64 a3, .bool a4] 74)) (HN.out.alloc hnr _)
      clear s1 s2 hdw
      generalize appB who dn attr right (a0, a1, a2, a3, a4) = r at *
      have HAl : Hid (Below wr.heap.size wr (wr.alloc (.cells #[.string a0, .slice o1 a1.length q1, .slice o2 a2.length q2, .int .i64 a3, .bool a4] 74)) ∧ Blk (wr.alloc (.cells #[.string a0, .slice o1 a1.length q1, .slice o2 a2.length q2, .int .i64 a3, .bool a4] 74)) wr.heap.size [.string a0, .slice o1 a1.length q1, .slice o2 a2.length q2, .int .i64 a3, .bool a4]) := Lib.hid ⟨more' (Below.refl _ _) _, Blk.new _ _ _⟩
      gi_wp2_with fail
      refine ⟨trivial, ?_⟩
      refine (callsIn_wide.2 (CA.out _ HAl.out.1)).mono ?_
      rintro e w2 ⟨rfl, hb⟩
      have B2 := Lib.hid (HAl.out.1.trans (hb.mono HAl.out.1.size)); have T2 := Lib.hid (HAl.out.2.below hb)
      clear hb HAl x1 x2 x3 x4 hc0 hc1 hc2 hc3 hc4 CA
      have hN2 := HN.out.trans (B2.out.mono hnr)
      have hs2 : n₀ ≤ w2.heap.size := Nat.le_trans hnr B2.out.size
      have HJ2 := Lib.hid (HJb.out pre wr w2 HJs.out B2.out)
      cases r
      · have HF2 : Hid (alw pre = alwR ((L.take (k + 1)).filter (appB who dn attr right))) := Lib.hid (by rw [HFl.out]; simpa using HP.out)
        gi_wp2
        refine ⟨fun _ h => (by cases h), ?_⟩
        gi_wp2
        go_roundw
        case rel => exact ⟨k + 1, by omega, by simp, pre, HF2.out, by omega, HJ2.out, hN2, hs2⟩
        case measure => simp [intOf]; omega
      · have HF2 : Hid (alw (pre ++ [(a0, (o1, a1.length, q1), (o2, a2.length, q2), a3, a4)]) = alwR ((L.take (k + 1)).filter (appB who dn attr right))) := Lib.hid (by rw [HFl.out, alw_snoc, HP.out]; simp [alwR])
        obtain ⟨fn, tmps, assign, body, hy, hR⟩ := HY.out pre (a0, (o1, a1.length, q1), (o2, a2.length, q2), a3, a4) w2 HJ2.out (by omega)
        simp only [rvVal] at hy
        have m0 := T2.out.cell 0 rfl
        have m1 := T2.out.cell 1 rfl
        have m2 := T2.out.cell 2 rfl
        have m3 := T2.out.cell 3 rfl
        have m4 := T2.out.cell 4 rfl
        have HRR := Lib.hid hR; clear hR
        gi_wp2
        refine HRR.out.mono ?_
        rintro e W3 (⟨rfl, hJ3, hk3⟩ | ⟨rfl, hJx3⟩)
        · have HJ3 := Lib.hid hJ3; clear hJ3
          have hN3 := hN2.trans hk3
          have hs3 : n₀ ≤ W3.heap.size := Nat.le_trans hs2 hk3.size
          gi_wp2
          go_roundw
          case rel => exact ⟨k + 1, by omega, by simp, _, HF2.out, by simp; omega, HJ3.out, hN3, hs3⟩
          case measure => simp [intOf]; omega
        · have HJ3 := Lib.hid hJx3; clear hJx3
          gi_wp2
          refine bodyPost_ret (results_none rfl _ _ _) rfl ?_
          exact ⟨⟨_, rfl⟩, .inr ⟨_, ⟨k + 1, HF2.out⟩, HJ3.out⟩⟩
    · have e : L.take k = L := List.take_of_length_le (by omega)
      have HP2 : Hid (alw pre = alwR (L.filter (appB who dn attr right))) := Lib.hid (by have := HP.out; rw [e] at this; exact this)
      clear e
      gi_wp2
      go_end0
      exact ⟨⟨_, rfl⟩, .inl ⟨pre, HP2.out, HJs.out⟩⟩
end Go.Proofs.Ytglgkocjdockdaa
/- Access control: the first rule that applies decides: the program. -/
namespace Go.Proofs.Ytglgkocjdockdaa
open Go.RowKit Go.Shelf
attribute [local go_sem] Oper.semAt_some

set_option maxRecDepth 100000 in
set_option maxHeartbeats 1000000 in
theorem rules_in (n : Nat) (ao bo : Option Addr) (m c k1 k2 : Nat) (who attr : ByteArray) (right : Int) (w : World) :
    CallsIn Fence.wide n Try.prog 121 #[.slice ao m c, .agg #[.string who, .slice bo k1 k2, .string attr, .int .i64 right]] w fun e w' => e = .returned (.func (.func 145) #[] #[.pointer (some ⟨w.heap.size, 0, none⟩), .pointer (some ⟨w.heap.size + 1, 0, none⟩)]) ∧
      w' = (w.alloc (.cells #[.slice ao m c] 25)).alloc (.cells #[.string who, .slice bo k1 k2, .string attr, .int .i64 right] 107) := by
  refine callsIn_of_wp Try.func121 rfl trivial ?_ rfl
  simp only [Try.ntmps121, List.size_toArray, List.length_cons, List.length_nil, Nat.reduceAdd, Nat.reduceSub, Array.replicate_succ, Array.replicate_zero, List.push_toArray, List.append_toArray, List.nil_append, List.cons_append]
  gi_wp2
  go_ret
  exact ⟨rfl, rfl⟩
set_option maxRecDepth 100000 in
set_option maxHeartbeats 4000000 in
theorem grants_any {S S' : Bs} (v : Value) (d : List RuleT) (who : ByteArray) (dn : RdnL) (dv : Value) (attr : ByteArray) (right : Int) (w : World) (hL : SlAt ruleE S w d v) (hd : SlAt rdnE S' w dn dv) (hz : d.length + szL ruleE d ≤ 1048576) (hzd : dn.length + szL rdnE dn ≤ 1048576) :
    Calls Try.prog 76 #[v, .agg #[.string who, dv, .string attr, .int .i64 right]] w fun e w' => e = .returned (.bool (grantB d who dn attr right)) ∧ Below w.heap.size w w' := by
  obtain ⟨ao, c, rfl⟩ := hL.sl
  obtain ⟨bo, k2, rfl⟩ := hd.sl
  have HG0 : Hid (alwR (d.filter (appB who dn attr right)) = [] → grantB d who dn attr right = false) := Lib.hid (fun h => by
    have : d.filter (appB who dn attr right) = [] := by simpa [alwR] using h
    unfold grantB; rw [this]; rfl)
  have HG1 : Hid (∀ k b, alwR ((d.take k).filter (appB who dn attr right)) = [b] → grantB d who dn attr right = b) := Lib.hid (fun k b h => by
    have e : d.filter (appB who dn attr right) = (d.take k).filter (appB who dn attr right) ++ (d.drop k).filter (appB who dn attr right) := by rw [← List.filter_append, List.take_append_drop]
    unfold grantB
    rw [e]
    generalize (d.take k).filter (appB who dn attr right) = q at *
    match q, h with
    | [x], h => simp only [alwR, List.map_cons, List.map_nil, List.cons.injEq, and_true] at h; simpa using h
    | [], h => simp [alwR] at h
    | x :: y :: q, h => simp [alwR] at h)
  generalize grantB d who dn attr right = G at *
  refine (callsIn_wide (n := 6)).1 ?_
  refine callsIn_of_wp_marks Try.func76 rfl trivial ?_ rfl
  simp only [Try.ntmps76, List.size_toArray, List.length_cons, List.length_nil, Nat.reduceAdd, Nat.reduceSub, Array.replicate_succ, Array.replicate_zero, List.push_toArray, List.append_toArray, List.nil_append, List.cons_append]
  gi_wp2
  refine wpIn_wide.2 (wp_scope_straight ((wpIn_wide (n := 6)).1 ?_))
  gi_wp2
  refine wpIn_wide.2 (wp_label ?_)
  gi_wp2_with (refine ⟨trivial, ?_⟩; gi_at_call 121; refine (rules_in _ ao bo _ _ _ _ _ _ _ _).mono ?_; rintro e w1 ⟨rfl, rfl⟩)
  have hW : ∃ W0 : World, W0 = (((w.alloc (.cells #[.string who, .slice bo dn.length k2, .string attr, .int .i64 right] 107)).alloc (.cells #[.bool false] 4)).alloc (.cells #[.slice ao d.length c] 25)).alloc (.cells #[.string who, .slice bo dn.length k2, .string attr, .int .i64 right] 107) := ⟨_, rfl⟩
  obtain ⟨W0, hW0⟩ := hW
  rw [← hW0]
  have hB0 : Below w.heap.size w W0 := by rw [hW0]; exact more' (more' (more' (more' (Below.refl _ _) _) _) _) _
  have hsz : W0.heap.size = w.heap.size + 4 := by rw [hW0]; simp
  have bF : Boxed W0 (w.heap.size + 1) 4 (.bool false) := by
    rw [hW0]
    have := Boxed.new (w.alloc (.cells #[.string who, .slice bo dn.length k2, .string attr, .int .i64 right] 107)) 4 (.bool false)
    rw [World.size_alloc] at this
    exact (this.alloc _).alloc _
  have bL : Blk W0 (w.heap.size + 1 + 1) [.slice ao d.length c] := by rw [hW0]; exact (blk_at _ _ _ (by simp)).alloc _
  have bA : Blk W0 (w.heap.size + 1 + 1 + 1) [.string who, .slice bo dn.length k2, .string attr, .int .i64 right] := by rw [hW0]; exact blk_at _ _ _ (by simp)
  have hLw : ∀ X, Below w.heap.size w X → SlAt ruleE S X d (.slice ao d.length c) := fun X h => hL.frame (Same.of_below' h)
  have hdw : ∀ X, Below w.heap.size w X → SlAt rdnE S' X dn (.slice bo dn.length k2) := fun X h => hd.frame (Same.of_below' h)
  clear hW0 hL hd
  refine wpIn_rangeFunc_ownH rfl (by omega) (gf := 145) (lb := #[.pointer (some ⟨w.heap.size + 1 + 1, 0, none⟩), .pointer (some ⟨w.heap.size + 1 + 1 + 1, 0, none⟩)]) (by rfl) trivial (enters_of Try.func145 (by kernel_rfl) rfl)
    (encs := fun x : RV => #[rvVal x]) (Kp := Below W0.heap.size) (S := fun ys => alw ys = alwR (d.filter (appB who dn attr right))) (Sp := fun pre => ∃ k, alw pre = alwR ((d.take k).filter (appB who dn attr right))) (N := d.length) (w0 := W0)
    (fun l J Jx W hW hJ hJx hY h0 => iter_in (6 - 1) (by omega) l (w.heap.size + 1 + 1) (w.heap.size + 1 + 1 + 1) W0.heap.size d who dn attr right ao bo d.length c dn.length k2 J Jx W (by omega) (by omega) hJ hJx hY
      ((bL.below hW).cell 0 rfl) ((bA.below hW).cell 0 rfl) ((bA.below hW).cell 1 rfl) ((bA.below hW).cell 2 rfl) ((bA.below hW).cell 3 rfl)
      (fun X h => hLw X (hB0.trans ((hW.trans h).mono (by omega)))) (fun X h => hdw X (hB0.trans ((hW.trans h).mono (by omega)))) hz hzd hW.size h0)
    belowK_t (belowK_b (Nat.le_refl _)) (Below.refl _ _) (fun _ => rfl)
    (fun pre W => ((pre = [] ∧ Boxed W (w.heap.size + 1) 4 (.bool false)) ∧ Below w.heap.size w W) ∧ W0.heap.size ≤ W.heap.size)
    (fun cd pre W => (cd = .exit 0 ∧ ∃ b, alw pre = [b] ∧ Boxed W (w.heap.size + 1) 4 (.bool b)) ∧ Below w.heap.size w W)
    (OwnFrom.and (OwnFrom.and (OwnFrom.and (ownFrom_pure _ _) (Own.from (boxed_own _ _ _) _)) (ownFrom_below (Nat.le_refl _) (by omega))) (fun _ _ _ _ hs hg _ => Nat.le_trans hs hg.size))
    (fun cd => OwnFrom.and (fun s A B row hs hg hr => by obtain ⟨h1, b, h2, h3⟩ := hs; exact ⟨h1, b, h2, boxed_own (w.heap.size + 1) 4 (fun (_ : Unit) => Value.bool b) () A B row h3 hg (fun r e => (hr r e).2)⟩) (ownFrom_below (Nat.le_refl _) (by omega)))
    ⟨⟨⟨rfl, bF⟩, hB0⟩, Nat.le_refl _⟩
    (fun x a' W => ∃ Bx, w.heap.size + 3 < Bx ∧ Blk W Bx [.string x.1, .slice x.2.1.1 x.2.1.2.1 x.2.1.2.2, .slice x.2.2.1.1 x.2.2.1.2.1 x.2.2.1.2.2, .int .i64 x.2.2.2.1, .bool x.2.2.2.2] ∧ a' = { tmps := #[.slice ao d.length c, .agg #[.string who, .slice bo dn.length k2, .string attr, .int .i64 right], undef, .pointer (some ⟨w.heap.size, 0, none⟩), .bool false, .pointer (some ⟨w.heap.size + 1, 0, none⟩), .pointer (some ⟨Bx, 0, none⟩), .slice ao d.length c, .agg #[.string who, .slice bo dn.length k2, .string attr, .int .i64 right], .func (.func 145) #[] #[.pointer (some ⟨w.heap.size + 1 + 1, 0, none⟩), .pointer (some ⟨w.heap.size + 1 + 1 + 1, 0, none⟩)], rvVal x, undef, undef, undef], defers := [] })
    (fun x a' _ X Y row hs hg hr => by
      obtain ⟨Bx, h1, ⟨T, h2⟩, h3⟩ := hs
      refine ⟨Bx, h1, ⟨T, (hg.block Bx (Array.getElem?_eq_some_iff.1 h2).1 (fun e => ?_)).trans h2⟩, h3⟩
      obtain ⟨_, o, ho, hc⟩ := hr Bx e.symm
      rw [h2] at ho; cases ho; cases hc)
    ?assign ?body ?done ?stop
  case assign =>
    rintro l pre x W K ⟨⟨⟨rfl, b1⟩, hB1⟩, hs1⟩ hK
    simp only [rvVal]
    have hK' : ∀ a' W', KeepsFrom W0.heap.size W W' → Below W0.heap.size W W' → _ → _ → K a' W' := hK
    gi_wp2
    refine hK' _ _ ((KeepsOthers.alloc _ _).from _) ((Below.refl _ W).alloc hs1 _) ⟨⟨⟨by first | rfl | trivial, b1.alloc _⟩, hB1.alloc hB1.size _⟩, by rw [World.size_alloc]; omega⟩ ⟨W.heap.size, by omega, Blk.new W _ _, rfl⟩
  case body =>
    rintro l pre x a' W hl ⟨r, hr⟩ ⟨⟨⟨rfl, b1⟩, hB1⟩, hs1⟩ ⟨Bx, hBx, bX, rfl⟩ hlt
    have m4 := bX.cell 4 rfl
    have c1 := b1.cell
    have f1 := b1.frozen
    gi_wp2
    exact ⟨(KeepsOthers.setCell _ _ _).from _, ⟨rfl, x.2.2.2.2, rfl, b1.set _⟩, hB1.setCell (p := ⟨w.heap.size + 1, 0, none⟩) (by show w.heap.size ≤ w.heap.size + 1; omega) _⟩
  case done =>
    rintro D ys W hD hS ⟨⟨⟨rfl, b1⟩, hB1⟩, hs1⟩ hK
    have e : G = false := HG0.out (by rw [← hS]; rfl)
    subst e
    have c1 := b1.cell
    gi_wp2
    refine ⟨by simp, .inl ⟨_, _, rfl, run_takeDeferred hK, ?_⟩⟩
    exact ⟨_, results_tmp rfl _ _ _, rfl, hB1.trans (belowK_b (w := w) (Nat.le_refl _) W D _ _ (by omega) hK rfl rfl)⟩
  case stop =>
    rintro D cd pre W hD ⟨k, hS⟩ ⟨⟨rfl, b, h2, b1⟩, hB1⟩ hK
    have e : G = b := HG1.out k b (by rw [← hS]; exact h2)
    subst e
    have c1 := b1.cell
    gi_wp2
    refine ⟨by simp, .inl ⟨_, _, rfl, run_takeDeferred hK, ?_⟩⟩
    exact ⟨_, results_tmp rfl _ _ _, rfl, hB1.trans (belowK_b (w := w) (Nat.le_refl _) W D _ _ (by omega) hK rfl rfl)⟩
end Go.Proofs.Ytglgkocjdockdaa
