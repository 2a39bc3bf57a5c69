/- Merged texts: Esc, Own, Shelf, Text, Text2, ScanMath, Scan, Key, KeyMath, Key2. -/
import Derived.Test.YtjajpdghamecoaaM1
import Derived.Deep.Light
import Derived.Shelf.Strings.OnBuilder
import Derived.Shelf.Strings.Search2
import Derived.Test.YtjajpdghamecoaaProg
import Derived.Deep.RegionHeld3
import Derived.Deep.DrawnRows
import Derived.Laws.Concat
import Derived.Deep.QuietTactic
import Derived.BigQuiet
import Derived.Deep.RegionWith
import Derived.BigRegion
import Derived.Laws.StructEq
/- Escaped values: what the texts of the program and of the specification return. -/
namespace Go.Proofs.Ytjajpdghamecoaa
open Go.RowKit

/-- does a backslash stand ahead of byte i (of n)? -/
def oddI (c : Int) (i n : Nat) : Bool := (c == 44) || (c == 43) || (c == 34) || (c == 92) || (c == 60) || (c == 62) || (c == 59) || (c == 61) || ((c == 35) && decide (i = 0)) || ((c == 32) && (decide (i = 0) || decide (i + 1 = n)))
theorem odd35 {c : Int} (h : (c == 35) = true) (k n : Nat) : decide (k = 0) = oddI c k n := by
  have hc : c = 35 := by simpa using h
  subst hc; simp [oddI]
theorem odd_first (k : Nat) : ((k : Int) == 0) = decide (k = 0) := by rw [Bool.eq_iff_iff]; simp
theorem odd_last (k n : Nat) : ((k : Int) == (n : Int) - 1) = decide (k + 1 = n) := by rw [Bool.eq_iff_iff]; simp; omega
set_option maxHeartbeats 1000000 in
theorem isEscaped_any (s : ByteArray) (k : Nat) (w : World) (hk : k < s.size) (hs : s.size ≤ maxLen) :
    Calls Try.prog 86 #[.string s, .int .i64 k] w fun e w' => e = .returned (.bool (oddI (s[k].toNat : Int) k s.size)) ∧ w = w' := by
  unfold maxLen at hs
  have E1 := Lib.hid (odd_first k)
  have E2 := Lib.hid (odd_last k s.size)
  go_enter Try.func86, Try.ntmps86
  go_wp2
  all_goals
    go_ret
    refine ⟨ret_bool ?_, rfl⟩
    go_light
    generalize (s[k].toNat : Int) = c at *
    first | (refine E1.out.trans (odd35 ?_ _ _); assumption) | (unfold oddI; simp only [*, Bool.true_or, Bool.or_true, Bool.false_or]; done) | (unfold oddI; (try simp only [E1.out, E2.out]); simp [*]; done)
set_option maxHeartbeats 1000000 in
theorem l02Odd_any (s : ByteArray) (k : Nat) (w : World) (hk : k < s.size) (hs : s.size ≤ maxLen) :
    Calls Try.prog 120 #[.string s, .int .i64 k] w fun e w' => e = .returned (.bool (oddI (s[k].toNat : Int) k s.size)) ∧ w = w' := by
  unfold maxLen at hs
  have E1 := Lib.hid (odd_first k)
  have E2 := Lib.hid (odd_last k s.size)
  go_enter Try.func120, Try.ntmps120
  go_wp2
  all_goals
    go_ret
    refine ⟨ret_bool ?_, rfl⟩
    go_light
    generalize (s[k].toNat : Int) = c at *
    first | (refine E1.out.trans (odd35 ?_ _ _); assumption) | (unfold oddI; simp only [*, Bool.true_or, Bool.or_true, Bool.false_or]; done) | (unfold oddI; (try simp only [E1.out, E2.out]); simp [*]; done)

/-- the escaped form of the first k bytes -/
def escTo (l : List UInt8) (k : Nat) : List UInt8 := (List.range k).flatMap fun i => if oddI ((l.getD i 0).toNat : Int) i l.length = true then [92, l.getD i 0] else [l.getD i 0]
def escL (l : List UInt8) : List UInt8 := escTo l l.length
def escS (s : ByteArray) : ByteArray := ⟨(escL s.data.toList).toArray⟩
theorem getD_at (s : ByteArray) (k : Nat) (h : k < s.size) : s.data.toList.getD k 0 = s[k] := by
  have h' : k < s.data.toList.length := by simpa using h
  rw [List.getD_eq_getElem?_getD, List.getElem?_eq_getElem h']; rfl
theorem escTo_succ (s : ByteArray) (k : Nat) (h : k < s.size) :
    escTo s.data.toList (k + 1) = escTo s.data.toList k ++ (if oddI (s[k].toNat : Int) k s.size = true then [92, s[k]] else [s[k]]) := by
  have e : ((s.data.toList.getD k 0 : UInt8)) = s[k] := getD_at s k h
  unfold escTo
  rw [List.range_succ, List.flatMap_append, List.flatMap_singleton, e, size_len]
theorem escTo_len (l : List UInt8) (k : Nat) : (escTo l k).length ≤ 2 * k := by
  induction k with
  | zero => simp [escTo]
  | succ k ih =>
    unfold escTo at ih ⊢
    rw [List.range_succ, List.flatMap_append, List.length_append, List.flatMap_singleton]
    split <;> simp only [List.length_cons, List.length_nil] <;> omega
theorem escS_of (s : ByteArray) (k : Nat) (h : k = s.size) : escS s = ⟨(escTo s.data.toList k).toArray⟩ := by subst h; unfold escS escL; rw [size_len]
def EscAt (s : ByteArray) (w : World) (v i : Value) (wr : World) (k : Nat) : Prop :=
  k ≤ s.size ∧ i = .int .i64 k ∧ wr.ownsRow w.heap.size 5 1 v (escTo s.data.toList k).length (bs (escTo s.data.toList k)) ∧ Below w.heap.size w wr

set_option maxRecDepth 100000 in
set_option maxHeartbeats 1000000 in
theorem escapeValue_any (s : ByteArray) (w : World) (hs : s.size ≤ 1048576) :
    Calls Try.prog 46 #[.string s] w fun e w' => e = .returned (.string (escS s)) ∧ Below w.heap.size w w' := by
  have hM : s.size ≤ maxLen := by unfold maxLen; omega
  go_enter Try.func46, Try.ntmps46
  go_wp2
  go_loopw [3, 7] (fun v i wr => ∃ k : Nat, EscAt s w v i wr k) (fun _ i _ => s.size - (intOf i).toNat)
  case atStart => exact ⟨0, Nat.zero_le _, rfl, ⟨rfl, .inl ⟨rfl, rfl⟩⟩, Below.refl _ _⟩
  case round =>
    obtain ⟨k, hk, rfl, hown, hbel⟩ := hrel
    have hlen := escTo_len s.data.toList k
    have hsz := hbel.size
    by_cases hlt : k < s.size
    · have HN := Lib.hid (escTo_succ s k hlt)
      generalize escTo s.data.toList k = pre at *
      cases ho : oddI (s[k].toNat : Int) k s.size
      · rw [ho] at HN
        go_wp2_with (first | (go_at_call 86; refine (isEscaped_any _ _ _ hlt hM).mono ?_; rintro e w' ⟨rfl, rfl⟩; rw [ho]) | (at_builtin; refine append_byte w.heap.size rfl _ _ rfl _ pre rfl hown s[k] _ rfl rfl (by omega) hsz hbel ?_; intro v' w1 hown' hbel' hsz'))
        go_roundw
        case rel => exact ⟨k + 1, by omega, by go_num, by rw [HN.out]; exact hown', hbel'⟩
        case measure => simp [intOf]; omega
      · rw [ho] at HN
        go_wp2_with (first | (go_at_call 86; refine (isEscaped_any _ _ _ hlt hM).mono ?_; rintro e w' ⟨rfl, rfl⟩; rw [ho]) | (at_builtin; refine append_byte w.heap.size rfl (.tmp 13) _ rfl _ pre rfl hown 92 _ rfl rfl (by omega) hsz hbel ?_; intro v' w1 hown' hbel' hsz') | (at_builtin; refine append_byte w.heap.size rfl (.tmp 16) _ rfl _ (pre ++ [92]) rfl hown' s[k] _ rfl rfl (by simp; omega) hsz' hbel' ?_; intro v2 w2 hown2 hbel2 hsz2))
        go_roundw
        case rel => exact ⟨k + 1, by omega, by go_num, by rw [HN.out]; simpa using hown2, hbel2⟩
        case measure => simp [intOf]; omega
    · have HE := Lib.hid (escS_of s k (by omega))
      have hcv := str_own _ _ _ _ hown
      go_wp2
      go_ret
      exact ⟨ret_str (by rw [HE.out]), hbel⟩
set_option maxRecDepth 100000 in
set_option maxHeartbeats 1000000 in
theorem l02Escape_any (s : ByteArray) (w : World) (hs : s.size ≤ 1048576) :
    Calls Try.prog 90 #[.string s] w fun e w' => e = .returned (.string (escS s)) ∧ Below w.heap.size w w' := by
  have hM : s.size ≤ maxLen := by unfold maxLen; omega
  go_enter Try.func90, Try.ntmps90
  go_wp2
  go_loopw [3, 4] (fun v i wr => ∃ k : Nat, EscAt s w v i wr k) (fun _ i _ => s.size - (intOf i).toNat)
  case atStart => exact ⟨0, Nat.zero_le _, rfl, World.ownsRow_made _ _ 0 (Nat.le_refl _) (by unfold maxLen; omega) rfl, (Below.refl _ _).alloc (Nat.le_refl _) _⟩
  case round =>
    obtain ⟨k, hk, rfl, hown, hbel⟩ := hrel
    have hlen := escTo_len s.data.toList k
    have hsz := hbel.size
    by_cases hlt : k < s.size
    · have HN := Lib.hid (escTo_succ s k hlt)
      generalize escTo s.data.toList k = pre at *
      cases ho : oddI (s[k].toNat : Int) k s.size
      · rw [ho] at HN
        go_wp2_with (first | (go_at_call 120; refine (l02Odd_any _ _ _ hlt hM).mono ?_; rintro e w' ⟨rfl, rfl⟩; rw [ho]) | (at_builtin; refine append_byte w.heap.size rfl _ _ rfl _ pre rfl hown s[k] _ rfl rfl (by omega) hsz hbel ?_; intro v' w1 hown' hbel' hsz'))
        go_roundw
        case rel => exact ⟨k + 1, by omega, by go_num, by rw [HN.out]; exact hown', hbel'⟩
        case measure => simp [intOf]; omega
      · rw [ho] at HN
        go_wp2_with (first | (go_at_call 120; refine (l02Odd_any _ _ _ hlt hM).mono ?_; rintro e w' ⟨rfl, rfl⟩; rw [ho]) | (at_builtin; refine append_byte w.heap.size rfl (.tmp 15) _ rfl _ pre rfl hown 92 _ rfl rfl (by omega) hsz hbel ?_; intro v' w1 hown' hbel' hsz') | (at_builtin; refine append_byte w.heap.size rfl (.tmp 18) _ rfl _ (pre ++ [92]) rfl hown' s[k] _ rfl rfl (by simp; omega) hsz' hbel' ?_; intro v2 w2 hown2 hbel2 hsz2))
        go_roundw
        case rel => exact ⟨k + 1, by omega, by go_num, by rw [HN.out]; simpa using hown2, hbel2⟩
        case measure => simp [intOf]; omega
    · have HE := Lib.hid (escS_of s k (by omega))
      have hcv := str_own _ _ _ _ hown
      go_wp2
      go_ret
      exact ⟨ret_str (by rw [HE.out]), hbel⟩
end Go.Proofs.Ytjajpdghamecoaa
/- Rows of strings and of pairs that a call owns: one more element. -/
namespace Go.Proofs.Ytjajpdghamecoaa
open Go.RowKit

theorem Try.info9 : (Try.prog.info? 9).map (fun i => (i.zero, i.size, i.bytes)) = some (some (.string ByteArray.empty), 1, 16) := by kernel_rfl
theorem Try.info61 : (Try.prog.info? 61).map (fun i => (i.zero, i.size, i.bytes)) = some (some (.agg #[.string ByteArray.empty, .string ByteArray.empty]), 2, 32) := by kernel_rfl
def ss (l : List ByteArray) : List Value := l.map Value.string
def rs (d : RdnL) : List Value := d.flatMap fun r => [Value.string r.1, Value.string r.2]
theorem ss_snoc (l : List ByteArray) (t : ByteArray) : ss (l ++ [t]) = ss l ++ [.string t] := by simp [ss]
theorem rs_snoc (d : RdnL) (r : ByteArray × ByteArray) : rs (d ++ [r]) = rs d ++ [.string r.1, .string r.2] := by simp [rs]
theorem ss_length (l : List ByteArray) : (ss l).length = l.length := by simp [ss]
theorem rs_length (d : RdnL) : (rs d).length = d.length * 2 := by
  induction d with
  | nil => rfl
  | cons r d ih => simp only [rs, List.flatMap_cons, List.length_append, List.length_cons, List.length_nil] at ih ⊢; omega
theorem rs_get (d : RdnL) (i : Nat) (h : i < d.length) : (rs d)[i * 2]? = some (.string d[i].1) ∧ (rs d)[i * 2 + 1]? = some (.string d[i].2) := by
  induction d generalizing i with
  | nil => simp at h
  | cons r d ih =>
    cases i with
    | zero => simp [rs]
    | succ i =>
      have := ih i (by simpa using h)
      have e : rs (r :: d) = [Value.string r.1, Value.string r.2] ++ rs d := rfl
      rw [e]
      constructor
      · rw [List.getElem?_append_right (by simp; omega)]
        have : (i + 1) * 2 - [Value.string r.1, Value.string r.2].length = i * 2 := by simp; omega
        rw [this]; simpa using (ih i (by simpa using h)).1
      · rw [List.getElem?_append_right (by simp; omega)]
        have : (i + 1) * 2 + 1 - [Value.string r.1, Value.string r.2].length = i * 2 + 1 := by simp; omega
        rw [this]; simpa using (ih i (by simpa using h)).2
/-- a row of pairs that a call owns is a name -/
theorem own_dn {w : World} {B n cap : Nat} {ao : Option Addr} {d : RdnL} (h : w.ownsRow B 61 2 (.slice ao n cap) d.length (rs d)) : DnAt w ao d := by
  by_cases h0 : d.length = 0
  · exact .inl (List.length_eq_zero_iff.1 h0)
  · obtain ⟨g, cp, hv, _, hlt⟩ := h.form (by omega)
    have e : ao = some ⟨g, 0, none⟩ := by injection hv
    subst e
    refine .inr ⟨g, 0, rfl, hlt, fun i hi => ⟨?_, ?_⟩⟩
    · have := h.cells (g := g) rfl (i * 2) _ (rs_get d i hi).1
      rwa [add_plain, show i * 2 = 0 + i * 2 by omega] at this
    · have := h.cells (g := g) rfl (i * 2 + 1) _ (rs_get d i hi).2
      rwa [add_plain, show i * 2 + 1 = 0 + i * 2 + 1 by omega] at this
theorem own_below {w w' : World} {B e z n : Nat} {v : Value} {xs : List Value} (h : w.ownsRow B e z v n xs) (hb : Below w.heap.size w w') : w'.ownsRow B e z v n xs :=
  h.kept (row := none) ⟨hb.os, hb.tape, hb.output, hb.size, fun k hk _ => hb.block k hk⟩ (by cases v.ownBlock <;> simp)

section
variable {ops : Array Oper} {rest : List Oper} {o : Oper} {a : Act} {Q : Exit → Act → World → Prop} {K : Act → World → Prop} {E : Prop} {w0 wr : World}
theorem append_str (B : Nat) (hgd : o.guard = none) (s x : Operand)
    (ho : o.op = .call { callee := .builtin .append, args := #[s, x], argTypes := #[47, 47] }) (v : Value) (pre : List ByteArray) (hs : a.eval s = v) (hown : wr.ownsRow B 9 1 v pre.length (ss pre))
    (t : ByteArray) (hx : a.eval x = .slice (some ⟨wr.heap.size, 0, none⟩) 1 1) (hlen : pre.length ≤ 1000000000) (hB : B ≤ wr.heap.size) (hbel : Below B w0 wr)
    (h : ∀ v' w', w'.ownsRow B 9 1 v' (pre ++ [t]).length (ss (pre ++ [t])) → Below B w0 w' → B ≤ w'.heap.size → (v'.ownBlock = v.ownBlock ∨ v'.ownBlock = some (wr.heap.size + 1)) → wr.grownBy w' v.ownBlock → wpList Try.prog ops Q rest (a.put o.dst v') w') :
    wpList Try.prog ops Q (o :: rest) a (wr.alloc (.cells #[.string t] 9)) := by
  obtain ⟨i0, hi, hz0, hz1, hz2⟩ := info_parts Try.info9
  refine wpList_append_lies _ hgd s x 47 ho B 9 i0 _ 1 16 Try.underlying47 hi hz0 hz1 hz2 rfl (by decide) v pre.length (ss pre) hs (hown.alloc _) ⟨wr.heap.size, 0, none⟩ 1 1 [.string t] hx rfl (cell_one_new _ _ _) ?_ (by omega) ?_ ?_ ?_ (wr.heap.size + 1) (by simp) ?_
  · intro u hu; simp at hu; subst hu; rfl
  · unfold maxLen; omega
  · omega
  · simp; omega
  · intro g cap w' h1 h2 h3 h4
    have hb' : Below B w0 w' := (hbel.alloc hB _).grown h2 (by simp; omega) (fun k hk => (hown.lt k hk).1)
    refine h _ w' ?_ hb' (Nat.le_trans hB (by have := h2.size; simp at this; omega)) ?_ ((World.grownBy_alloc _ _ _).trans h2)
    · rw [ss_snoc]; simpa using h1
    · rcases h3 with h3 | h3
      · exact .inl h3.symm
      · exact .inr (by rw [h3]; rfl)
theorem step_str (B : Nat) (hgd : o.guard = none) (s x : Operand)
    (ho : o.op = .call { callee := .builtin .append, args := #[s, x], argTypes := #[47, 47] }) (v : Value) (pre : List ByteArray) (hs : a.eval s = v) (hown : wr.ownsRow B 9 1 v pre.length (ss pre))
    (t : ByteArray) (hx : a.eval x = .slice (some ⟨wr.heap.size, 0, none⟩) 1 1) (hlen : pre.length ≤ 1000000000) (hB : B ≤ wr.heap.size) (hbel : Below B w0 wr)
    (h : ∀ g cap w', w'.ownsRow B 9 1 (.slice (some ⟨g, 0, none⟩) (pre.length + 1) cap) (pre ++ [t]).length (ss (pre ++ [t])) → Below B w0 w' → B ≤ w'.heap.size → K (a.put o.dst (.slice (some ⟨g, 0, none⟩) (pre.length + 1) cap)) w') :
    if Region.wanted o (yielded ops a.tmps) = true then Oper.wp Try.prog o a (wr.alloc (.cells #[.string t] 9)) K Q else E := by
  obtain ⟨i0, hi, hz0, hz1, hz2⟩ := info_parts Try.info9
  refine step_append_lies _ hgd s x 47 ho B 9 i0 _ 1 16 Try.underlying47 hi hz0 hz1 hz2 rfl (by decide) v pre.length (ss pre) hs (hown.alloc _) ⟨wr.heap.size, 0, none⟩ 1 1 [.string t] hx rfl (cell_one_new _ _ _) ?_ (by omega) ?_ ?_ ?_ (wr.heap.size + 1) (by simp) ?_
  · intro u hu; simp at hu; subst hu; rfl
  · unfold maxLen; omega
  · omega
  · simp; omega
  · intro g cap w' h1 h2 h3 h4
    have hb' : Below B w0 w' := (hbel.alloc hB _).grown h2 (by simp; omega) (fun k hk => (hown.lt k hk).1)
    refine h g cap w' ?_ hb' (Nat.le_trans hB (by have := h2.size; simp at this; omega))
    rw [ss_snoc]; simpa using h1
theorem append_rdn (B : Nat) (hgd : o.guard = none) (s x : Operand)
    (ho : o.op = .call { callee := .builtin .append, args := #[s, x], argTypes := #[23, 23] }) (v : Value) (pre : RdnL) (hs : a.eval s = v) (hown : wr.ownsRow B 61 2 v pre.length (rs pre))
    (r : ByteArray × ByteArray) (hx : a.eval x = .slice (some ⟨wr.heap.size, 0, none⟩) 1 1) (hlen : pre.length ≤ 1000000000) (hB : B ≤ wr.heap.size) (hbel : Below B w0 wr)
    (h : ∀ v' w', w'.ownsRow B 61 2 v' (pre ++ [r]).length (rs (pre ++ [r])) → Below B w0 w' → B ≤ w'.heap.size → wpList Try.prog ops Q rest (a.put o.dst v') w') :
    wpList Try.prog ops Q (o :: rest) a (wr.alloc (.cells #[.string r.1, .string r.2] 61)) := by
  obtain ⟨i0, hi, hz0, hz1, hz2⟩ := info_parts Try.info61
  refine wpList_append_lies _ hgd s x 23 ho B 61 i0 _ 2 32 Try.underlying23 hi hz0 hz1 hz2 rfl (by decide) v pre.length (rs pre) hs (hown.alloc _) ⟨wr.heap.size, 0, none⟩ 1 1 [.string r.1, .string r.2] hx rfl (World.news_of_block (cs := #[.string r.1, .string r.2]) (t := 61) (fr := (0, 0)) (heap_alloc_new wr _)) ?_ (by omega) ?_ ?_ ?_ (wr.heap.size + 1) (by simp) ?_
  · intro u hu; simp at hu; rcases hu with rfl | rfl <;> rfl
  · unfold maxLen; omega
  · omega
  · simp; omega
  · intro g cap w' h1 h2 h3 h4
    have hb' : Below B w0 w' := (hbel.alloc hB _).grown h2 (by simp; omega) (fun k hk => (hown.lt k hk).1)
    refine h _ w' ?_ hb' (Nat.le_trans hB (by have := h2.size; simp at this; omega))
    rw [rs_snoc]; simpa using h1
theorem step_rdn (B : Nat) (hgd : o.guard = none) (s x : Operand)
    (ho : o.op = .call { callee := .builtin .append, args := #[s, x], argTypes := #[23, 23] }) (v : Value) (pre : RdnL) (hs : a.eval s = v) (hown : wr.ownsRow B 61 2 v pre.length (rs pre))
    (r : ByteArray × ByteArray) (hx : a.eval x = .slice (some ⟨wr.heap.size, 0, none⟩) 1 1) (hlen : pre.length ≤ 1000000000) (hB : B ≤ wr.heap.size) (hbel : Below B w0 wr)
    (h : ∀ g cap w', w'.ownsRow B 61 2 (.slice (some ⟨g, 0, none⟩) (pre.length + 1) cap) (pre ++ [r]).length (rs (pre ++ [r])) → Below B w0 w' → B ≤ w'.heap.size → (∀ q, q < wr.heap.size → v.ownBlock ≠ some q → w'.heap[q]? = wr.heap[q]?) → K (a.put o.dst (.slice (some ⟨g, 0, none⟩) (pre.length + 1) cap)) w') :
    if Region.wanted o (yielded ops a.tmps) = true then Oper.wp Try.prog o a (wr.alloc (.cells #[.string r.1, .string r.2] 61)) K Q else E := by
  obtain ⟨i0, hi, hz0, hz1, hz2⟩ := info_parts Try.info61
  refine step_append_lies _ hgd s x 23 ho B 61 i0 _ 2 32 Try.underlying23 hi hz0 hz1 hz2 rfl (by decide) v pre.length (rs pre) hs (hown.alloc _) ⟨wr.heap.size, 0, none⟩ 1 1 [.string r.1, .string r.2] hx rfl (World.news_of_block (cs := #[.string r.1, .string r.2]) (t := 61) (fr := (0, 0)) (heap_alloc_new wr _)) ?_ (by omega) ?_ ?_ ?_ (wr.heap.size + 1) (by simp) ?_
  · intro u hu; simp at hu; rcases hu with rfl | rfl <;> rfl
  · unfold maxLen; omega
  · omega
  · simp; omega
  · intro g cap w' h1 h2 h3 h4
    have hb' : Below B w0 w' := (hbel.alloc hB _).grown h2 (by simp; omega) (fun k hk => (hown.lt k hk).1)
    refine h g cap w' ?_ hb' (Nat.le_trans hB (by have := h2.size; simp at this; omega)) (fun q hq hne => ?_)
    · rw [rs_snoc]; simpa using h1
    · rw [h2.block q (by simp; omega) (fun e => hne e.symm), Below.heap_alloc _ _ _ hq]
end
end Go.Proofs.Ytjajpdghamecoaa
/- Contracts of two library functions, laid over this program by the kit's command, in plain words. -/
namespace Go.Proofs
open Go.Shelf
def Try.lays156_ren : Go.Shelf.Ren := ⟨fun | 156 => 47 | 165 => 87 | 166 => 88 | 169 => 89 | 240 => 118 | 241 => 119 | 276 => 136 | 277 => 137 | n => n, fun | 31 => 47 | 9 => 9 | 3 => 3 | 4 => 4 | 0 => 0 | 20 => 20 | 72 => 100 | 76 => 104 | 70 => 98 | 37 => 22 | 75 => 103 | 127 => 129 | 164 => 136 | 5 => 5 | 80 => 106 | n => n, fun | n => n⟩
theorem Try.lays156 : Go.Proofs.Lays.n156 Try.prog Try.lays156_ren := {
  mixed := by kernel_rfl
  f156 := Try.func47.trans (congrArg some (by kernel_rfl))
  f165 := Try.func87.trans (congrArg some (by kernel_rfl))
  f166 := Try.func88.trans (congrArg some (by kernel_rfl))
  f169 := Try.func89.trans (congrArg some (by kernel_rfl))
  f240 := Try.func118.trans (congrArg some (by kernel_rfl))
  f241 := Try.func119.trans (congrArg some (by kernel_rfl))
  f276 := Try.func136.trans (congrArg some (by kernel_rfl))
  f277 := Try.func137.trans (congrArg some (by kernel_rfl))
  t0 := Try.underlying0
  a0 := Try.isAgg0
  z0 := Try.sizeOf0
  v0 := Try.zeroValue0
  t3 := Try.underlying3
  a3 := Try.isAgg3
  z3 := Try.sizeOf3
  v3 := Try.zeroValue3
  t4 := Try.underlying4
  a4 := Try.isAgg4
  z4 := Try.sizeOf4
  v4 := Try.zeroValue4
  t9 := Try.underlying9
  a9 := Try.isAgg9
  z9 := Try.sizeOf9
  v9 := Try.zeroValue9
  t20 := Try.underlying20
  a20 := Try.isAgg20
  z20 := Try.sizeOf20
  v20 := Try.zeroValue20
  t31 := Try.underlying47
  a31 := Try.isAgg47
  z31 := Try.sizeOf47
  v31 := Try.zeroValue47
  t37 := Try.underlying22
  a37 := Try.isAgg22
  z37 := Try.sizeOf22
  v37 := Try.zeroValue22
  t70 := Try.underlying98
  a70 := Try.isAgg98
  z70 := Try.sizeOf98
  v70 := Try.zeroValue98
  t72 := Try.underlying100
  a72 := Try.isAgg100
  z72 := Try.sizeOf100
  v72 := Try.zeroValue100
  t75 := Try.underlying103
  a75 := Try.isAgg103
  z75 := Try.sizeOf103
  v75 := Try.zeroValue103
  t76 := Try.underlying104
  a76 := Try.isAgg104
  z76 := Try.sizeOf104
  v76 := Try.zeroValue104
  t127 := Try.underlying129
  a127 := Try.isAgg129
  z127 := Try.sizeOf129
  v127 := Try.zeroValue129
  t164 := Try.underlying136
  a164 := Try.isAgg136
  z164 := Try.sizeOf136
  v164 := Try.zeroValue136 }
theorem Try.Builder_Extra_156 : Builder.Extra Try.prog Try.lays156_ren := {
  sizeBuilder := by kernel_rfl
  liesBuilder := by kernel_rfl
  t5 := Try.underlying5
  a5 := Try.isAgg5
  z5 := Try.sizeOf5
  v5 := Try.zeroValue5
  infoByte := by kernel_rfl
  cellsByte := by kernel_rfl
  sizeByte := by kernel_rfl
  neB5 := by decide }
open Go.RowKit in
theorem Try.strings_Join_none (a : Option Addr) (c : Nat) (sep : ByteArray) (w : World) :
    Calls Try.prog 47 #[.slice a 0 c, .string sep] w fun e w' => e = .returned (.string ⟨#[]⟩) ∧ w' = w := Any.strings_Join_none Try.lays156 Try.Builder_Extra_156 a c sep w
open Go.RowKit in
theorem Try.strings_Join (bk o c : Nat) (xs : List ByteArray) (sep : ByteArray) (w : World) (hcells : ∀ (j : Nat) x, xs[j]? = some x → w.cell? ⟨bk, o + j, none⟩ = some (.string x)) (hbk : bk < w.heap.size) (hN : xs.length ≤ 140737488355328) (hcap : xs.length ≤ c) (hlen : (Lib.join (xs.map (·.data.toList)) sep.data.toList).length ≤ 140737488355328) :
    Calls Try.prog 47 #[.slice (some ⟨bk, o, none⟩) xs.length c, .string sep] w fun e w' => e = .returned (.string ⟨(Lib.join (xs.map (·.data.toList)) sep.data.toList).toArray⟩) ∧ Below w.heap.size w w' := Any.strings_Join Try.lays156 Try.Builder_Extra_156 bk o c xs sep w hcells hbk hN hcap hlen
def Try.lays219_ren : Go.Shelf.Ren := ⟨fun | 219 => 138 | 217 => 141 | 225 => 142 | 224 => 143 | 267 => 144 | 266 => 147 | 314 => 148 | n => n, fun | 9 => 9 | 3 => 3 | 4 => 4 | 5 => 5 | 46 => 110 | 146 => 142 | 51 => 141 | n => n, fun | 1 => 0 | n => n⟩
theorem Try.lays219 : Go.Proofs.Lays.n219 Try.prog Try.lays219_ren := {
  mixed := by kernel_rfl
  f217 := Try.func141.trans (congrArg some (by kernel_rfl))
  f219 := Try.func138.trans (congrArg some (by kernel_rfl))
  f224 := Try.func143.trans (congrArg some (by kernel_rfl))
  f225 := Try.func142.trans (congrArg some (by kernel_rfl))
  f266 := Try.func147.trans (congrArg some (by kernel_rfl))
  f267 := Try.func144.trans (congrArg some (by kernel_rfl))
  f314 := Try.func148.trans (congrArg some (by kernel_rfl))
  t3 := Try.underlying3
  a3 := Try.isAgg3
  z3 := Try.sizeOf3
  v3 := Try.zeroValue3
  t4 := Try.underlying4
  a4 := Try.isAgg4
  z4 := Try.sizeOf4
  v4 := Try.zeroValue4
  t5 := Try.underlying5
  a5 := Try.isAgg5
  z5 := Try.sizeOf5
  v5 := Try.zeroValue5
  t9 := Try.underlying9
  a9 := Try.isAgg9
  z9 := Try.sizeOf9
  v9 := Try.zeroValue9
  t46 := Try.underlying110
  a46 := Try.isAgg110
  z46 := Try.sizeOf110
  v46 := Try.zeroValue110
  t51 := Try.underlying141
  a51 := Try.isAgg141
  z51 := Try.sizeOf141
  v51 := Try.zeroValue141
  t146 := Try.underlying142
  a146 := Try.isAgg142
  z146 := Try.sizeOf142
  v146 := Try.zeroValue142
  g1 := by kernel_rfl }
open Go.RowKit Go.Lib in
theorem Try.stringslite_Index_one (s : ByteArray) (c : UInt8) (w : World) :
    Calls Try.prog 138 #[.string s, .string ⟨#[c]⟩] w fun e w' => e = .returned (.int .i64 (Lib.indexByte s.data.toList c)) ∧ w' = w := Any.stringslite_Index_one Try.lays219 s c w
end Go.Proofs
/- DnText: what the texts of the program and of the specification return. -/
namespace Go.Proofs.Ytjajpdghamecoaa
open Go.RowKit
attribute [local go_sem ↓] Go.wp_at_zero Go.wp_at_succ

theorem cat (a b : ByteArray) (h : a.size + b.size ≤ 1000000000) (W : World) : (Op.stringOp .add a b).run Try.prog W = .ok (.string (a ++ b)) W := run_string_add_sum W a b (by omega)
theorem escS_size (s : ByteArray) : (escS s).size ≤ 2 * s.size := by
  have := escTo_len s.data.toList s.data.toList.length
  rw [size_len] at this
  exact this
theorem sz1 (c : UInt8) : (⟨#[c]⟩ : ByteArray).size = 1 := rfl
/-- the text of one pair -/
def rdnS (r : ByteArray × ByteArray) : ByteArray := r.1 ++ ⟨#[61]⟩ ++ escS r.2
def partsTo (d : RdnL) (k : Nat) : List ByteArray := (d.take k).map rdnS
theorem partsTo_len (d : RdnL) (k : Nat) (h : k ≤ d.length) : (partsTo d k).length = k := by simp [partsTo]; omega
theorem partsTo_succ (d : RdnL) (k : Nat) (h : k < d.length) : partsTo d (k + 1) = partsTo d k ++ [rdnS d[k]] := by unfold partsTo; rw [List.take_succ_eq_append_getElem h, List.map_append]; rfl
theorem Fits.small {d : RdnL} (h : Fits d) {k : Nat} (hk : k < d.length) : d[k].1.size ≤ 1048576 ∧ d[k].2.size ≤ 1048576 := h.2 _ (List.getElem_mem hk)

/-- the text of a name -/
def textL (d : RdnL) : List UInt8 := Lib.join (d.map (fun r => (rdnS r).data.toList)) [44]
def textS (d : RdnL) : ByteArray := ⟨(textL d).toArray⟩
theorem rdnS_size (r : ByteArray × ByteArray) (h1 : r.1.size ≤ 1048576) (h2 : r.2.size ≤ 1048576) : (rdnS r).data.toList.length ≤ 4000000 := by
  have := escS_size r.2
  rw [size_len]
  unfold rdnS
  rw [ByteArray.size_append, ByteArray.size_append, sz1]
  omega
theorem join_len (l : List (List UInt8)) (m : Nat) (h : ∀ x ∈ l, x.length ≤ m) : (Lib.join l [44]).length ≤ l.length * (m + 1) := by
  cases l with
  | nil => simp [Lib.join_nil]
  | cons x l =>
    rw [Lib.join_cons]
    have : ∀ (r : List (List UInt8)), (∀ x ∈ r, x.length ≤ m) → (Lib.joinTail [44] r).length ≤ r.length * (m + 1) := by
      intro r
      induction r with
      | nil => intro _; simp [Lib.joinTail]
      | cons y r ih =>
        intro hr
        have h1 := ih (fun x hx => hr x (List.mem_cons_of_mem _ hx))
        have h2 := hr y (List.mem_cons_self ..)
        simp only [Lib.joinTail, List.map_cons, List.flatten_cons, List.length_append, List.length_cons, List.length_nil] at h1 ⊢
        rw [Nat.add_mul]; omega
    have h1 := this l (fun y hy => h y (List.mem_cons_of_mem _ hy))
    have h2 := h x (List.mem_cons_self ..)
    rw [List.length_append, List.length_cons, Nat.add_mul]; omega
theorem text_len (d : RdnL) (h : Fits d) : (textL d).length ≤ d.length * 4000001 := by
  have := join_len (d.map (fun r => (rdnS r).data.toList)) 4000000 (fun x hx => by
    obtain ⟨r, hr, rfl⟩ := List.mem_map.1 hx
    exact rdnS_size r (h.2 r hr).1 (h.2 r hr).2)
  rw [List.length_map] at this
  exact this
set_option maxRecDepth 100000 in
set_option maxHeartbeats 1000000 in
theorem DnText_in (ao : Option Addr) (d : RdnL) (cap : Nat) (w : World) (hd : DnAt w ao d) (hf : Fits d) (hr : dnB d = true) :
    Calls Try.prog 11 #[.slice ao d.length cap] w fun e w' => e = .returned (.string (textS d)) ∧ Below w.heap.size w w' := by
  have hl := hf.1
  have HD := Lib.hid hd; have HF := Lib.hid hf; clear hd hf
  go_enter Try.func11, Try.ntmps11
  go_wp2_with (first | (go_at_call 13; refine (DnRight_any _ _ _ _ HD.out HF.out).mono ?_; rintro e w1 ⟨rfl, hb1⟩; rw [hr]))
  clear hr
  have hz1 := hb1.size
  go_loopw [3, 10] (fun v i wr => ∃ k : Nat, k ≤ d.length ∧ i = .int .i64 k ∧ wr.ownsRow w.heap.size 9 1 v (partsTo d k).length (ss (partsTo d k)) ∧ Below w.heap.size w wr) (fun _ i _ => d.length - (intOf i).toNat)
  case atStart => exact ⟨0, Nat.zero_le _, rfl, ⟨rfl, .inl ⟨rfl, rfl⟩⟩, hb1⟩
  case round =>
    obtain ⟨k, hk, rfl, hown, hbel⟩ := hrel
    have hsz := hbel.size
    have hpl := partsTo_len d k hk
    by_cases hlt : k < d.length
    · obtain ⟨b, off, rfl, hb0, hd1, hd2⟩ := HD.out.at hlt
      have hb : b < wr.heap.size := Nat.lt_of_lt_of_le hb0 hsz
      have hc1 := (hbel.cell (p := ⟨b, off + k * 2, none⟩) hb0).trans hd1
      have hc2 := (hbel.cell (p := ⟨b, off + k * 2 + 1, none⟩) hb0).trans hd2
      have hz := HF.out.small hlt
      have HN := Lib.hid (partsTo_succ d k hlt)
      generalize partsTo d k = pre at *
      have HP := Lib.hid hpl; clear hpl
      have g1 : (0 : Int) ≤ (k : Int) := by omega
      have g2 : (k : Int) < (d.length : Int) := by omega
      have HE : Hid (rdnS d[k] = d[k].1 ++ ⟨#[61]⟩ ++ escS d[k].2) := Lib.hid rfl
      have HPl : Hid (pre.length ≤ 1000000000) := Lib.hid (by have := HP.out; omega)
      generalize d[k].1 = A at *
      generalize d[k].2 = V at *
      have D1 := Lib.hid hd1; have D2 := Lib.hid hd2; clear hd1 hd2
      have hes := escS_size V
      have ha1 := cat A ⟨#[61]⟩ (by rw [sz1]; omega)
      have ha2 := cat (A ++ ⟨#[61]⟩) (escS V) (by rw [ByteArray.size_append, sz1]; omega)
      clear hes
      go_wp2_with fail
      go_region_held3 (fun w' => w'.cell? ⟨b, off + k * 2, none⟩ = some (.string A) ∧ w'.cell? ⟨b, off + k * 2 + 1, none⟩ = some (.string V))
        (first | go_keep | exact ⟨(hbel3.cell (p := ⟨b, off + k * 2, none⟩) hb0).trans D1.out, (hbel3.cell (p := ⟨b, off + k * 2 + 1, none⟩) hb0).trans D2.out⟩ | exact ⟨(hb2.cell (p := ⟨b, off + k * 2, none⟩) hb).trans hc1, (hb2.cell (p := ⟨b, off + k * 2 + 1, none⟩) hb).trans hc2⟩)
        (first | (go_at_call 46; refine (escapeValue_any _ _ hz.2).mono ?_; rintro e w2 ⟨rfl, hb2⟩; have O2 := own_below hown.drew hb2; have L2 := Nat.le_trans hsz hb2.size; have B2 := hbel.drew.trans (hb2.mono hsz)) | (refine step_str w.heap.size (by rfl) _ _ (by rfl) _ pre (by rfl) O2 _ (by rfl) HPl.out L2 B2 ?_; intro g cp w3 hown3 hbel3 hsz3))
      go_wp2
      go_roundw
      case rel => exact ⟨k + 1, by omega, by go_num, by rw [HN.out, HE.out]; exact hown3, hbel3⟩
      case measure => simp [intOf]; omega
    · have e : k = d.length := by omega
      subst e
      have HE : Hid (textS d = ⟨(Lib.join ((partsTo d d.length).map (·.data.toList)) [44]).toArray⟩) := Lib.hid (by unfold textS textL partsTo; rw [List.take_length, List.map_map]; rfl)
      have HT := Lib.hid (text_len d HF.out)
      have HPt : Hid ((partsTo d d.length).map (·.data.toList) = d.map (fun r => (rdnS r).data.toList)) := Lib.hid (by unfold partsTo; rw [List.take_length, List.map_map]; rfl)
      obtain ⟨ao', cap', rfl⟩ := own_slice hown
      by_cases h0 : d.length = 0
      · have hd0 : d = [] := List.length_eq_zero_iff.1 h0
        subst hd0
        have hown' := Lib.hid hown
        clear hown
        go_wp2_with (first | (go_at_call 47; refine (Try.strings_Join_none _ _ _ _).mono ?_; rintro e w2 ⟨rfl, hw⟩; subst hw))
        go_ret
        exact ⟨ret_str (by rw [HE.out]; rfl), hbel⟩
      · obtain ⟨g, cp, hv, hg1, hg2⟩ := hown.form (by rw [partsTo_len d _ (Nat.le_refl _)]; omega)
        have e2 : ao' = some ⟨g, 0, none⟩ := by injection hv
        subst e2
        have hJ := Try.strings_Join g 0 cap' (partsTo d d.length) ⟨#[44]⟩ wr (fun j x hj => by
          have := hown.cells (g := g) rfl j (.string x) (by unfold ss; rw [List.getElem?_map, hj]; rfl)
          rw [add_plain] at this; rw [Nat.zero_add]; exact this) hg2 (by rw [partsTo_len d _ (Nat.le_refl _)]; omega) (own_cap hown) (by
            have h := HT.out
            rw [HPt.out]; exact Nat.le_trans h (by omega))
        have HJ := Lib.hid hJ
        have HO := Lib.hid hown
        clear hJ hown hv
        rw [partsTo_len d _ (Nat.le_refl _)] at HJ ⊢
        go_wp2_with (first | (go_at_call 47; refine HJ.out.mono ?_; rintro e w2 ⟨rfl, hb2⟩))
        go_ret
        exact ⟨ret_str HE.out.symm, hbel.trans (hb2.mono hsz)⟩
end Go.Proofs.Ytjajpdghamecoaa
/- DnText: what the specification's text returns. -/
namespace Go.Proofs.Ytjajpdghamecoaa
open Go.RowKit
attribute [local go_sem ↓] Go.wp_at_zero Go.wp_at_succ

/-- the text of the first k pairs -/
def textTo (d : RdnL) (k : Nat) : ByteArray := textS (d.take k)
theorem join_snoc (l : List (List UInt8)) (x sep : List UInt8) (h : l ≠ []) : Lib.join (l ++ [x]) sep = Lib.join l sep ++ sep ++ x := by
  rcases l with _ | ⟨y, l⟩
  · exact absurd rfl h
  · rw [List.cons_append, Lib.join_cons, Lib.join_cons]
    simp [Lib.joinTail, List.append_assoc]
theorem textTo_one (d : RdnL) (h : 0 < d.length) : textTo d 1 = rdnS d[0] := by
  unfold textTo textS textL
  rw [List.take_succ_eq_append_getElem h, List.take_zero, List.nil_append, List.map_singleton, Lib.join_one]
theorem textTo_succ (d : RdnL) (k : Nat) (h : k < d.length) (h0 : 0 < k) : textTo d (k + 1) = textTo d k ++ ⟨#[44]⟩ ++ rdnS d[k] := by
  unfold textTo textS textL
  rw [List.take_succ_eq_append_getElem h, List.map_append, List.map_singleton, join_snoc _ _ _ (by
    intro e
    have := congrArg List.length e
    rw [List.length_map, List.length_take, List.length_nil] at this; omega)]
  apply ByteArray.ext
  simp
theorem textTo_size (d : RdnL) (k : Nat) (h : Fits d) (h6 : d.length ≤ 6) : (textTo d k).size ≤ 30000000 := by
  have h1 := text_len (d.take k) ⟨by have := h.1; simp; omega, fun r hr => h.2 r (List.mem_of_mem_take hr)⟩
  have h2 : (d.take k).length ≤ 6 := by rw [List.length_take]; omega
  have h3 : (textTo d k).size = (textL (d.take k)).length := rfl
  rw [h3]
  omega
theorem cat_assoc (a b c : ByteArray) : a ++ b ++ c = a ++ (b ++ c) := by apply ByteArray.ext; simp

set_option maxRecDepth 100000 in
set_option maxHeartbeats 1000000 in
theorem l02Text_any (ao : Option Addr) (d : RdnL) (cap : Nat) (w : World) (hd : DnAt w ao d) (hf : Fits d) (h6 : d.length ≤ 6) :
    Calls Try.prog 48 #[.slice ao d.length cap] w fun e w' => e = .returned (.string (textS d)) ∧ Below w.heap.size w w' := by
  have HD := Lib.hid hd; have HF := Lib.hid hf; clear hd hf
  go_enter Try.func48, Try.ntmps48
  go_wp2
  go_loopw [3, 4] (fun t i wr => ∃ k : Nat, k ≤ d.length ∧ i = .int .i64 k ∧ t = .string (textTo d k) ∧ Below w.heap.size w wr) (fun _ i _ => d.length - (intOf i).toNat)
  case atStart => exact ⟨0, Nat.zero_le _, rfl, rfl, Below.refl _ _⟩
  case round =>
    obtain ⟨k, hk, rfl, rfl, hbel⟩ := hrel
    have hsz := hbel.size
    by_cases hlt : k < d.length
    · obtain ⟨b, off, rfl, hb0, hd1, hd2⟩ := HD.out.at hlt
      have hb : b < wr.heap.size := Nat.lt_of_lt_of_le hb0 hsz
      have hc1 := (hbel.cell (p := ⟨b, off + k * 2, none⟩) hb0).trans hd1
      have hc2 := (hbel.cell (p := ⟨b, off + k * 2 + 1, none⟩) hb0).trans hd2
      clear hd1 hd2
      have hz := HF.out.small hlt
      have hts := textTo_size d k HF.out h6
      have g1 : (0 : Int) ≤ (k : Int) := by omega
      have g2 : (k : Int) < (d.length : Int) := by omega
      have HE : Hid (rdnS d[k] = d[k].1 ++ ⟨#[61]⟩ ++ escS d[k].2) := Lib.hid rfl
      by_cases h0 : k = 0
      · subst h0
        have HN := Lib.hid (textTo_one d hlt)
        rw [show off + 0 * 2 = off by omega] at hc1 hc2
        have e0 : textTo d 0 = ByteArray.empty := rfl
        generalize textTo d 0 = T at *
        have E0 := Lib.hid e0
        clear e0
        generalize d[0].1 = A at *
        generalize d[0].2 = V at *
        have hes := escS_size V
        have ha0 := cat T A (by omega)
        have ha1 := cat (T ++ A) ⟨#[61]⟩ (by rw [ByteArray.size_append, sz1]; omega)
        have ha2 := cat (T ++ A ++ ⟨#[61]⟩) (escS V) (by rw [ByteArray.size_append, ByteArray.size_append, sz1]; omega)
        clear hes
        go_wp2_with fail
        go_region_held3 (fun w' => w'.cell? ⟨b, off, none⟩ = some (.string A) ∧ w'.cell? ⟨b, off + 1, none⟩ = some (.string V))
          (first | go_keep | exact ⟨(hb2.cell (p := ⟨b, off, none⟩) hb).trans hc1, (hb2.cell (p := ⟨b, off + 1, none⟩) hb).trans hc2⟩)
          (first | (go_at_call 90; refine (l02Escape_any _ _ hz.2).mono ?_; rintro e w2 ⟨rfl, hb2⟩))
        go_wp2
        go_roundw
        case rel => exact ⟨1, by omega, by go_num, by rw [HN.out, HE.out, E0.out]; simp, hbel.drew.trans (hb2.mono hsz)⟩
        case measure => simp [intOf]; omega
      · have HN := Lib.hid (textTo_succ d k hlt (by omega))
        have h0' : 0 < k := by omega
        generalize textTo d k = T at *
        generalize d[k].1 = A at *
        generalize d[k].2 = V at *
        have hes := escS_size V
        have ha := cat T ⟨#[44]⟩ (by rw [sz1]; omega)
        have ha0 := cat (T ++ ⟨#[44]⟩) A (by rw [ByteArray.size_append, sz1]; omega)
        have ha1 := cat (T ++ ⟨#[44]⟩ ++ A) ⟨#[61]⟩ (by rw [ByteArray.size_append, ByteArray.size_append, sz1, sz1]; omega)
        have ha2 := cat (T ++ ⟨#[44]⟩ ++ A ++ ⟨#[61]⟩) (escS V) (by rw [ByteArray.size_append, ByteArray.size_append, ByteArray.size_append, sz1, sz1]; omega)
        clear hes h0
        go_wp2_with fail
        go_region_held3 (fun w' => w'.cell? ⟨b, off + k * 2, none⟩ = some (.string A) ∧ w'.cell? ⟨b, off + k * 2 + 1, none⟩ = some (.string V))
          (first | go_keep | exact ⟨(hb2.cell (p := ⟨b, off + k * 2, none⟩) hb).trans hc1, (hb2.cell (p := ⟨b, off + k * 2 + 1, none⟩) hb).trans hc2⟩)
          (first | (go_at_call 90; refine (l02Escape_any _ _ hz.2).mono ?_; rintro e w2 ⟨rfl, hb2⟩))
        go_wp2
        go_roundw
        case rel => exact ⟨k + 1, by omega, by go_num, by rw [HN.out, HE.out]; simp only [cat_assoc], hbel.drew.trans (hb2.mono hsz)⟩
        case measure => simp [intOf]; omega
    · have HE : Hid (textTo d k = textS d) := Lib.hid (by unfold textTo; rw [List.take_of_length_le (by omega)])
      go_wp2
      go_ret
      exact ⟨ret_str HE.out, hbel⟩
def dnTextS (d : RdnL) : ByteArray := if dnB d = true then textS d else ByteArray.empty
theorem dnText_yes {d : RdnL} (h : dnB d = true) : dnTextS d = textS d := by unfold dnTextS; rw [if_pos h]
theorem dnText_no {d : RdnL} (h : dnB d = false) : dnTextS d = ByteArray.empty := by unfold dnTextS; rw [h]; rfl
theorem dnB_six {d : RdnL} (h : dnB d = true) : d.length ≤ 6 := by unfold dnB at h; simp at h; exact h.1
set_option maxHeartbeats 400000 in
theorem DnText_any (ao : Option Addr) (d : RdnL) (cap : Nat) (w : World) (hd : DnAt w ao d) (hf : Fits d) :
    Calls Try.prog 11 #[.slice ao d.length cap] w fun e w' => e = .returned (.string (dnTextS d)) ∧ Below w.heap.size w w' := by
  cases hr : dnB d
  · have HE := Lib.hid (dnText_no hr)
    go_enter Try.func11, Try.ntmps11
    go_wp2_with (first | (go_at_call 13; refine (DnRight_any _ _ _ _ hd hf).mono ?_; rintro e w1 ⟨rfl, hb1⟩; rw [hr]))
    go_ret
    exact ⟨ret_str HE.out.symm, hb1⟩
  · rw [dnText_yes hr]
    exact DnText_in ao d cap w hd hf hr
set_option maxHeartbeats 400000 in
theorem SpecDnText_any (ao : Option Addr) (d : RdnL) (cap : Nat) (w : World) (hd : DnAt w ao d) (hf : Fits d) :
    Calls Try.prog 12 #[.slice ao d.length cap] w fun e w' => e = .returned (.string (dnTextS d)) ∧ Below w.heap.size w w' := by
  have hl := hf.1
  cases hr : dnB d
  · have HE := Lib.hid (dnText_no hr)
    by_cases h4 : 400 < d.length
    · go_enter Try.func12, Try.ntmps12
      go_wp2
      go_ret
      exact ⟨ret_str HE.out.symm, Below.refl _ _⟩
    · go_enter Try.func12, Try.ntmps12
      go_wp2_with (first | (go_at_call 14; refine (SpecDnRight_any _ _ _ _ hd hf).mono ?_; rintro e w1 ⟨rfl, hb1⟩; rw [hr]))
      go_ret
      exact ⟨ret_str HE.out.symm, hb1⟩
  · have HE := Lib.hid (dnText_yes hr)
    have h6 := dnB_six hr
    go_enter Try.func12, Try.ntmps12
    go_wp2_with (first | (go_at_call 14; refine (SpecDnRight_any _ _ _ _ hd hf).mono ?_; rintro e w1 ⟨rfl, hb1⟩; rw [hr]) | (go_at_call 48; refine (l02Text_any _ _ _ _ (hd.below hb1) hf h6).mono ?_; rintro e w2 ⟨rfl, hb2⟩))
    go_ret
    exact ⟨ret_str HE.out.symm, hb1.trans (hb2.mono hb1.size)⟩
end Go.Proofs.Ytjajpdghamecoaa
/- Reading names: the plain mathematics. -/
namespace Go.Proofs.Ytjajpdghamecoaa
open Go.RowKit

/-- where a pair ends -/
def endF : Bool → List UInt8 → Nat
  | _, [] => 0
  | b, c :: l => if c = 44 ∧ b = false then 0 else 1 + endF ((c == 92) && !b) l
/-- a value without its backslashes -/
def unescF : Bool → List UInt8 → List UInt8
  | _, [] => []
  | b, c :: l => if ((c == 92) && !b) = true then unescF true l else c :: unescF false l
theorem endF_le (b : Bool) (l : List UInt8) : endF b l ≤ l.length := by
  induction l generalizing b with
  | nil => simp [endF]
  | cons c l ih =>
    unfold endF
    split
    · simp
    · have := ih ((c == 92) && !b)
      rw [List.length_cons]; omega
def toS (l : List UInt8) : ByteArray := ⟨l.toArray⟩
theorem toS_list (l : List UInt8) : (toS l).data.toList = l := by simp [toS]
theorem toS_self (s : ByteArray) : toS s.data.toList = s := by simp [toS]
/-- a pair out of its text -/
def rdn1 (l : List UInt8) : ByteArray × ByteArray := (toS (l.takeWhile (· != 61)), toS (unescF false ((l.dropWhile (· != 61)).drop 1)))
def scanN : Nat → List UInt8 → RdnL
  | 0, _ => []
  | _ + 1, [] => []
  | n + 1, c :: l => rdn1 ((c :: l).take (endF false (c :: l))) :: scanN n ((c :: l).drop (endF false (c :: l) + 1))
def scanL (l : List UInt8) : RdnL := scanN l.length l
theorem scanN_more (n m : Nat) (l : List UInt8) (hn : l.length ≤ n) (hm : l.length ≤ m) : scanN n l = scanN m l := by
  induction n generalizing m l with
  | zero =>
    have : l = [] := List.eq_nil_of_length_eq_zero (by omega)
    subst this
    cases m <;> rfl
  | succ n ih =>
    cases l with
    | nil => cases m <;> rfl
    | cons c l =>
      cases m with
      | zero => simp at hm
      | succ m =>
        unfold scanN
        rw [ih m _ (by rw [List.length_drop, List.length_cons] at *; omega) (by rw [List.length_drop, List.length_cons] at *; omega)]
theorem scanL_nil : scanL [] = [] := rfl
theorem scanL_cons {l : List UInt8} (h : l ≠ []) : scanL l = rdn1 (l.take (endF false l)) :: scanL (l.drop (endF false l + 1)) := by
  cases l with
  | nil => exact absurd rfl h
  | cons c l =>
    show scanN (l.length + 1) (c :: l) = _
    unfold scanN scanL
    rw [scanN_more l.length _ _ (by rw [List.length_drop, List.length_cons]; omega) (Nat.le_refl _)]
theorem scanL_len (l : List UInt8) : (scanL l).length ≤ l.length := by
  have : ∀ n (l : List UInt8), (scanN n l).length ≤ n := by
    intro n
    induction n with
    | zero => intro l; simp [scanN]
    | succ n ih =>
      intro l
      cases l with
      | nil => simp [scanN]
      | cons c l => simp only [scanN, List.length_cons]; have := ih ((c :: l).drop (endF false (c :: l) + 1)); omega
  exact this _ _

/-- the parts of a text -/
def cutF : List UInt8 → List UInt8 → List (List UInt8)
  | b, [] => [b]
  | b, [c] => if c = 44 then [b, []] else [b ++ [c]]
  | b, c :: d :: l => if c = 92 then cutF (b ++ [c, d]) l else if c = 44 then b :: cutF [] (d :: l) else cutF (b ++ [c]) (d :: l)
theorem cutF_nil (b : List UInt8) : cutF b [] = [b] := by rw [cutF]
theorem cutF_one (b : List UInt8) (c : UInt8) : cutF b [c] = if c = 44 then [b, []] else [b ++ [c]] := by rw [cutF]
theorem cutF_two (b : List UInt8) (c d : UInt8) (l : List UInt8) : cutF b (c :: d :: l) = if c = 92 then cutF (b ++ [c, d]) l else if c = 44 then b :: cutF [] (d :: l) else cutF (b ++ [c]) (d :: l) := by rw [cutF]
def unesc2 : List UInt8 → List UInt8
  | [] => []
  | [c] => [c]
  | c :: d :: l => if c = 92 then d :: unesc2 l else c :: unesc2 (d :: l)
def rdn2 (l : List UInt8) : ByteArray × ByteArray := if 61 ∈ l then (toS (l.takeWhile (· != 61)), toS (unesc2 ((l.dropWhile (· != 61)).drop 1))) else (toS [], toS [])

/-- bytes, each with a backslash or not -/
def encI (x : List (Bool × UInt8)) : List UInt8 := x.flatMap fun p => if p.1 = true then [92, p.2] else [p.2]
def OkI (x : List (Bool × UInt8)) : Prop := ∀ p ∈ x, p.1 = false → p.2 ≠ 92 ∧ p.2 ≠ 44
theorem encI_cons (p : Bool × UInt8) (x : List (Bool × UInt8)) : encI (p :: x) = (if p.1 = true then [92, p.2] else [p.2]) ++ encI x := by unfold encI; simp
theorem encI_append (x y : List (Bool × UInt8)) : encI (x ++ y) = encI x ++ encI y := by unfold encI; simp
theorem OkI.tail {p : Bool × UInt8} {x : List (Bool × UInt8)} (h : OkI (p :: x)) : OkI x := fun q hq => h q (List.mem_cons_of_mem _ hq)
theorem endF_enc (x : List (Bool × UInt8)) (h : OkI x) (t : List UInt8) : endF false (encI x ++ t) = (encI x).length + endF false t := by
  induction x with
  | nil => simp [encI]
  | cons p x ih =>
    obtain ⟨b, c⟩ := p
    have ih := ih h.tail
    rw [encI_cons]
    cases b
    · have hp := h (false, c) (List.mem_cons_self ..) rfl
      simp only [Bool.false_eq_true, if_false, List.cons_append, List.nil_append, List.append_assoc]
      have e1 : endF false (c :: (encI x ++ t)) = 1 + endF ((c == 92) && !false) (encI x ++ t) := by rw [endF, if_neg (fun hh => hp.2 hh.1)]
      have : ((c == 92) && !false) = false := by simp [hp.1]
      rw [e1, this, ih, List.length_cons]; omega
    · simp only [if_true, List.cons_append, List.nil_append, List.append_assoc]
      have e1 : endF false (92 :: c :: (encI x ++ t)) = 1 + endF true (c :: (encI x ++ t)) := by
        rw [endF, if_neg (by simp)]; rfl
      have e2 : endF true (c :: (encI x ++ t)) = 1 + endF false (encI x ++ t) := by
        rw [endF, if_neg (by simp)]; simp
      rw [e1, e2, ih, List.length_cons, List.length_cons]; omega
theorem unescF_enc (x : List (Bool × UInt8)) (h : OkI x) (t : List UInt8) : unescF false (encI x ++ t) = x.map (·.2) ++ unescF false t := by
  induction x with
  | nil => simp [encI]
  | cons p x ih =>
    obtain ⟨b, c⟩ := p
    have ih := ih h.tail
    rw [encI_cons]
    cases b
    · have hp := h (false, c) (List.mem_cons_self ..) rfl
      simp only [Bool.false_eq_true, if_false, List.cons_append, List.nil_append, List.append_assoc, List.map_cons]
      rw [unescF, if_neg (by simp [hp.1]), ih]
    · simp only [if_true, List.cons_append, List.nil_append, List.append_assoc, List.map_cons]
      rw [unescF, if_pos (by simp), unescF, if_neg (by simp), ih]
theorem unesc2_enc (x : List (Bool × UInt8)) (h : OkI x) : unesc2 (encI x) = x.map (·.2) := by
  induction x with
  | nil => simp [encI, unesc2]
  | cons p x ih =>
    obtain ⟨b, c⟩ := p
    have ih := ih h.tail
    rw [encI_cons]
    cases b
    · have hp := h (false, c) (List.mem_cons_self ..) rfl
      simp only [Bool.false_eq_true, if_false, List.cons_append, List.nil_append, List.map_cons]
      rcases he : encI x with _ | ⟨d, l⟩
      · rw [he] at ih; simp only [unesc2] at ih ⊢; rw [← ih]
      · rw [unesc2, if_neg hp.1, ← he, ih]
    · simp only [if_true, List.cons_append, List.nil_append, List.map_cons]
      rw [unesc2, if_pos rfl, ih]
theorem cutF_enc (x : List (Bool × UInt8)) (h : OkI x) (b t : List UInt8) : cutF b (encI x ++ t) = cutF (b ++ encI x) t := by
  induction x generalizing b with
  | nil => simp [encI]
  | cons p x ih =>
    obtain ⟨q, c⟩ := p
    have ih := ih h.tail
    rw [encI_cons]
    cases q
    · have hp := h (false, c) (List.mem_cons_self ..) rfl
      simp only [Bool.false_eq_true, if_false, List.cons_append, List.nil_append, List.append_assoc]
      have e : cutF b (c :: (encI x ++ t)) = cutF (b ++ [c]) (encI x ++ t) := by
        rcases he : encI x ++ t with _ | ⟨d, l⟩
        · rw [cutF_one, if_neg hp.2, cutF_nil]
        · rw [cutF_two, if_neg hp.1, if_neg hp.2]
      rw [e, ih]; simp
    · simp only [if_true, List.cons_append, List.nil_append, List.append_assoc]
      rw [cutF_two, if_pos rfl, ih]; simp

/-- the bytes of a value, with its backslashes -/
def valI (l : List UInt8) : List (Bool × UInt8) := (List.range l.length).map fun i => (oddI ((l.getD i 0).toNat : Int) i l.length, l.getD i 0)
theorem valI_enc (l : List UInt8) : encI (valI l) = escL l := by
  unfold encI valI escL escTo
  rw [List.flatMap_map]
theorem valI_snd (l : List UInt8) : (valI l).map (·.2) = l := by
  unfold valI
  rw [List.map_map]
  apply List.ext_getElem?
  intro i
  rw [List.getElem?_map]
  rcases Nat.lt_or_ge i l.length with h | h
  · rw [List.getElem?_range h, List.getElem?_eq_getElem h]; simp [h]
  · rw [List.getElem?_eq_none (by simpa using h), List.getElem?_eq_none h]; rfl
theorem odd_no {c : UInt8} {i n : Nat} (h : oddI (c.toNat : Int) i n = false) : c ≠ 92 ∧ c ≠ 44 := by
  unfold oddI at h
  simp only [Bool.or_eq_false_iff] at h
  obtain ⟨⟨⟨⟨⟨⟨⟨⟨⟨h44, h43⟩, h34⟩, h92⟩, h60⟩, h62⟩, h59⟩, h61⟩, h35⟩, h32⟩ := h
  constructor
  · intro e; subst e; revert h92; decide
  · intro e; subst e; revert h44; decide
theorem valI_ok (l : List UInt8) : OkI (valI l) := by
  intro p hp h
  unfold valI at hp
  obtain ⟨i, _, rfl⟩ := List.mem_map.1 hp
  exact odd_no h
/-- the bytes of a pair -/
def rdnI (r : ByteArray × ByteArray) : List (Bool × UInt8) := (r.1.data.toList ++ [61]).map (fun c => (false, c)) ++ valI r.2.data.toList
theorem encI_plain (l : List UInt8) : encI (l.map (fun c => (false, c))) = l := by
  induction l with
  | nil => rfl
  | cons c l ih => rw [List.map_cons, encI_cons, ih]; rfl
theorem rdnI_enc (r : ByteArray × ByteArray) : encI (rdnI r) = (rdnS r).data.toList := by
  unfold rdnI rdnS
  rw [encI_append, encI_plain, valI_enc]
  simp [escS]
theorem name_bytes {s : ByteArray} (h : nmL s = true) : ∀ c ∈ s.data.toList, c ≠ 92 ∧ c ≠ 44 ∧ c ≠ 61 := by
  have h1 : allB s.data.toList = true := by unfold nmL at h; simp at h; exact h.2
  unfold allB at h1
  rw [List.all_eq_true] at h1
  intro c hc
  have := h1 c hc
  refine ⟨?_, ?_, ?_⟩ <;> (intro e; subst e; revert this; decide)
theorem rdnI_ok {r : ByteArray × ByteArray} (h : rdnB r = true) : OkI (rdnI r) := by
  unfold rdnB at h
  simp only [Bool.and_eq_true] at h
  intro p hp hf
  unfold rdnI at hp
  rw [List.mem_append] at hp
  rcases hp with hp | hp
  · obtain ⟨c, hc, rfl⟩ := List.mem_map.1 hp
    rw [List.mem_append] at hc
    rcases hc with hc | hc
    · have := name_bytes h.1 c hc; exact ⟨this.1, this.2.1⟩
    · simp at hc; subst hc; decide
  · exact valI_ok _ p hp hf
theorem takeWhile_name {l t : List UInt8} (h : ∀ c ∈ l, c ≠ 61) : (l ++ 61 :: t).takeWhile (· != 61) = l ∧ (l ++ 61 :: t).dropWhile (· != 61) = 61 :: t := by
  induction l with
  | nil => simp
  | cons c l ih =>
    have hc := h c (List.mem_cons_self ..)
    have ih := ih (fun x hx => h x (List.mem_cons_of_mem _ hx))
    have hb : (c != 61) = true := by simpa using hc
    rw [List.cons_append, List.takeWhile_cons, List.dropWhile_cons, hb]
    exact ⟨by rw [if_pos rfl, ih.1], by rw [if_pos rfl, ih.2]⟩
theorem rdn_list (r : ByteArray × ByteArray) : (rdnS r).data.toList = r.1.data.toList ++ 61 :: escL r.2.data.toList := by unfold rdnS; simp [escS]
theorem rdn1_text {r : ByteArray × ByteArray} (h : rdnB r = true) : rdn1 (rdnS r).data.toList = r := by
  have hn : nmL r.1 = true := by unfold rdnB at h; simp only [Bool.and_eq_true] at h; exact h.1
  obtain ⟨h1, h2⟩ := takeWhile_name (l := r.1.data.toList) (t := escL r.2.data.toList) (fun c hc => (name_bytes hn c hc).2.2)
  unfold rdn1
  rw [rdn_list, h1, h2, List.drop_succ_cons, List.drop_zero, ← valI_enc]
  have := unescF_enc (valI r.2.data.toList) (valI_ok _) []
  rw [List.append_nil, valI_snd] at this
  rw [this]
  simp [unescF, toS_self]
theorem rdn2_text {r : ByteArray × ByteArray} (h : rdnB r = true) : rdn2 (rdnS r).data.toList = r := by
  have hn : nmL r.1 = true := by unfold rdnB at h; simp only [Bool.and_eq_true] at h; exact h.1
  obtain ⟨h1, h2⟩ := takeWhile_name (l := r.1.data.toList) (t := escL r.2.data.toList) (fun c hc => (name_bytes hn c hc).2.2)
  unfold rdn2
  rw [rdn_list, if_pos (by simp), h1, h2, List.drop_succ_cons, List.drop_zero, ← valI_enc, unesc2_enc _ (valI_ok _), valI_snd, toS_self, toS_self]
theorem text_cons (r : ByteArray × ByteArray) (d : RdnL) : textL (r :: d) = (rdnS r).data.toList ++ (if d = [] then [] else 44 :: textL d) := by
  unfold textL
  rw [List.map_cons, Lib.join_cons]
  cases d with
  | nil => simp [Lib.joinTail]
  | cons s d => rw [if_neg (by simp), List.map_cons, Lib.join_cons]; simp [Lib.joinTail]
theorem rdn_ne (r : ByteArray × ByteArray) : (rdnS r).data.toList ≠ [] := by rw [rdn_list]; simp
/-- a name is got back from its text -/
theorem scan_text (d : RdnL) (h : d.all rdnB = true) : scanL (textL d) = d := by
  induction d with
  | nil => rfl
  | cons r d ih =>
    rw [List.all_cons, Bool.and_eq_true] at h
    have ih := ih h.2
    have hne : textL (r :: d) ≠ [] := by rw [text_cons]; intro e; exact rdn_ne r (List.append_eq_nil_iff.1 e).1
    have he : endF false (textL (r :: d)) = (rdnS r).data.toList.length := by
      rw [text_cons, ← rdnI_enc, endF_enc _ (rdnI_ok h.1)]
      split
      · simp [endF]
      · simp [endF]
    rw [scanL_cons hne, he, text_cons, List.take_left, rdn1_text h.1]
    by_cases hd : d = []
    · subst hd
      rw [if_pos rfl, List.append_nil, List.drop_eq_nil_of_le (by omega), scanL_nil]
    · rw [if_neg hd, List.drop_append, List.drop_eq_nil_of_le (by omega), List.nil_append, show (rdnS r).data.toList.length + 1 - (rdnS r).data.toList.length = 1 by omega, List.drop_succ_cons, List.drop_zero, ih]
theorem cut_text (d : RdnL) (h : d.all rdnB = true) (hne : d ≠ []) : (cutF [] (textL d)).map rdn2 = d := by
  induction d with
  | nil => exact absurd rfl hne
  | cons r d ih =>
    rw [List.all_cons, Bool.and_eq_true] at h
    rw [text_cons, ← rdnI_enc, cutF_enc _ (rdnI_ok h.1), List.nil_append]
    by_cases hd : d = []
    · subst hd
      rw [if_pos rfl, cutF_nil, List.map_singleton, rdnI_enc, rdn2_text h.1]
    · rw [if_neg hd]
      have ih := ih h.2 hd
      have e : cutF (encI (rdnI r)) (44 :: textL d) = encI (rdnI r) :: cutF [] (textL d) := by
        rcases ht : textL d with _ | ⟨c, l⟩
        · rw [cutF_one, if_pos rfl, cutF_nil]
        · rw [cutF_two, if_neg (by decide), if_pos rfl]
      rw [e, List.map_cons, ih, rdnI_enc, rdn2_text h.1]
end Go.Proofs.Ytjajpdghamecoaa
/- Reading names: what the small functions of the program return. -/
namespace Go.Proofs.Ytjajpdghamecoaa
open Go.RowKit

theorem drop_at (s : ByteArray) (k : Nat) (h : k < s.size) : s.data.toList.drop k = s[k] :: s.data.toList.drop (k + 1) := by
  rw [List.drop_eq_getElem_cons (by simpa using h)]; rfl
theorem ret_num {k : IntKind} {a b : Nat} (h : a = b) : Ending.returned (.int k (a : Int)) = .returned (.int k (b : Int)) := by rw [h]
theorem u8_ne {c : UInt8} {n : Nat} (h : ¬ (c.toNat : Int) = n) : c ≠ UInt8.ofNat n ∨ 256 ≤ n := by
  by_cases hn : 256 ≤ n
  · exact .inr hn
  · left; intro e; subst e; apply h; simp; omega
theorem endF_stop {c : UInt8} {l : List UInt8} (h : c = 44) : endF false (c :: l) = 0 := by rw [endF, if_pos ⟨h, rfl⟩]
theorem endF_go {b : Bool} {c : UInt8} {l : List UInt8} (h : ¬ (c = 44 ∧ b = false)) : endF b (c :: l) = 1 + endF ((c == 92) && !b) l := by rw [endF, if_neg h]
def EndAt (s : ByteArray) (b : Bool) (k : Nat) : Prop := endF false s.data.toList = k + endF b (s.data.toList.drop k)
theorem EndAt.step {s : ByteArray} {b : Bool} {k : Nat} (h : EndAt s b k) (hk : k < s.size) (hc : ¬ (s[k] = 44 ∧ b = false)) (b' : Bool) (hb : b' = ((s[k] == 92) && !b)) : EndAt s b' (k + 1) := by
  unfold EndAt at h ⊢
  rw [h, drop_at s k hk, endF_go hc, ← hb]; omega
set_option maxHeartbeats 1000000 in
theorem rdnEnd_any (s : ByteArray) (w : World) (hs : s.size ≤ 1048576) :
    Calls Try.prog 94 #[.string s] w fun e w' => e = .returned (.int .i64 (endF false s.data.toList : Nat)) ∧ w = w' := by
  go_enter Try.func94, Try.ntmps94
  go_wp2
  go_loop [3, 7] (fun t i => ∃ (k : Nat) (b : Bool), k ≤ s.size ∧ i = .int .i64 k ∧ t = .bool b ∧ EndAt s b k) (fun _ i => s.size - (intOf i).toNat)
  case atStart => exact ⟨0, false, Nat.zero_le _, rfl, rfl, by unfold EndAt; simp⟩
  case round =>
    obtain ⟨k, b, hk, rfl, rfl, hE⟩ := hrel
    have HE := Lib.hid hE; clear hE
    by_cases hlt : k < s.size
    · by_cases h44 : (s[k].toNat : Int) = 44
      · have hb1 : ((s[k].toNat : Int) == 44) = true := by rw [h44]; rfl
        have hb2 : ((s[k].toNat : Int) == 92) = false := by rw [h44]; rfl
        have e44 := Lib.hid (nat_of_u8 (n := 44) h44 (by omega))
        clear h44
        cases b
        · have HR : Hid (k = endF false s.data.toList) := Lib.hid (by
            have := HE.out; unfold EndAt at this
            rw [drop_at s k hlt, endF_stop e44.out] at this; omega)
          go_wp2
          go_ret
          exact ⟨ret_num HR.out, rfl⟩
        · have HN := Lib.hid (HE.out.step hlt (by simp) false (by simp))
          go_wp2
          go_round
          case rel => exact ⟨k + 1, false, by omega, by go_num, rfl, HN.out⟩
          case measure => simp [intOf]; omega
      · have hb1 : ((s[k].toNat : Int) == 44) = false := by rw [beq_eq_false_iff_ne]; exact h44
        have n44 : s[k] ≠ 44 := fun e => h44 (by rw [e]; rfl)
        by_cases h92 : (s[k].toNat : Int) = 92
        · have hb2 : ((s[k].toNat : Int) == 92) = true := by rw [h92]; rfl
          have e92 : s[k] = 92 := nat_of_u8 (n := 92) h92 (by omega)
          have HN := Lib.hid (HE.out.step hlt (fun h => n44 h.1) (!b) (by rw [e92]; simp))
          clear h44 h92 n44 e92
          cases b
          all_goals
            go_wp2
            go_round
            case rel => exact ⟨k + 1, _, by omega, by go_num, rfl, HN.out⟩
            case measure => simp [intOf]; omega
        · have hb2 : ((s[k].toNat : Int) == 92) = false := by rw [beq_eq_false_iff_ne]; exact h92
          have n92 : s[k] ≠ 92 := fun e => h92 (by rw [e]; rfl)
          have HN := Lib.hid (HE.out.step hlt (fun h => n44 h.1) false (by simp [n92]))
          clear h44 h92 n44 n92
          go_wp2
          go_round
          case rel => exact ⟨k + 1, false, by omega, by go_num, rfl, HN.out⟩
          case measure => simp [intOf]; omega
    · have HR : Hid (s.size = endF false s.data.toList) := Lib.hid (by
        have := HE.out; unfold EndAt at this
        rw [List.drop_eq_nil_of_le (by simp; omega), endF] at this; omega)
      go_wp2
      go_ret
      exact ⟨ret_num HR.out, rfl⟩
theorem unescF_skip {c : UInt8} {l : List UInt8} (h : c = 92) : unescF false (c :: l) = unescF true l := by rw [unescF, if_pos (by simp [h])]
theorem unescF_add {b : Bool} {c : UInt8} {l : List UInt8} (h : ¬ (c = 92 ∧ b = false)) : unescF b (c :: l) = c :: unescF false l := by
  rw [unescF, if_neg]
  intro e; apply h; simpa using e
def UnAt (s : ByteArray) (pre : List UInt8) (b : Bool) (k : Nat) : Prop := unescF false s.data.toList = pre ++ unescF b (s.data.toList.drop k) ∧ pre.length ≤ k
set_option maxRecDepth 100000 in
set_option maxHeartbeats 1000000 in
theorem unescapeValue_any (s : ByteArray) (w : World) (hs : s.size ≤ 1048576) :
    Calls Try.prog 96 #[.string s] w fun e w' => e = .returned (.string (toS (unescF false s.data.toList))) ∧ Below w.heap.size w w' := by
  go_enter Try.func96, Try.ntmps96
  go_wp2
  go_loopw [3, 4, 8] (fun v t i wr => ∃ (k : Nat) (b : Bool) (pre : List UInt8), k ≤ s.size ∧ i = .int .i64 k ∧ t = .bool b ∧ UnAt s pre b k ∧ wr.ownsRow w.heap.size 5 1 v pre.length (bs pre) ∧ Below w.heap.size w wr) (fun _ _ i _ => s.size - (intOf i).toNat)
  case atStart => exact ⟨0, false, [], Nat.zero_le _, rfl, rfl, ⟨by simp, Nat.le_refl _⟩, ⟨rfl, .inl ⟨rfl, rfl⟩⟩, Below.refl _ _⟩
  case round =>
    obtain ⟨k, b, pre, hk, rfl, rfl, hU, hown, hbel⟩ := hrel
    have hpl := hU.2
    have HU := Lib.hid hU; clear hU
    have hsz := hbel.size
    by_cases hlt : k < s.size
    · by_cases h92 : (s[k].toNat : Int) = 92
      · have hb2 : ((s[k].toNat : Int) == 92) = true := by rw [h92]; rfl
        have e92 := Lib.hid (nat_of_u8 (n := 92) h92 (by omega))
        clear h92
        cases b
        · have HN : Hid (UnAt s pre true (k + 1)) := Lib.hid ⟨by rw [HU.out.1, drop_at s k hlt, unescF_skip e92.out], by omega⟩
          go_wp2
          go_roundw
          case rel => exact ⟨k + 1, true, pre, by omega, by go_num, rfl, HN.out, hown, hbel⟩
          case measure => simp [intOf]; omega
        · have HN : Hid (UnAt s (pre ++ [s[k]]) false (k + 1)) := Lib.hid ⟨by rw [HU.out.1, drop_at s k hlt, unescF_add (by simp)]; simp, by simp; omega⟩
          go_wp2_with (first | (at_builtin; refine append_byte w.heap.size rfl _ _ rfl _ pre rfl hown s[k] _ rfl rfl (by omega) hsz hbel ?_; intro v' w1 hown' hbel' hsz') | (fail "none"))
          go_roundw
          case rel => exact ⟨k + 1, false, _, by omega, by go_num, rfl, HN.out, hown', hbel'⟩
          case measure => simp [intOf]; omega
      · have hb2 : ((s[k].toNat : Int) == 92) = false := by rw [beq_eq_false_iff_ne]; exact h92
        have n92 : s[k] ≠ 92 := fun e => h92 (by rw [e]; rfl)
        have HN : Hid (UnAt s (pre ++ [s[k]]) false (k + 1)) := Lib.hid ⟨by rw [HU.out.1, drop_at s k hlt, unescF_add (fun h => n92 h.1)]; simp, by simp; omega⟩
        clear h92 n92
        go_wp2_with (first | (at_builtin; refine append_byte w.heap.size rfl _ _ rfl _ pre rfl hown s[k] _ rfl rfl (by omega) hsz hbel ?_; intro v' w1 hown' hbel' hsz') | (fail "none"))
        go_roundw
        case rel => exact ⟨k + 1, false, _, by omega, by go_num, rfl, HN.out, hown', hbel'⟩
        case measure => simp [intOf]; omega
    · have HR : Hid (toS (unescF false s.data.toList) = ⟨pre.toArray⟩) := Lib.hid (by
        have := HU.out.1
        rw [List.drop_eq_nil_of_le (by simp; omega), unescF, List.append_nil] at this
        unfold toS; rw [this])
      have hcv := str_own _ _ _ _ hown
      go_wp2
      go_ret
      exact ⟨ret_str HR.out.symm, hbel⟩
theorem idx (l : List UInt8) : (Lib.indexByte l 61 = -1 ∧ l.takeWhile (· != 61) = l ∧ l.dropWhile (· != 61) = []) ∨
    ∃ k : Nat, k < l.length ∧ Lib.indexByte l 61 = (k : Int) ∧ l.take k = l.takeWhile (· != 61) ∧ l.drop k = l.dropWhile (· != 61) := by
  induction l with
  | nil => left; exact ⟨rfl, rfl, rfl⟩
  | cons c l ih =>
    by_cases hc : c = 61
    · right; subst hc; exact ⟨0, by simp, by simp [Lib.indexByte], by simp, by simp⟩
    · have hb : (c != 61) = true := by simpa using hc
      have hb' : (c == 61) = false := by simpa using hc
      rcases ih with ⟨h1, h2, h3⟩ | ⟨k, h1, h2, h3, h4⟩
      · left
        refine ⟨by rw [Lib.indexByte, hb', h1]; rfl, ?_, ?_⟩
        · rw [List.takeWhile_cons, hb, if_pos rfl, h2]
        · rw [List.dropWhile_cons, hb, if_pos rfl, h3]
      · right
        refine ⟨k + 1, by simp; omega, ?_, ?_, ?_⟩
        · rw [Lib.indexByte, hb', h2]
          have : ((k : Int) == -1) = false := by rw [beq_eq_false_iff_ne]; omega
          rw [this]; simp
        · rw [List.takeWhile_cons, hb, if_pos rfl, List.take_succ_cons, h3]
        · rw [List.dropWhile_cons, hb, if_pos rfl, List.drop_succ_cons, h4]
end Go.Proofs.Ytjajpdghamecoaa
/- Normalized pairs, keys, sameness: what the texts return. -/
namespace Go.Proofs.Ytjajpdghamecoaa
open Go.RowKit
attribute [local go_sem ↓] Go.wp_at_zero Go.wp_at_succ

/-- two blocks of two cells, over a call -/
theorem keep22 {w W w1 : World} {a b x y : Value} {T U : TypeId} (hb : Below W.heap.size W w1) (hW : W.heap = ((w.alloc (.cells #[a, b] T)).alloc (.cells #[x, y] U)).heap) :
    (w1.cell? ⟨w.heap.size, 0, none⟩ = some a ∧ w1.cell? ⟨w.heap.size, 1, none⟩ = some b ∧ w1.cell? ⟨w.heap.size + 1, 0, none⟩ = some x ∧ w1.cell? ⟨w.heap.size + 1, 1, none⟩ = some y) ∧
    (w1.frozen? ⟨w.heap.size, 0, none⟩ = false ∧ w1.frozen? ⟨w.heap.size, 1, none⟩ = false ∧ w1.frozen? ⟨w.heap.size + 1, 0, none⟩ = false ∧ w1.frozen? ⟨w.heap.size + 1, 1, none⟩ = false) ∧ w.heap.size + 1 < w1.heap.size := by
  have hs : w.heap.size + 1 < W.heap.size := by rw [hW]; simp
  have hblk : w1.heap[w.heap.size]? = some (.cells #[a, b] T) := by
    rw [hb.block _ (by omega), hW, Below.heap_alloc _ _ _ (by simp)]; exact heap_alloc_new w _
  have hblk2 : w1.heap[w.heap.size + 1]? = some (.cells #[x, y] U) := by
    rw [hb.block _ hs, hW]
    have := heap_alloc_new (w.alloc (.cells #[a, b] T)) (.cells #[x, y] U)
    simpa using this
  refine ⟨⟨?_, ?_, ?_, ?_⟩, ⟨?_, ?_, ?_, ?_⟩, Nat.lt_of_lt_of_le hs hb.size⟩
  all_goals first | (unfold World.cell?; rw [hblk]; rfl) | (unfold World.frozen?; rw [hblk]; rfl) | (unfold World.cell?; rw [hblk2]; rfl) | (unfold World.frozen?; rw [hblk2]; rfl)
theorem below_past2 {w W w1 : World} {o o' : Obj} (hb : Below W.heap.size W w1) (h1 : W.heap = ((w.alloc o).alloc o').heap) (h2 : W.os = w.os) (h3 : W.tape = w.tape) (h4 : W.output = w.output) : Below w.heap.size w w1 := by
  have hs : W.heap.size = w.heap.size + 2 := by rw [h1]; simp
  refine ⟨hb.os.trans h2, hb.tape.trans h3, hb.output.trans h4, by have := hb.size; omega, fun k hk => ?_⟩
  rw [hb.block k (by omega), h1, Below.heap_alloc _ _ _ (by simp; omega), Below.heap_alloc w o k hk]

set_option maxRecDepth 100000 in
set_option maxHeartbeats 1000000 in
theorem normRdn_any (a v : ByteArray) (w : World) (hv : v.size ≤ maxLen) :
    Calls Try.prog 60 #[.agg #[.string a, .string v]] w fun e w' => e = .returned (.agg #[.string a, .string (normS v)]) ∧ Below w.heap.size w w' := by
  go_enter Try.func60, Try.ntmps60
  go_wp2_with fail
  go_region_with (first | (go_at_call 99; refine (Norm_any _ _ hv).mono ?_; rintro e w2 ⟨rfl, hb2⟩; obtain ⟨⟨c0, c1, c2, c3⟩, ⟨f0, f1, f2, f3⟩, hz⟩ := keep22 (w := w) hb2 rfl; have HB := Lib.hid (below_past2 (w := w) hb2 rfl rfl rfl rfl); clear hb2))
  all_goals go_wp2
  all_goals refine bodyPost_ret (v := .agg #[.string a, .string (normS v)]) (by simp [results, Try.results60, go_sem, c2, c3]) rfl ⟨rfl, ?_⟩
  all_goals exact (HB.out.setCell (by simp) _).setCell (by simp) _
end Go.Proofs.Ytjajpdghamecoaa
/- Keys of names: the plain mathematics. -/
namespace Go.Proofs.Ytjajpdghamecoaa
open Go.RowKit

/-- what is compared of a pair -/
def nrm (r : ByteArray × ByteArray) : List UInt8 × List UInt8 := (r.1.data.toList, normL r.2.data.toList)
def sameB (a b : RdnL) : Bool := decide (a.map nrm = b.map nrm)
/-- one pair of a key -/
def rkL (r : ByteArray × ByteArray) : List UInt8 := 1 :: (r.1.data.toList ++ 61 :: normL r.2.data.toList)
def keyL (d : RdnL) : List UInt8 := d.reverse.flatMap rkL
def keyS (d : RdnL) : ByteArray := ⟨(keyL d).toArray⟩

theorem pair_eq (a v a' v' : ByteArray) : ((a.toList == a'.toList) && ((normS v).toList == (normS v').toList)) = decide (nrm (a, v) = nrm (a', v')) := by
  rw [Lib.toList_data, Lib.toList_data, Lib.toList_data, Lib.toList_data, Bool.eq_iff_iff]
  simp [nrm, normS]
theorem Try.fields61 : Try.prog.underlying 61 = some (.struct (Try.prog.fieldsOf 61)) := by kernel_rfl
theorem Try.held61 : Try.prog.stoodInHeld 61 = false := by kernel_rfl
theorem neq39 (a v a' v' : ByteArray) (W : World) : (binOp .neq 61 (.agg #[.string a, .string v]) (.agg #[.string a', .string v'])).run Try.prog W = .ok (.bool (!((a.toList == a'.toList) && (v.toList == v'.toList)))) W := by
  rw [run_neq_struct, run_equalIn_agg W 9999 61 _ _ Try.fields61 Try.held61]
  simp [go_sem]
  by_cases h1 : a.toList = a'.toList
  · by_cases h2 : v.toList = v'.toList
    · rw [if_pos h1, if_pos h2]; simp [h1, h2]
    · rw [if_pos h1, if_neg h2]; simp [h2]
  · rw [if_neg h1]; simp [h1]
theorem neqNorm (a v a' v' : ByteArray) (W : World) : (binOp .neq 61 (.agg #[.string a, .string (normS v)]) (.agg #[.string a', .string (normS v')])).run Try.prog W = .ok (.bool (!decide (nrm (a, v) = nrm (a', v')))) W := by
  rw [neq39, pair_eq]

/-- bytes of a name, and of a normalized value -/
def cleanR (p : List UInt8 × List UInt8) : Prop := (1 ∉ p.1 ∧ 61 ∉ p.1) ∧ 1 ∉ p.2
theorem name_clean {s : ByteArray} (h : nmL s = true) : 1 ∉ s.data.toList ∧ 61 ∉ s.data.toList := by
  have h1 : allB s.data.toList = true := by unfold nmL at h; simp at h; exact h.2
  unfold allB at h1
  rw [List.all_eq_true] at h1
  constructor
  · intro hm; have := h1 _ hm; revert this; decide
  · intro hm; have := h1 _ hm; revert this; decide
theorem nstep_mem {o : List UInt8} {c x : UInt8} (h : x ∈ nstep o c) : x ∈ o ∨ x = low c := by
  unfold nstep at h
  split at h
  · exact .inl h
  · simpa using h
theorem nfold_mem {l : List UInt8} {x : UInt8} (h : x ∈ nfold l) : ∃ c ∈ l, x = low c := by
  have : ∀ (l o : List UInt8), x ∈ l.foldl nstep o → x ∈ o ∨ ∃ c ∈ l, x = low c := by
    intro l
    induction l with
    | nil => intro o h; exact .inl h
    | cons c l ih =>
      intro o h
      rcases ih _ h with h1 | ⟨d, hd, hx⟩
      · rcases nstep_mem h1 with h2 | h2
        · exact .inl h2
        · exact .inr ⟨c, List.mem_cons_self .., h2⟩
      · exact .inr ⟨d, List.mem_cons_of_mem _ hd, hx⟩
  rcases this l [] h with h1 | h1
  · simp at h1
  · exact h1
theorem chop_mem {o : List UInt8} {x : UInt8} (h : x ∈ chop o) : x ∈ o := by
  unfold chop at h
  split at h
  · exact List.dropLast_subset _ h
  · exact h
/-- the bytes of a normalized text are printable -/
theorem norm_plain (l : List UInt8) : ∀ x ∈ normL l, 32 ≤ x.toNat ∧ x.toNat ≤ 126 := by
  intro x hx
  unfold normL at hx
  split at hx
  · rename_i h
    obtain ⟨c, hc, rfl⟩ := nfold_mem (chop_mem hx)
    have hp := h.2
    unfold plainB at hp
    rw [List.all_eq_true] at hp
    have hp := hp c hc
    simp at hp
    by_cases hcap : 65 ≤ c.toNat ∧ c.toNat ≤ 90
    · have := low_in c hcap; omega
    · rw [low_out c hcap]; omega
  · simp at hx
theorem norm_clean (l : List UInt8) : 1 ∉ normL l := by
  intro h
  have := norm_plain l _ h
  revert this; decide
theorem clean_of {d : RdnL} (h : d.all rdnB = true) : ∀ p ∈ d.map nrm, cleanR p := by
  intro p hp
  obtain ⟨r, hr, rfl⟩ := List.mem_map.1 hp
  rw [List.all_eq_true] at h
  have := h r hr
  unfold rdnB at this
  simp at this
  exact ⟨name_clean this.1, norm_clean _⟩
def rkP (p : List UInt8 × List UInt8) : List UInt8 := 1 :: (p.1 ++ 61 :: p.2)
theorem split_at {c : UInt8} : ∀ {a b x y : List UInt8}, c ∉ a → c ∉ b → a ++ c :: x = b ++ c :: y → a = b ∧ x = y
  | [], [], _, _, _, _, h => ⟨rfl, by simpa using h⟩
  | [], b0 :: b, _, _, _, hb, h => by
    simp at h; exact absurd h.1.symm (fun e => hb (by simp [e]))
  | a0 :: a, [], _, _, ha, _, h => by
    simp at h; exact absurd h.1 (fun e => ha (by simp [e]))
  | a0 :: a, b0 :: b, x, y, ha, hb, h => by
    simp at h
    obtain ⟨h1, h2⟩ := h
    have := split_at (c := c) (fun e => ha (by simp [e])) (fun e => hb (by simp [e])) h2
    exact ⟨by rw [h1, this.1], this.2⟩
/-- of two lists of pairs with one key -/
theorem key_inj : ∀ (a b : List (List UInt8 × List UInt8)), (∀ p ∈ a, cleanR p) → (∀ p ∈ b, cleanR p) → a.flatMap rkP = b.flatMap rkP → a = b
  | [], [], _, _, _ => rfl
  | [], q :: b, _, _, h => by simp [rkP] at h
  | p :: a, [], _, _, h => by simp [rkP] at h
  | p :: a, q :: b, ha, hb, h => by
    have hp := ha p (List.mem_cons_self ..)
    have hq := hb q (List.mem_cons_self ..)
    have ha' : ∀ x ∈ a, cleanR x := fun x hx => ha x (List.mem_cons_of_mem _ hx)
    have hb' : ∀ x ∈ b, cleanR x := fun x hx => hb x (List.mem_cons_of_mem _ hx)
    simp only [List.flatMap_cons, rkP, List.cons_append, List.cons.injEq, true_and, List.append_assoc] at h
    obtain ⟨e1, h2⟩ := split_at (c := 61) hp.1.2 hq.1.2 h
    have tail : ∀ (l : List (List UInt8 × List UInt8)), l.flatMap rkP = [] ∨ ∃ t, l.flatMap rkP = 1 :: t := by
      intro l
      cases l with
      | nil => exact .inl rfl
      | cons r l => exact .inr ⟨_, rfl⟩
    have h3 : p.2 = q.2 ∧ a.flatMap rkP = b.flatMap rkP := by
      have h2' : p.2 ++ a.flatMap rkP = q.2 ++ b.flatMap rkP := h2
      rcases tail a with ea | ⟨s, ea⟩ <;> rcases tail b with eb | ⟨t, eb⟩
      · rw [ea, eb] at h2' ⊢; simpa using h2'
      · rw [ea, eb] at h2'
        exact absurd (show (1 : UInt8) ∈ p.2 by rw [show p.2 = q.2 ++ 1 :: t by simpa using h2']; simp) hp.2
      · rw [ea, eb] at h2'
        exact absurd (show (1 : UInt8) ∈ q.2 by rw [show q.2 = p.2 ++ 1 :: s by simpa using h2'.symm]; simp) hq.2
      · rw [ea, eb] at h2' ⊢
        obtain ⟨x, y⟩ := split_at (c := 1) hp.2 hq.2 h2'
        exact ⟨x, by rw [y]⟩
    have := key_inj a b ha' hb' h3.2
    rw [this, Prod.ext e1 h3.1]
theorem keyL_map (d : RdnL) : keyL d = (d.map nrm).reverse.flatMap rkP := by
  unfold keyL
  rw [← List.map_reverse, List.flatMap_map]; rfl
theorem key_same {a b : RdnL} (ha : a.all rdnB = true) (hb : b.all rdnB = true) : ((keyS a).toList == (keyS b).toList) = sameB a b := by
  rw [Lib.toList_data, Lib.toList_data, Bool.eq_iff_iff]
  simp only [beq_iff_eq, sameB, decide_eq_true_eq]
  show keyL a = keyL b ↔ _
  constructor
  · intro h
    rw [keyL_map, keyL_map] at h
    have := key_inj _ _ (fun p hp => clean_of ha p (by simpa using hp)) (fun p hp => clean_of hb p (by simpa using hp)) h
    simpa using this
  · intro h; rw [keyL_map, keyL_map, h]
theorem keyL_take (d : RdnL) (k : Nat) (h : k < d.length) : keyL (d.take (k + 1)) = rkL d[k] ++ keyL (d.take k) := by
  unfold keyL
  rw [List.take_succ_eq_append_getElem h, List.reverse_append, List.flatMap_append]; simp
theorem keyL_drop (d : RdnL) (k : Nat) (h : k < d.length) : keyL (d.drop k) = keyL (d.drop (k + 1)) ++ rkL d[k] := by
  unfold keyL
  rw [List.drop_eq_getElem_cons h, List.reverse_cons, List.flatMap_append]; simp
theorem rk_len (r : ByteArray × ByteArray) (h : r.1.size ≤ 1048576) : (rkL r).length ≤ 1048678 := by
  have := normL_len r.2.data.toList
  unfold rkL
  simp only [List.length_cons, List.length_append, size_len]; omega
theorem keyL_len (d : RdnL) (h : ∀ r ∈ d, r.1.size ≤ 1048576) : (keyL d).length ≤ d.length * 1048678 := by
  induction d with
  | nil => simp [keyL]
  | cons r d ih =>
    have h1 := ih (fun x hx => h x (List.mem_cons_of_mem _ hx))
    have h2 := rk_len r (h r (List.mem_cons_self ..))
    have e : keyL (r :: d) = keyL d ++ rkL r := by unfold keyL; simp
    rw [e, List.length_append, List.length_cons, Nat.add_mul]; omega
theorem keyS_small (d : RdnL) (h : Fits d) (h6 : d.length ≤ 6) : (keyS d).size ≤ 7000000 := by
  have := keyL_len d (fun r hr => (h.2 r hr).1)
  have e : (keyS d).size = (keyL d).length := rfl
  rw [e]; omega
theorem Fits.take {d : RdnL} (h : Fits d) (k : Nat) : Fits (d.take k) := ⟨by have := h.1; simp; omega, fun r hr => h.2 r (List.mem_of_mem_take hr)⟩
theorem Fits.drop {d : RdnL} (h : Fits d) (k : Nat) : Fits (d.drop k) := ⟨by have := h.1; simp; omega, fun r hr => h.2 r (List.mem_of_mem_drop hr)⟩
theorem normS_size (s : ByteArray) : (normS s).size ≤ 100 := by have := normL_len s.data.toList; exact this
end Go.Proofs.Ytjajpdghamecoaa
/- Sameness and keys of names: what the texts return. -/
namespace Go.Proofs.Ytjajpdghamecoaa
open Go.RowKit
attribute [local go_sem ↓] Go.wp_at_zero Go.wp_at_succ

theorem normRdn_from (w0 : World) (a v : ByteArray) (w : World) (hv : v.size ≤ maxLen) (hB : Below w0.heap.size w0 w) :
    Calls Try.prog 60 #[.agg #[.string a, .string v]] w fun e w' => e = .returned (.agg #[.string a, .string (normS v)]) ∧ Below w0.heap.size w0 w' :=
  (normRdn_any a v w hv).mono fun _ _ ⟨he, hb⟩ => ⟨he, hB.trans (hb.mono hB.size)⟩
theorem map_take_succ {α β : Type} (f : α → β) (l : List α) (k : Nat) (h : k < l.length) : (l.take (k + 1)).map f = (l.take k).map f ++ [f l[k]] := by
  rw [List.take_succ_eq_append_getElem h, List.map_append]; rfl
theorem same_len {a b : RdnL} (h : a.length ≠ b.length) : sameB a b = false := by
  unfold sameB
  rw [decide_eq_false_iff_not]
  intro e
  have := congrArg List.length e
  simp at this; exact h this
theorem same_bad {a b : RdnL} {k : Nat} (ha : k < a.length) (hb : k < b.length) (h : nrm a[k] ≠ nrm b[k]) : sameB a b = false := by
  unfold sameB
  rw [decide_eq_false_iff_not]
  intro e
  apply h
  have : (a.map nrm)[k]? = (b.map nrm)[k]? := by rw [e]
  rw [List.getElem?_map, List.getElem?_map, List.getElem?_eq_getElem ha, List.getElem?_eq_getElem hb] at this
  simpa using this

set_option maxRecDepth 100000 in
set_option maxHeartbeats 1000000 in
theorem sameRdns_any (ao bo : Option Addr) (a b : RdnL) (ca cb : Nat) (w : World) (hda : DnAt w ao a) (hdb : DnAt w bo b) (hfa : Fits a) (hfb : Fits b) :
    Calls Try.prog 58 #[.slice ao a.length ca, .slice bo b.length cb] w fun e w' => e = .returned (.bool (sameB a b)) ∧ Below w.heap.size w w' := by
  have hla := hfa.1
  have hlb := hfb.1
  have HA := Lib.hid hda; have HB := Lib.hid hdb; have FA := Lib.hid hfa; have FB := Lib.hid hfb; clear hda hdb hfa hfb
  by_cases hl : a.length = b.length
  · have Hl := Lib.hid hl
    have hne : ((a.length : Int) != (b.length : Int)) = false := by rw [hl]; simp
    go_enter Try.func58, Try.ntmps58
    clear hl
    go_wp2
    go_loopw [13] (fun i wr => ∃ k : Nat, k ≤ a.length ∧ i = .int .i64 k ∧ (a.take k).map nrm = (b.take k).map nrm ∧ Below w.heap.size w wr) (fun i _ => a.length - (intOf i).toNat)
    case atStart => exact ⟨0, Nat.zero_le _, rfl, rfl, Below.refl _ _⟩
    case round =>
      obtain ⟨k, hk, rfl, hs, hbel⟩ := hrel
      have HS := Lib.hid hs; clear hs
      have hsz := hbel.size
      by_cases hlt : k < a.length
      · have hltb : k < b.length := by have := Hl.out; omega
        obtain ⟨p, off, rfl, hp0, hd1, hd2⟩ := HA.out.at hlt
        obtain ⟨q, off', rfl, hq0, he1, he2⟩ := HB.out.at hltb
        have hz1 := (FA.out.at hlt).2
        have hz2 := (FB.out.at hltb).2
        have hnq := neqNorm a[k].1 a[k].2 b[k].1 b[k].2
        have HBd := Lib.hid (fun h => same_bad (a := a) (b := b) hlt hltb h)
        have HT : Hid (nrm a[k] = nrm b[k] → (a.take (k + 1)).map nrm = (b.take (k + 1)).map nrm) := Lib.hid (fun h => by rw [map_take_succ nrm a k hlt, map_take_succ nrm b k hltb, HS.out, h])
        have HD : Hid (nrm (a[k].1, a[k].2) = nrm a[k] ∧ nrm (b[k].1, b[k].2) = nrm b[k]) := Lib.hid ⟨rfl, rfl⟩
        generalize a[k].1 = A at *
        generalize a[k].2 = V at *
        generalize b[k].1 = A' at *
        generalize b[k].2 = V' at *
        have SK : Hid (∀ W : World, Below w.heap.size w W → (Below w.heap.size w W ∧ W.cell? ⟨p, off + k * 2, none⟩ = some (.string A) ∧ W.cell? ⟨p, off + k * 2 + 1, none⟩ = some (.string V) ∧ W.cell? ⟨q, off' + k * 2, none⟩ = some (.string A') ∧ W.cell? ⟨q, off' + k * 2 + 1, none⟩ = some (.string V'))) :=
          Lib.hid (fun W h => ⟨h, (h.cell (p := ⟨p, _, none⟩) hp0).trans hd1, (h.cell (p := ⟨p, _, none⟩) hp0).trans hd2, (h.cell (p := ⟨q, _, none⟩) hq0).trans he1, (h.cell (p := ⟨q, _, none⟩) hq0).trans he2⟩)
        have hbd := hbel.drew
        clear hd1 hd2 he1 he2
        have g1 : (0 : Int) ≤ (k : Int) := by omega
        have g2 : (k : Int) < (a.length : Int) := by omega
        have g3 : (k : Int) < (b.length : Int) := by omega
        cases hdec : decide (nrm (A, V) = nrm (A', V'))
        · have HX := Lib.hid (HBd.out (by rw [← HD.out.1, ← HD.out.2]; exact of_decide_eq_false hdec))
          rw [hdec] at hnq
          go_wp2_with fail
          go_region_held3 (fun W => Below w.heap.size w W ∧ W.cell? ⟨p, off + k * 2, none⟩ = some (.string A) ∧ W.cell? ⟨p, off + k * 2 + 1, none⟩ = some (.string V) ∧ W.cell? ⟨q, off' + k * 2, none⟩ = some (.string A') ∧ W.cell? ⟨q, off' + k * 2 + 1, none⟩ = some (.string V'))
            (exact SK.out _ (by assumption))
            (first | (go_at_call 60; refine (normRdn_from w _ _ _ (by assumption) (by assumption)).mono ?_; rintro e w2 ⟨rfl, hb2⟩))
          all_goals
            go_wp2
            go_ret
            exact ⟨ret_bool HX.out.symm, hb2⟩
        · have HX := Lib.hid (HT.out (by rw [← HD.out.1, ← HD.out.2]; exact of_decide_eq_true hdec))
          rw [hdec] at hnq
          go_wp2_with fail
          go_region_held3 (fun W => Below w.heap.size w W ∧ W.cell? ⟨p, off + k * 2, none⟩ = some (.string A) ∧ W.cell? ⟨p, off + k * 2 + 1, none⟩ = some (.string V) ∧ W.cell? ⟨q, off' + k * 2, none⟩ = some (.string A') ∧ W.cell? ⟨q, off' + k * 2 + 1, none⟩ = some (.string V'))
            (exact SK.out _ (by assumption))
            (first | (go_at_call 60; refine (normRdn_from w _ _ _ (by assumption) (by assumption)).mono ?_; rintro e w2 ⟨rfl, hb2⟩))
          all_goals
            go_wp2
            go_roundw
            case rel => exact ⟨k + 1, by omega, by go_num, HX.out, hb2⟩
            case measure => simp [intOf]; omega
      · have HE : Hid (sameB a b = true) := Lib.hid (by
          have h := HS.out
          have := Hl.out
          rw [List.take_of_length_le (by omega), List.take_of_length_le (by omega)] at h
          unfold sameB; exact decide_eq_true h)
        go_wp2
        go_ret
        exact ⟨ret_bool HE.out.symm, hbel⟩
  · have hne : ((a.length : Int) != (b.length : Int)) = true := by rw [bne_iff_ne]; omega
    have HE := Lib.hid (same_len hl)
    clear hl
    go_enter Try.func58, Try.ntmps58
    go_wp2
    go_ret
    exact ⟨ret_bool HE.out.symm, Below.refl _ _⟩

def dnSameB (a b : RdnL) : Bool := dnB a && dnB b && sameB a b
set_option maxHeartbeats 400000 in
theorem DnSame_any (ao bo : Option Addr) (a b : RdnL) (ca cb : Nat) (w : World) (hda : DnAt w ao a) (hdb : DnAt w bo b) (hfa : Fits a) (hfb : Fits b) :
    Calls Try.prog 21 #[.slice ao a.length ca, .slice bo b.length cb] w fun e w' => e = .returned (.bool (dnSameB a b)) ∧ Below w.heap.size w w' := by
  have HV : Hid (dnSameB a b = (dnB a && dnB b && sameB a b)) := Lib.hid rfl
  cases h1 : dnB a
  · go_enter Try.func21, Try.ntmps21
    go_wp2_with (first | (go_at_call 13; refine (DnRight_any _ _ _ _ hda hfa).mono ?_; rintro e w1 ⟨rfl, hb1⟩; rw [h1]))
    go_ret
    exact ⟨ret_bool (by rw [HV.out, h1]; rfl), hb1⟩
  · cases h2 : dnB b
    · go_enter Try.func21, Try.ntmps21
      go_wp2_with fail
      refine (DnRight_any _ _ _ _ hda hfa).mono ?_
      rintro e w1 ⟨rfl, hb1⟩
      rw [h1]
      go_wp2_with fail
      refine (DnRight_any _ _ _ _ (hdb.below hb1) hfb).mono ?_
      rintro e w2 ⟨rfl, hb2⟩
      rw [h2]
      go_wp2
      go_ret
      exact ⟨ret_bool (by rw [HV.out, h1, h2]; rfl), hb1.trans (hb2.mono hb1.size)⟩
    · go_enter Try.func21, Try.ntmps21
      go_wp2_with fail
      refine (DnRight_any _ _ _ _ hda hfa).mono ?_
      rintro e w1 ⟨rfl, hb1⟩
      rw [h1]
      go_wp2_with fail
      refine (DnRight_any _ _ _ _ (hdb.below hb1) hfb).mono ?_
      rintro e w2 ⟨rfl, hb2⟩
      rw [h2]
      have hb12 := hb1.trans (hb2.mono hb1.size)
      go_wp2_with fail
      refine (sameRdns_any _ _ _ _ _ _ _ (hda.below hb12) (hdb.below hb12) hfa hfb).mono ?_
      rintro e w3 ⟨rfl, hb3⟩
      go_wp2
      go_ret
      exact ⟨ret_bool (by rw [HV.out, h1, h2]; rfl), hb12.trans (hb3.mono hb12.size)⟩
end Go.Proofs.Ytjajpdghamecoaa
