/- Escaped values: what the texts of the program and of the specification return. -/
import Derived.Test.YtjajpdghamecoaaDn2
import Derived.Deep.Light
namespace Go.Proofs.Ytjajpdghamecoaa
open Go.RowKit

/-- does a backslash stand ahead of byte i (of n)? -/
def oddI (c : Int) (i n : Nat) : Bool := (c == 44) || (c == 43) || (c == 34) || (c == 92) || (c == 60) || (c == 62) || (c == 59) || (c == 61) || ((c == 35) && decide (i = 0)) || ((c == 32) && (decide (i = 0) || decide (i + 1 = n)))
theorem odd35 {c : Int} (h : (c == 35) = true) (k n : Nat) : decide (k = 0) = oddI c k n := by
  have hc : c = 35 := by simpa using h
  subst hc; simp [oddI]
theorem odd_first (k : Nat) : ((k : Int) == 0) = decide (k = 0) := by rw [Bool.eq_iff_iff]; simp
theorem odd_last (k n : Nat) : ((k : Int) == (n : Int) - 1) = decide (k + 1 = n) := by rw [Bool.eq_iff_iff]; simp; omega
set_option maxHeartbeats 1000000 in
theorem isEscaped_any (s : ByteArray) (k : Nat) (w : World) (hk : k < s.size) (hs : s.size ≤ maxLen) :
    Calls Try.prog 86 #[.string s, .int .i64 k] w fun e w' => e = .returned (.bool (oddI (s[k].toNat : Int) k s.size)) ∧ w = w' := by
  unfold maxLen at hs
  have E1 := Lib.hid (odd_first k)
  have E2 := Lib.hid (odd_last k s.size)
  go_enter Try.func86, Try.ntmps86
  go_wp2
  all_goals
    go_ret
    refine ⟨ret_bool ?_, rfl⟩
    go_light
    generalize (s[k].toNat : Int) = c at *
    first | (refine E1.out.trans (odd35 ?_ _ _); assumption) | (unfold oddI; simp only [*, Bool.true_or, Bool.or_true, Bool.false_or]; done) | (unfold oddI; (try simp only [E1.out, E2.out]); simp [*]; done)
set_option maxHeartbeats 1000000 in
theorem l02Odd_any (s : ByteArray) (k : Nat) (w : World) (hk : k < s.size) (hs : s.size ≤ maxLen) :
    Calls Try.prog 120 #[.string s, .int .i64 k] w fun e w' => e = .returned (.bool (oddI (s[k].toNat : Int) k s.size)) ∧ w = w' := by
  unfold maxLen at hs
  have E1 := Lib.hid (odd_first k)
  have E2 := Lib.hid (odd_last k s.size)
  go_enter Try.func120, Try.ntmps120
  go_wp2
  all_goals
    go_ret
    refine ⟨ret_bool ?_, rfl⟩
    go_light
    generalize (s[k].toNat : Int) = c at *
    first | (refine E1.out.trans (odd35 ?_ _ _); assumption) | (unfold oddI; simp only [*, Bool.true_or, Bool.or_true, Bool.false_or]; done) | (unfold oddI; (try simp only [E1.out, E2.out]); simp [*]; done)

/-- the escaped form of the first k bytes -/
def escTo (l : List UInt8) (k : Nat) : List UInt8 := (List.range k).flatMap fun i => if oddI ((l.getD i 0).toNat : Int) i l.length = true then [92, l.getD i 0] else [l.getD i 0]
def escL (l : List UInt8) : List UInt8 := escTo l l.length
def escS (s : ByteArray) : ByteArray := ⟨(escL s.data.toList).toArray⟩
theorem getD_at (s : ByteArray) (k : Nat) (h : k < s.size) : s.data.toList.getD k 0 = s[k] := by
  have h' : k < s.data.toList.length := by simpa using h
  rw [List.getD_eq_getElem?_getD, List.getElem?_eq_getElem h']; rfl
theorem escTo_succ (s : ByteArray) (k : Nat) (h : k < s.size) :
    escTo s.data.toList (k + 1) = escTo s.data.toList k ++ (if oddI (s[k].toNat : Int) k s.size = true then [92, s[k]] else [s[k]]) := by
  have e : ((s.data.toList.getD k 0 : UInt8)) = s[k] := getD_at s k h
  unfold escTo
  rw [List.range_succ, List.flatMap_append, List.flatMap_singleton, e, size_len]
theorem escTo_len (l : List UInt8) (k : Nat) : (escTo l k).length ≤ 2 * k := by
  induction k with
  | zero => simp [escTo]
  | succ k ih =>
    unfold escTo at ih ⊢
    rw [List.range_succ, List.flatMap_append, List.length_append, List.flatMap_singleton]
    split <;> simp only [List.length_cons, List.length_nil] <;> omega
theorem escS_of (s : ByteArray) (k : Nat) (h : k = s.size) : escS s = ⟨(escTo s.data.toList k).toArray⟩ := by subst h; unfold escS escL; rw [size_len]
def EscAt (s : ByteArray) (w : World) (v i : Value) (wr : World) (k : Nat) : Prop :=
  k ≤ s.size ∧ i = .int .i64 k ∧ wr.ownsRow w.heap.size 5 1 v (escTo s.data.toList k).length (bs (escTo s.data.toList k)) ∧ Below w.heap.size w wr

set_option maxRecDepth 100000 in
set_option maxHeartbeats 1000000 in
theorem escapeValue_any (s : ByteArray) (w : World) (hs : s.size ≤ 1048576) :
    Calls Try.prog 46 #[.string s] w fun e w' => e = .returned (.string (escS s)) ∧ Below w.heap.size w w' := by
  have hM : s.size ≤ maxLen := by unfold maxLen; omega
  go_enter Try.func46, Try.ntmps46
  go_wp2
  go_loopw [3, 7] (fun v i wr => ∃ k : Nat, EscAt s w v i wr k) (fun _ i _ => s.size - (intOf i).toNat)
  case atStart => exact ⟨0, Nat.zero_le _, rfl, ⟨rfl, .inl ⟨rfl, rfl⟩⟩, Below.refl _ _⟩
  case round =>
    obtain ⟨k, hk, rfl, hown, hbel⟩ := hrel
    have hlen := escTo_len s.data.toList k
    have hsz := hbel.size
    by_cases hlt : k < s.size
    · have HN := Lib.hid (escTo_succ s k hlt)
      generalize escTo s.data.toList k = pre at *
      cases ho : oddI (s[k].toNat : Int) k s.size
      · rw [ho] at HN
        go_wp2_with (first | (go_at_call 86; refine (isEscaped_any _ _ _ hlt hM).mono ?_; rintro e w' ⟨rfl, rfl⟩; rw [ho]) | (at_builtin; refine append_byte w.heap.size rfl _ _ rfl _ pre rfl hown s[k] _ rfl rfl (by omega) hsz hbel ?_; intro v' w1 hown' hbel' hsz'))
        go_roundw
        case rel => exact ⟨k + 1, by omega, by go_num, by rw [HN.out]; exact hown', hbel'⟩
        case measure => simp [intOf]; omega
      · rw [ho] at HN
        go_wp2_with (first | (go_at_call 86; refine (isEscaped_any _ _ _ hlt hM).mono ?_; rintro e w' ⟨rfl, rfl⟩; rw [ho]) | (at_builtin; refine append_byte w.heap.size rfl (.tmp 13) _ rfl _ pre rfl hown 92 _ rfl rfl (by omega) hsz hbel ?_; intro v' w1 hown' hbel' hsz') | (at_builtin; refine append_byte w.heap.size rfl (.tmp 16) _ rfl _ (pre ++ [92]) rfl hown' s[k] _ rfl rfl (by simp; omega) hsz' hbel' ?_; intro v2 w2 hown2 hbel2 hsz2))
        go_roundw
        case rel => exact ⟨k + 1, by omega, by go_num, by rw [HN.out]; simpa using hown2, hbel2⟩
        case measure => simp [intOf]; omega
    · have HE := Lib.hid (escS_of s k (by omega))
      have hcv := str_own _ _ _ _ hown
      go_wp2
      go_ret
      exact ⟨ret_str (by rw [HE.out]), hbel⟩
set_option maxRecDepth 100000 in
set_option maxHeartbeats 1000000 in
theorem l02Escape_any (s : ByteArray) (w : World) (hs : s.size ≤ 1048576) :
    Calls Try.prog 90 #[.string s] w fun e w' => e = .returned (.string (escS s)) ∧ Below w.heap.size w w' := by
  have hM : s.size ≤ maxLen := by unfold maxLen; omega
  go_enter Try.func90, Try.ntmps90
  go_wp2
  go_loopw [3, 4] (fun v i wr => ∃ k : Nat, EscAt s w v i wr k) (fun _ i _ => s.size - (intOf i).toNat)
  case atStart => exact ⟨0, Nat.zero_le _, rfl, World.ownsRow_made _ _ 0 (Nat.le_refl _) (by unfold maxLen; omega) rfl, (Below.refl _ _).alloc (Nat.le_refl _) _⟩
  case round =>
    obtain ⟨k, hk, rfl, hown, hbel⟩ := hrel
    have hlen := escTo_len s.data.toList k
    have hsz := hbel.size
    by_cases hlt : k < s.size
    · have HN := Lib.hid (escTo_succ s k hlt)
      generalize escTo s.data.toList k = pre at *
      cases ho : oddI (s[k].toNat : Int) k s.size
      · rw [ho] at HN
        go_wp2_with (first | (go_at_call 120; refine (l02Odd_any _ _ _ hlt hM).mono ?_; rintro e w' ⟨rfl, rfl⟩; rw [ho]) | (at_builtin; refine append_byte w.heap.size rfl _ _ rfl _ pre rfl hown s[k] _ rfl rfl (by omega) hsz hbel ?_; intro v' w1 hown' hbel' hsz'))
        go_roundw
        case rel => exact ⟨k + 1, by omega, by go_num, by rw [HN.out]; exact hown', hbel'⟩
        case measure => simp [intOf]; omega
      · rw [ho] at HN
        go_wp2_with (first | (go_at_call 120; refine (l02Odd_any _ _ _ hlt hM).mono ?_; rintro e w' ⟨rfl, rfl⟩; rw [ho]) | (at_builtin; refine append_byte w.heap.size rfl (.tmp 15) _ rfl _ pre rfl hown 92 _ rfl rfl (by omega) hsz hbel ?_; intro v' w1 hown' hbel' hsz') | (at_builtin; refine append_byte w.heap.size rfl (.tmp 18) _ rfl _ (pre ++ [92]) rfl hown' s[k] _ rfl rfl (by simp; omega) hsz' hbel' ?_; intro v2 w2 hown2 hbel2 hsz2))
        go_roundw
        case rel => exact ⟨k + 1, by omega, by go_num, by rw [HN.out]; simpa using hown2, hbel2⟩
        case measure => simp [intOf]; omega
    · have HE := Lib.hid (escS_of s k (by omega))
      have hcv := str_own _ _ _ _ hown
      go_wp2
      go_ret
      exact ⟨ret_str (by rw [HE.out]), hbel⟩
end Go.Proofs.Ytjajpdghamecoaa
