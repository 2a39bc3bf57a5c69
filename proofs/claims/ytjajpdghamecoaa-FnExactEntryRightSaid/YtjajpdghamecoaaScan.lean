/- Reading names: what the small functions of the program return. -/
import Derived.Test.YtjajpdghamecoaaScanMath
import Derived.Test.YtjajpdghamecoaaShelf
import Derived.Deep.QuietTactic
import Derived.BigQuiet
namespace Go.Proofs.Ytjajpdghamecoaa
open Go.RowKit

theorem drop_at (s : ByteArray) (k : Nat) (h : k < s.size) : s.data.toList.drop k = s[k] :: s.data.toList.drop (k + 1) := by
  rw [List.drop_eq_getElem_cons (by simpa using h)]; rfl
theorem ret_num {k : IntKind} {a b : Nat} (h : a = b) : Ending.returned (.int k (a : Int)) = .returned (.int k (b : Int)) := by rw [h]
theorem u8_ne {c : UInt8} {n : Nat} (h : ¬ (c.toNat : Int) = n) : c ≠ UInt8.ofNat n ∨ 256 ≤ n := by
  by_cases hn : 256 ≤ n
  · exact .inr hn
  · left; intro e; subst e; apply h; simp; omega
theorem endF_stop {c : UInt8} {l : List UInt8} (h : c = 44) : endF false (c :: l) = 0 := by rw [endF, if_pos ⟨h, rfl⟩]
theorem endF_go {b : Bool} {c : UInt8} {l : List UInt8} (h : ¬ (c = 44 ∧ b = false)) : endF b (c :: l) = 1 + endF ((c == 92) && !b) l := by rw [endF, if_neg h]
def EndAt (s : ByteArray) (b : Bool) (k : Nat) : Prop := endF false s.data.toList = k + endF b (s.data.toList.drop k)
theorem EndAt.step {s : ByteArray} {b : Bool} {k : Nat} (h : EndAt s b k) (hk : k < s.size) (hc : ¬ (s[k] = 44 ∧ b = false)) (b' : Bool) (hb : b' = ((s[k] == 92) && !b)) : EndAt s b' (k + 1) := by
  unfold EndAt at h ⊢
  rw [h, drop_at s k hk, endF_go hc, ← hb]; omega
set_option maxHeartbeats 1000000 in
theorem rdnEnd_any (s : ByteArray) (w : World) (hs : s.size ≤ 1048576) :
    Calls Try.prog 94 #[.string s] w fun e w' => e = .returned (.int .i64 (endF false s.data.toList : Nat)) ∧ w = w' := by
  go_enter Try.func94, Try.ntmps94
  go_wp2
  go_loop [3, 7] (fun t i => ∃ (k : Nat) (b : Bool), k ≤ s.size ∧ i = .int .i64 k ∧ t = .bool b ∧ EndAt s b k) (fun _ i => s.size - (intOf i).toNat)
  case atStart => exact ⟨0, false, Nat.zero_le _, rfl, rfl, by unfold EndAt; simp⟩
  case round =>
    obtain ⟨k, b, hk, rfl, rfl, hE⟩ := hrel
    have HE := Lib.hid hE; clear hE
    by_cases hlt : k < s.size
    · by_cases h44 : (s[k].toNat : Int) = 44
      · have hb1 : ((s[k].toNat : Int) == 44) = true := by rw [h44]; rfl
        have hb2 : ((s[k].toNat : Int) == 92) = false := by rw [h44]; rfl
        have e44 := Lib.hid (nat_of_u8 (n := 44) h44 (by omega))
        clear h44
        cases b
        · have HR : Hid (k = endF false s.data.toList) := Lib.hid (by
            have := HE.out; unfold EndAt at this
            rw [drop_at s k hlt, endF_stop e44.out] at this; omega)
          go_wp2
          go_ret
          exact ⟨ret_num HR.out, rfl⟩
        · have HN := Lib.hid (HE.out.step hlt (by simp) false (by simp))
          go_wp2
          go_round
          case rel => exact ⟨k + 1, false, by omega, by go_num, rfl, HN.out⟩
          case measure => simp [intOf]; omega
      · have hb1 : ((s[k].toNat : Int) == 44) = false := by rw [beq_eq_false_iff_ne]; exact h44
        have n44 : s[k] ≠ 44 := fun e => h44 (by rw [e]; rfl)
        by_cases h92 : (s[k].toNat : Int) = 92
        · have hb2 : ((s[k].toNat : Int) == 92) = true := by rw [h92]; rfl
          have e92 : s[k] = 92 := nat_of_u8 (n := 92) h92 (by omega)
          have HN := Lib.hid (HE.out.step hlt (fun h => n44 h.1) (!b) (by rw [e92]; simp))
          clear h44 h92 n44 e92
          cases b
          all_goals
            go_wp2
            go_round
            case rel => exact ⟨k + 1, _, by omega, by go_num, rfl, HN.out⟩
            case measure => simp [intOf]; omega
        · have hb2 : ((s[k].toNat : Int) == 92) = false := by rw [beq_eq_false_iff_ne]; exact h92
          have n92 : s[k] ≠ 92 := fun e => h92 (by rw [e]; rfl)
          have HN := Lib.hid (HE.out.step hlt (fun h => n44 h.1) false (by simp [n92]))
          clear h44 h92 n44 n92
          go_wp2
          go_round
          case rel => exact ⟨k + 1, false, by omega, by go_num, rfl, HN.out⟩
          case measure => simp [intOf]; omega
    · have HR : Hid (s.size = endF false s.data.toList) := Lib.hid (by
        have := HE.out; unfold EndAt at this
        rw [List.drop_eq_nil_of_le (by simp; omega), endF] at this; omega)
      go_wp2
      go_ret
      exact ⟨ret_num HR.out, rfl⟩
theorem unescF_skip {c : UInt8} {l : List UInt8} (h : c = 92) : unescF false (c :: l) = unescF true l := by rw [unescF, if_pos (by simp [h])]
theorem unescF_add {b : Bool} {c : UInt8} {l : List UInt8} (h : ¬ (c = 92 ∧ b = false)) : unescF b (c :: l) = c :: unescF false l := by
  rw [unescF, if_neg]
  intro e; apply h; simpa using e
def UnAt (s : ByteArray) (pre : List UInt8) (b : Bool) (k : Nat) : Prop := unescF false s.data.toList = pre ++ unescF b (s.data.toList.drop k) ∧ pre.length ≤ k
set_option maxRecDepth 100000 in
set_option maxHeartbeats 1000000 in
theorem unescapeValue_any (s : ByteArray) (w : World) (hs : s.size ≤ 1048576) :
    Calls Try.prog 96 #[.string s] w fun e w' => e = .returned (.string (toS (unescF false s.data.toList))) ∧ Below w.heap.size w w' := by
  go_enter Try.func96, Try.ntmps96
  go_wp2
  go_loopw [3, 4, 8] (fun v t i wr => ∃ (k : Nat) (b : Bool) (pre : List UInt8), k ≤ s.size ∧ i = .int .i64 k ∧ t = .bool b ∧ UnAt s pre b k ∧ wr.ownsRow w.heap.size 5 1 v pre.length (bs pre) ∧ Below w.heap.size w wr) (fun _ _ i _ => s.size - (intOf i).toNat)
  case atStart => exact ⟨0, false, [], Nat.zero_le _, rfl, rfl, ⟨by simp, Nat.le_refl _⟩, ⟨rfl, .inl ⟨rfl, rfl⟩⟩, Below.refl _ _⟩
  case round =>
    obtain ⟨k, b, pre, hk, rfl, rfl, hU, hown, hbel⟩ := hrel
    have hpl := hU.2
    have HU := Lib.hid hU; clear hU
    have hsz := hbel.size
    by_cases hlt : k < s.size
    · by_cases h92 : (s[k].toNat : Int) = 92
      · have hb2 : ((s[k].toNat : Int) == 92) = true := by rw [h92]; rfl
        have e92 := Lib.hid (nat_of_u8 (n := 92) h92 (by omega))
        clear h92
        cases b
        · have HN : Hid (UnAt s pre true (k + 1)) := Lib.hid ⟨by rw [HU.out.1, drop_at s k hlt, unescF_skip e92.out], by omega⟩
          go_wp2
          go_roundw
          case rel => exact ⟨k + 1, true, pre, by omega, by go_num, rfl, HN.out, hown, hbel⟩
          case measure => simp [intOf]; omega
        · have HN : Hid (UnAt s (pre ++ [s[k]]) false (k + 1)) := Lib.hid ⟨by rw [HU.out.1, drop_at s k hlt, unescF_add (by simp)]; simp, by simp; omega⟩
          go_wp2_with (first | (at_builtin; refine append_byte w.heap.size rfl _ _ rfl _ pre rfl hown s[k] _ rfl rfl (by omega) hsz hbel ?_; intro v' w1 hown' hbel' hsz') | (fail "none"))
          go_roundw
          case rel => exact ⟨k + 1, false, _, by omega, by go_num, rfl, HN.out, hown', hbel'⟩
          case measure => simp [intOf]; omega
      · have hb2 : ((s[k].toNat : Int) == 92) = false := by rw [beq_eq_false_iff_ne]; exact h92
        have n92 : s[k] ≠ 92 := fun e => h92 (by rw [e]; rfl)
        have HN : Hid (UnAt s (pre ++ [s[k]]) false (k + 1)) := Lib.hid ⟨by rw [HU.out.1, drop_at s k hlt, unescF_add (fun h => n92 h.1)]; simp, by simp; omega⟩
        clear h92 n92
        go_wp2_with (first | (at_builtin; refine append_byte w.heap.size rfl _ _ rfl _ pre rfl hown s[k] _ rfl rfl (by omega) hsz hbel ?_; intro v' w1 hown' hbel' hsz') | (fail "none"))
        go_roundw
        case rel => exact ⟨k + 1, false, _, by omega, by go_num, rfl, HN.out, hown', hbel'⟩
        case measure => simp [intOf]; omega
    · have HR : Hid (toS (unescF false s.data.toList) = ⟨pre.toArray⟩) := Lib.hid (by
        have := HU.out.1
        rw [List.drop_eq_nil_of_le (by simp; omega), unescF, List.append_nil] at this
        unfold toS; rw [this])
      have hcv := str_own _ _ _ _ hown
      go_wp2
      go_ret
      exact ⟨ret_str HR.out.symm, hbel⟩
theorem idx (l : List UInt8) : (Lib.indexByte l 61 = -1 ∧ l.takeWhile (· != 61) = l ∧ l.dropWhile (· != 61) = []) ∨
    ∃ k : Nat, k < l.length ∧ Lib.indexByte l 61 = (k : Int) ∧ l.take k = l.takeWhile (· != 61) ∧ l.drop k = l.dropWhile (· != 61) := by
  induction l with
  | nil => left; exact ⟨rfl, rfl, rfl⟩
  | cons c l ih =>
    by_cases hc : c = 61
    · right; subst hc; exact ⟨0, by simp, by simp [Lib.indexByte], by simp, by simp⟩
    · have hb : (c != 61) = true := by simpa using hc
      have hb' : (c == 61) = false := by simpa using hc
      rcases ih with ⟨h1, h2, h3⟩ | ⟨k, h1, h2, h3, h4⟩
      · left
        refine ⟨by rw [Lib.indexByte, hb', h1]; rfl, ?_, ?_⟩
        · rw [List.takeWhile_cons, hb, if_pos rfl, h2]
        · rw [List.dropWhile_cons, hb, if_pos rfl, h3]
      · right
        refine ⟨k + 1, by simp; omega, ?_, ?_, ?_⟩
        · rw [Lib.indexByte, hb', h2]
          have : ((k : Int) == -1) = false := by rw [beq_eq_false_iff_ne]; omega
          rw [this]; simp
        · rw [List.takeWhile_cons, hb, if_pos rfl, List.take_succ_cons, h3]
        · rw [List.dropWhile_cons, hb, if_pos rfl, List.drop_succ_cons, h4]
end Go.Proofs.Ytjajpdghamecoaa
