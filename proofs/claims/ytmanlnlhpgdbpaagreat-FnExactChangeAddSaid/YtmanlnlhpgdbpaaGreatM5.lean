/- Merged texts: Scan, Scan2, Scan3, Cut, Cut2, Rdn2, JoinD, JoinD2, Read, Read2, Read3, DnBack, ChM, EntR2, Br. -/
import Derived.Test.YtmanlnlhpgdbpaaGreatM4
import Derived.Deep.QuietTactic
import Derived.BigQuiet
import Derived.Test.YtmanlnlhpgdbpaaGreatM3
import Derived.Test.YtmanlnlhpgdbpaaGreatM2
/- Reading names: what the small functions of the program return. -/
namespace Go.Proofs.YtmanlnlhpgdbpaaGreat
open Go.RowKit

theorem drop_at (s : ByteArray) (k : Nat) (h : k < s.size) : s.data.toList.drop k = s[k] :: s.data.toList.drop (k + 1) := by
  rw [List.drop_eq_getElem_cons (by simpa using h)]; rfl
theorem ret_num {k : IntKind} {a b : Nat} (h : a = b) : Ending.returned (.int k (a : Int)) = .returned (.int k (b : Int)) := by rw [h]
theorem u8_ne {c : UInt8} {n : Nat} (h : ¬ (c.toNat : Int) = n) : c ≠ UInt8.ofNat n ∨ 256 ≤ n := by
  by_cases hn : 256 ≤ n
  · exact .inr hn
  · left; intro e; subst e; apply h; simp; omega
theorem endF_stop {c : UInt8} {l : List UInt8} (h : c = 44) : endF false (c :: l) = 0 := by rw [endF, if_pos ⟨h, rfl⟩]
theorem endF_go {b : Bool} {c : UInt8} {l : List UInt8} (h : ¬ (c = 44 ∧ b = false)) : endF b (c :: l) = 1 + endF ((c == 92) && !b) l := by rw [endF, if_neg h]
def EndAt (s : ByteArray) (b : Bool) (k : Nat) : Prop := endF false s.data.toList = k + endF b (s.data.toList.drop k)
theorem EndAt.step {s : ByteArray} {b : Bool} {k : Nat} (h : EndAt s b k) (hk : k < s.size) (hc : ¬ (s[k] = 44 ∧ b = false)) (b' : Bool) (hb : b' = ((s[k] == 92) && !b)) : EndAt s b' (k + 1) := by
  unfold EndAt at h ⊢
  rw [h, drop_at s k hk, endF_go hc, ← hb]; omega
set_option maxHeartbeats 1000000 in
theorem rdnEnd_any (s : ByteArray) (w : World) (hs : s.size ≤ 1048576) :
    Calls Tryz.prog 104 #[.string s] w fun e w' => e = .returned (.int .i64 (endF false s.data.toList : Nat)) ∧ w = w' := by
  go_enter Tryz.func104, Tryz.ntmps104
  go_wp2
  go_loop [3, 7] (fun t i => ∃ (k : Nat) (b : Bool), k ≤ s.size ∧ i = .int .i64 k ∧ t = .bool b ∧ EndAt s b k) (fun _ i => s.size - (intOf i).toNat)
  case atStart => exact ⟨0, false, Nat.zero_le _, rfl, rfl, by unfold EndAt; simp⟩
  case round =>
    obtain ⟨k, b, hk, rfl, rfl, hE⟩ := hrel
    have HE := Lib.hid hE; clear hE
    by_cases hlt : k < s.size
    · by_cases h44 : (s[k].toNat : Int) = 44
      · have hb1 : ((s[k].toNat : Int) == 44) = true := by rw [h44]; rfl
        have hb2 : ((s[k].toNat : Int) == 92) = false := by rw [h44]; rfl
        have e44 := Lib.hid (nat_of_u8 (n := 44) h44 (by omega))
        clear h44
        cases b
        · have HR : Hid (k = endF false s.data.toList) := Lib.hid (by
            have := HE.out; unfold EndAt at this
            rw [drop_at s k hlt, endF_stop e44.out] at this; omega)
          go_wp2
          go_ret
          exact ⟨ret_num HR.out, rfl⟩
        · have HN := Lib.hid (HE.out.step hlt (by simp) false (by simp))
          go_wp2
          go_round
          case rel => exact ⟨k + 1, false, by omega, by go_num, rfl, HN.out⟩
          case measure => simp [intOf]; omega
      · have hb1 : ((s[k].toNat : Int) == 44) = false := by rw [beq_eq_false_iff_ne]; exact h44
        have n44 : s[k] ≠ 44 := fun e => h44 (by rw [e]; rfl)
        by_cases h92 : (s[k].toNat : Int) = 92
        · have hb2 : ((s[k].toNat : Int) == 92) = true := by rw [h92]; rfl
          have e92 : s[k] = 92 := nat_of_u8 (n := 92) h92 (by omega)
          have HN := Lib.hid (HE.out.step hlt (fun h => n44 h.1) (!b) (by rw [e92]; simp))
          clear h44 h92 n44 e92
          cases b
          all_goals
            go_wp2
            go_round
            case rel => exact ⟨k + 1, _, by omega, by go_num, rfl, HN.out⟩
            case measure => simp [intOf]; omega
        · have hb2 : ((s[k].toNat : Int) == 92) = false := by rw [beq_eq_false_iff_ne]; exact h92
          have n92 : s[k] ≠ 92 := fun e => h92 (by rw [e]; rfl)
          have HN := Lib.hid (HE.out.step hlt (fun h => n44 h.1) false (by simp [n92]))
          clear h44 h92 n44 n92
          go_wp2
          go_round
          case rel => exact ⟨k + 1, false, by omega, by go_num, rfl, HN.out⟩
          case measure => simp [intOf]; omega
    · have HR : Hid (s.size = endF false s.data.toList) := Lib.hid (by
        have := HE.out; unfold EndAt at this
        rw [List.drop_eq_nil_of_le (by simp; omega), endF] at this; omega)
      go_wp2
      go_ret
      exact ⟨ret_num HR.out, rfl⟩
theorem unescF_skip {c : UInt8} {l : List UInt8} (h : c = 92) : unescF false (c :: l) = unescF true l := by rw [unescF, if_pos (by simp [h])]
theorem unescF_add {b : Bool} {c : UInt8} {l : List UInt8} (h : ¬ (c = 92 ∧ b = false)) : unescF b (c :: l) = c :: unescF false l := by
  rw [unescF, if_neg]
  intro e; apply h; simpa using e
def UnAt (s : ByteArray) (pre : List UInt8) (b : Bool) (k : Nat) : Prop := unescF false s.data.toList = pre ++ unescF b (s.data.toList.drop k) ∧ pre.length ≤ k
set_option maxRecDepth 100000 in
set_option maxHeartbeats 1000000 in
theorem unescapeValue_any (s : ByteArray) (w : World) (hs : s.size ≤ 1048576) :
    Calls Tryz.prog 106 #[.string s] w fun e w' => e = .returned (.string (toS (unescF false s.data.toList))) ∧ Below w.heap.size w w' := by
  go_enter Tryz.func106, Tryz.ntmps106
  go_wp2
  go_loopw [3, 4, 8] (fun v t i wr => ∃ (k : Nat) (b : Bool) (pre : List UInt8), k ≤ s.size ∧ i = .int .i64 k ∧ t = .bool b ∧ UnAt s pre b k ∧ wr.ownsRow w.heap.size 5 1 v pre.length (bs pre) ∧ Below w.heap.size w wr) (fun _ _ i _ => s.size - (intOf i).toNat)
  case atStart => exact ⟨0, false, [], Nat.zero_le _, rfl, rfl, ⟨by simp, Nat.le_refl _⟩, ⟨rfl, .inl ⟨rfl, rfl⟩⟩, Below.refl _ _⟩
  case round =>
    obtain ⟨k, b, pre, hk, rfl, rfl, hU, hown, hbel⟩ := hrel
    have hpl := hU.2
    have HU := Lib.hid hU; clear hU
    have hsz := hbel.size
    by_cases hlt : k < s.size
    · by_cases h92 : (s[k].toNat : Int) = 92
      · have hb2 : ((s[k].toNat : Int) == 92) = true := by rw [h92]; rfl
        have e92 := Lib.hid (nat_of_u8 (n := 92) h92 (by omega))
        clear h92
        cases b
        · have HN : Hid (UnAt s pre true (k + 1)) := Lib.hid ⟨by rw [HU.out.1, drop_at s k hlt, unescF_skip e92.out], by omega⟩
          go_wp2
          go_roundw
          case rel => exact ⟨k + 1, true, pre, by omega, by go_num, rfl, HN.out, hown, hbel⟩
          case measure => simp [intOf]; omega
        · have HN : Hid (UnAt s (pre ++ [s[k]]) false (k + 1)) := Lib.hid ⟨by rw [HU.out.1, drop_at s k hlt, unescF_add (by simp)]; simp, by simp; omega⟩
          go_wp2_with (first | (at_builtin; refine append_byte w.heap.size rfl _ _ rfl _ pre rfl hown s[k] _ rfl rfl (by omega) hsz hbel ?_; intro v' w1 hown' hbel' hsz') | (fail "none"))
          go_roundw
          case rel => exact ⟨k + 1, false, _, by omega, by go_num, rfl, HN.out, hown', hbel'⟩
          case measure => simp [intOf]; omega
      · have hb2 : ((s[k].toNat : Int) == 92) = false := by rw [beq_eq_false_iff_ne]; exact h92
        have n92 : s[k] ≠ 92 := fun e => h92 (by rw [e]; rfl)
        have HN : Hid (UnAt s (pre ++ [s[k]]) false (k + 1)) := Lib.hid ⟨by rw [HU.out.1, drop_at s k hlt, unescF_add (fun h => n92 h.1)]; simp, by simp; omega⟩
        clear h92 n92
        go_wp2_with (first | (at_builtin; refine append_byte w.heap.size rfl _ _ rfl _ pre rfl hown s[k] _ rfl rfl (by omega) hsz hbel ?_; intro v' w1 hown' hbel' hsz') | (fail "none"))
        go_roundw
        case rel => exact ⟨k + 1, false, _, by omega, by go_num, rfl, HN.out, hown', hbel'⟩
        case measure => simp [intOf]; omega
    · have HR : Hid (toS (unescF false s.data.toList) = ⟨pre.toArray⟩) := Lib.hid (by
        have := HU.out.1
        rw [List.drop_eq_nil_of_le (by simp; omega), unescF, List.append_nil] at this
        unfold toS; rw [this])
      have hcv := str_own _ _ _ _ hown
      go_wp2
      go_ret
      exact ⟨ret_str HR.out.symm, hbel⟩
theorem idx (l : List UInt8) : (Lib.indexByte l 61 = -1 ∧ l.takeWhile (· != 61) = l ∧ l.dropWhile (· != 61) = []) ∨
    ∃ k : Nat, k < l.length ∧ Lib.indexByte l 61 = (k : Int) ∧ l.take k = l.takeWhile (· != 61) ∧ l.drop k = l.dropWhile (· != 61) := by
  induction l with
  | nil => left; exact ⟨rfl, rfl, rfl⟩
  | cons c l ih =>
    by_cases hc : c = 61
    · right; subst hc; exact ⟨0, by simp, by simp [Lib.indexByte], by simp, by simp⟩
    · have hb : (c != 61) = true := by simpa using hc
      have hb' : (c == 61) = false := by simpa using hc
      rcases ih with ⟨h1, h2, h3⟩ | ⟨k, h1, h2, h3, h4⟩
      · left
        refine ⟨by rw [Lib.indexByte, hb', h1]; rfl, ?_, ?_⟩
        · rw [List.takeWhile_cons, hb, if_pos rfl, h2]
        · rw [List.dropWhile_cons, hb, if_pos rfl, h3]
      · right
        refine ⟨k + 1, by simp; omega, ?_, ?_, ?_⟩
        · rw [Lib.indexByte, hb', h2]
          have : ((k : Int) == -1) = false := by rw [beq_eq_false_iff_ne]; omega
          rw [this]; simp
        · rw [List.takeWhile_cons, hb, if_pos rfl, List.take_succ_cons, h3]
        · rw [List.dropWhile_cons, hb, if_pos rfl, List.drop_succ_cons, h4]
end Go.Proofs.YtmanlnlhpgdbpaaGreat
/- Reading names: scanDn of the program. -/
namespace Go.Proofs.YtmanlnlhpgdbpaaGreat
open Go.RowKit

def att (l : List UInt8) : List UInt8 := l.takeWhile (· != 61)
def vlu (l : List UInt8) : List UInt8 := (l.dropWhile (· != 61)).drop 1
def CutAt (s : ByteArray) (e : Ending) : Prop := ∃ b : Bool, e = .returned (.tuple #[.string (toS (att s.data.toList)), .string (toS (vlu s.data.toList)), .bool b])
theorem ext_take (s : ByteArray) (k : Nat) : s.extract 0 k = toS (s.data.toList.take k) := by
  apply ByteArray.ext; apply Array.toList_inj.1; rw [extract_list]; simp [toS]
theorem ext_drop (s : ByteArray) (k : Nat) : s.extract k s.size = toS (s.data.toList.drop k) := by
  apply ByteArray.ext; apply Array.toList_inj.1; rw [extract_list, List.take_of_length_le (by simp)]; simp [toS]
theorem below_drewN (w : World) (n : Nat) : Below w.heap.size w (w.drewN n) := ⟨rfl, rfl, rfl, Nat.le_refl _, fun _ _ => rfl⟩
set_option maxHeartbeats 1000000 in
theorem cutIn_any (s : ByteArray) (w : World) (hs : s.size ≤ 1048576) :
    Calls Tryz.prog 115 #[.string s, .string ⟨#[61]⟩] w fun e w' => CutAt s e ∧ Below w.heap.size w w' := by
  rcases idx s.data.toList with ⟨h1, h2, h3⟩ | ⟨k, hk, h1, h2, h3⟩
  · have HR : Hid (toS (att s.data.toList) = s ∧ toS (vlu s.data.toList) = ByteArray.empty) := Lib.hid ⟨by unfold att; rw [h2, toS_self], by unfold vlu; rw [h3]; rfl⟩
    have HI := Lib.hid (Tryz.stringslite_Index_one s 61 w)
    rw [h1] at HI
    clear h1 h2 h3
    go_enter Tryz.func115, Tryz.ntmps115
    go_wp2_with fail
    refine HI.out.mono ?_
    rintro e w1 ⟨rfl, hw⟩
    subst hw
    go_wp2
    go_ret3
    exact ⟨⟨false, by rw [HR.out.1, HR.out.2]; rfl⟩, Below.refl _ _⟩
  · have hk' : k < s.size := by simpa using hk
    have HR : Hid (toS (att s.data.toList) = s.extract 0 k ∧ toS (vlu s.data.toList) = s.extract (k + 1) s.size) := Lib.hid ⟨by unfold att; rw [← h2, ext_take], by unfold vlu; rw [← h3, List.drop_drop, ext_drop]⟩
    have HI := Lib.hid (Tryz.stringslite_Index_one s 61 w)
    rw [h1] at HI
    clear h1 h2 h3 hk
    have g1 : (0 : Int) ≤ (k : Int) := by omega
    have g2 : (k : Int) ≤ (s.size : Int) := by omega
    have g3 : (0 : Int) ≤ (k : Int) + 1 := by omega
    have g4 : (k : Int) + 1 ≤ (s.size : Int) := by omega
    have g5 : ((k : Int) + 1).toNat = k + 1 := by omega
    go_enter Tryz.func115, Tryz.ntmps115
    go_wp2_with fail
    refine HI.out.mono ?_
    rintro e w1 ⟨rfl, hw⟩
    subst hw
    go_wp2
    have g6 : IntKind.i64.wrap ((k : Int) + 1) = (k : Int) + 1 := IntWalk.i64_in _ (by omega)
    go_quiet (fail)
    go_wp2
    go_ret3
    exact ⟨⟨true, by rw [HR.out.1, HR.out.2]; rfl⟩, below_drewN _ _⟩
set_option maxHeartbeats 400000 in
theorem cut_any (s : ByteArray) (w : World) (hs : s.size ≤ 1048576) :
    Calls Tryz.prog 105 #[.string s, .string ⟨#[61]⟩] w fun e w' => CutAt s e ∧ Below w.heap.size w w' := by
  go_enter Tryz.func105, Tryz.ntmps105
  go_wp2_with fail
  refine (cutIn_any s w hs).mono ?_
  rintro e w1 ⟨⟨b, rfl⟩, hb1⟩
  go_wp2
  go_ret3
  exact ⟨⟨b, rfl⟩, hb1⟩
end Go.Proofs.YtmanlnlhpgdbpaaGreat
/- Reading names: scanDn of the program. -/
namespace Go.Proofs.YtmanlnlhpgdbpaaGreat
open Go.RowKit

def strOf : Value → ByteArray
  | .string s => s
  | _ => ByteArray.empty
theorem takeWhile_len (l : List UInt8) : (att l).length ≤ l.length := by unfold att; exact (List.takeWhile_sublist _).length_le
theorem vlu_len (l : List UInt8) : (vlu l).length ≤ l.length := by
  unfold vlu
  rw [List.length_drop]
  have : (l.dropWhile (· != 61)).length ≤ l.length := (List.dropWhile_sublist _).length_le
  omega
theorem scan_step (s : ByteArray) (h : 0 < s.size) : scanL s.data.toList = [rdn1 (s.data.toList.take (endF false s.data.toList))] ++ scanL (s.data.toList.drop (endF false s.data.toList + 1)) := by
  rw [scanL_cons (by intro e; have := size_len s; rw [e] at this; simp at this; omega)]; rfl
set_option maxRecDepth 100000 in
set_option maxHeartbeats 1000000 in
theorem scanDn_any (t : ByteArray) (w : World) (ht : t.size ≤ 8000) :
    Calls Tryz.prog 86 #[.string t] w fun e w' => (∃ v, e = .returned v ∧ w'.ownsRow w.heap.size 77 2 v (scanL t.data.toList).length (rs (scanL t.data.toList))) ∧ Below w.heap.size w w' := by
  have hsl := scanL_len t.data.toList
  rw [size_len] at hsl
  go_enter Tryz.func86, Tryz.ntmps86
  go_wp2
  go_loopw [0, 3] (fun u v wr => ∃ (s : ByteArray) (pre : RdnL), u = .string s ∧ s.size ≤ 8000 ∧ scanL t.data.toList = pre ++ scanL s.data.toList ∧ wr.ownsRow w.heap.size 77 2 v pre.length (rs pre) ∧ Below w.heap.size w wr) (fun u _ _ => (strOf u).size)
  case atStart => exact ⟨t, [], rfl, ht, rfl, ⟨rfl, .inl ⟨rfl, rfl⟩⟩, Below.refl _ _⟩
  case round =>
    obtain ⟨s, pre, rfl, hs, hS, hown, hbel⟩ := hrel
    have hpl : pre.length ≤ 8000 := by
      have := congrArg List.length hS
      rw [List.length_append] at this; omega
    have HS := Lib.hid hS; clear hS
    have HO := Lib.hid hown; clear hown
    have hsz := hbel.size
    by_cases h0 : 0 < s.size
    · have hle := endF_le false s.data.toList
      rw [size_len] at hle
      have HST := Lib.hid (scan_step s h0)
      have HEn := Lib.hid (fun w => rdnEnd_any s w (by omega))
      generalize hn : endF false s.data.toList = n at *
      clear hn
      have g1 : (0 : Int) ≤ (n : Int) := by omega
      have g2 : (n : Int) ≤ (s.size : Int) := by omega
      go_wp2_with fail
      refine (HEn.out _).mono ?_
      rintro e w1 ⟨rfl, rfl⟩
      have HX := Lib.hid (ext_take s n)
      have hxs : (s.extract 0 n).size ≤ 1048576 := by rw [HX.out, toS_size, List.length_take]; omega
      have HC := Lib.hid (fun w => cut_any (s.extract 0 n) w hxs)
      go_wp2_with fail
      refine (HC.out _).mono ?_
      rintro e w2 ⟨⟨fl, rfl⟩, hb2⟩
      have B2 := Lib.hid (hbel.trans (hb2.mono hsz))
      have HO2 := Lib.hid (own_below HO.out hb2)
      clear hb2
      have HA : Hid ((s.extract 0 n).data.toList = s.data.toList.take n) := Lib.hid (by rw [HX.out, toS_list])
      have ha : (toS (att (s.extract 0 n).data.toList)).size ≤ 1000000 := by
        rw [toS_size]; refine Nat.le_trans (takeWhile_len _) ?_; rw [size_len]; rw [HX.out, toS_size, List.length_take]; omega
      have hv : (toS (vlu (s.extract 0 n).data.toList)).size ≤ 1048576 := by
        rw [toS_size]; refine Nat.le_trans (vlu_len _) ?_; rw [size_len]; exact hxs
      have HR : Hid (rdn1 (s.data.toList.take n) = (toS (att (s.extract 0 n).data.toList), toS (unescF false (toS (vlu (s.extract 0 n).data.toList)).data.toList))) := Lib.hid (by rw [toS_list, HA.out]; rfl)
      generalize toS (att (s.extract 0 n).data.toList) = A at *
      generalize toS (vlu (s.extract 0 n).data.toList) = V at *
      go_wp2_with fail
      refine (concat_one A w2 ha).mono ?_
      rintro e w3 ⟨rfl, hb3⟩
      have B3 := Lib.hid (B2.out.trans (hb3.mono B2.out.size))
      have HO3 := Lib.hid (own_below HO2.out hb3)
      clear hb3
      go_wp2_with fail
      refine (unescapeValue_any V w3 hv).mono ?_
      rintro e w4 ⟨rfl, hb4⟩
      have B4 := Lib.hid (B3.out.trans (hb4.mono B3.out.size))
      have HO4 := Lib.hid (own_below HO3.out hb4)
      clear hb4
      generalize toS (unescF false V.data.toList) = U at *
      have HD : Hid ((s.extract (min ((n : Int) + 1) (s.size : Int)).toNat s.size).data.toList = s.data.toList.drop (n + 1)) := Lib.hid (by
        rw [ext_drop, toS_list]
        by_cases he : n < s.size
        · rw [show (min ((n : Int) + 1) (s.size : Int)).toNat = n + 1 by omega]
        · rw [List.drop_eq_nil_of_le (by rw [size_len]; omega), List.drop_eq_nil_of_le (by rw [size_len]; omega)])
      have HL : Hid ((s.extract (min ((n : Int) + 1) (s.size : Int)).toNat s.size).size < s.size) := Lib.hid (by
        rw [← size_len, HD.out, List.length_drop, size_len]; omega)
      go_wp2_with (first | (at_builtin; refine append_rdn w.heap.size rfl _ _ rfl _ pre rfl HO4.out (A, U) rfl (by omega) B4.out.size B4.out ?_; intro v' w5 hown5 hbel5 hsz5; have HO5 := Lib.hid hown5; clear hown5) | (fail "none"))
      refine ⟨⟨_, pre ++ [(A, U)], rfl, by have := HL.out; omega, ?_, HO5.out, hbel5⟩, HL.out⟩
      rw [HS.out, HST.out, HR.out, HD.out, List.append_assoc]
    · have HE : Hid (scanL t.data.toList = pre) := Lib.hid (by
        rw [HS.out, List.eq_nil_of_length_eq_zero (show s.data.toList.length = 0 by rw [size_len]; omega), scanL_nil, List.append_nil])
      go_wp2
      go_ret
      exact ⟨⟨_, rfl, by rw [HE.out]; exact HO.out⟩, hbel⟩
end Go.Proofs.YtmanlnlhpgdbpaaGreat
/- Reading names: l02Cut of the specification. -/
namespace Go.Proofs.YtmanlnlhpgdbpaaGreat
open Go.RowKit
attribute [local go_sem ↓] Go.wp_at_zero Go.wp_at_succ

/-- rows of different elements lie in different blocks -/
theorem own_apart {w : World} {B e e' z z' n n' : Nat} {v u : Value} {xs ys : List Value} (h : w.ownsRow B e z v n xs) (g : w.ownsRow B e' z' u n' ys) (hne : e ≠ e') : u.ownBlock = none ∨ u.ownBlock ≠ v.ownBlock := by
  rcases g.2 with ⟨rfl, _⟩ | ⟨k, cap, cur, rfl, _, hk, _⟩
  · exact .inl rfl
  · right
    rcases h.2 with ⟨rfl, _⟩ | ⟨k', cap', cur', rfl, _, hk', _⟩
    · simp [Value.ownBlock]
    · intro hh
      have : k = k' := by simpa [Value.ownBlock] using hh
      subst this
      rw [hk] at hk'
      injection hk' with hk'
      injection hk' with _ ht
      exact hne ht.symm
section
variable {ops : Array Oper} {rest : List Oper} {o : Oper} {a : Act} {Q : Exit → Act → World → Prop} {K : Act → World → Prop} {E : Prop} {w0 wr : World}
theorem append_byte2 (B : Nat) (hgd : o.guard = none) (s x : Operand)
    (ho : o.op = .call { callee := .builtin .append, args := #[s, x], argTypes := #[115, 115] }) (v : Value) (pre : List UInt8) (hs : a.eval s = v) (hown : wr.ownsRow B 5 1 v pre.length (bs pre))
    (c : UInt8) (n : Int) (hn : n = (c.toNat : Int)) (hx : a.eval x = .slice (some ⟨wr.heap.size, 0, none⟩) 1 1) (hlen : pre.length ≤ 1000000000) (hB : B ≤ wr.heap.size) (hbel : Below B w0 wr)
    (h : ∀ v' w', w'.ownsRow B 5 1 v' (pre ++ [c]).length (bs (pre ++ [c])) → Below B w0 w' → (wr.alloc (.cells #[.int .u8 n] 5)).grownBy w' v.ownBlock → wpList Tryz.prog ops Q rest (a.put o.dst v') w') :
    wpList Tryz.prog ops Q (o :: rest) a (wr.alloc (.cells #[.int .u8 n] 5)) := by
  obtain ⟨i0, hi, hz0, hz1, hz2⟩ := info_parts Tryz.info5
  subst hn
  refine wpList_append_own _ hgd s x 115 ho B 5 i0 (.int .u8 0) 1 1 Tryz.underlying115 hi hz0 hz1 hz2 rfl (by decide) v pre.length (bs pre) hs (hown.alloc _) ⟨wr.heap.size, 0, none⟩ 1 1 [.int .u8 (c.toNat : Int)] hx rfl (cell_one_new _ _ _) ?_ ?_ ?_ ?_ ?_
  · intro u hu; simp at hu; subst hu; rfl
  · unfold maxLen; omega
  · omega
  · simp; omega
  · intro v' w' h1 h2 h3
    refine h v' w' ?_ ((hbel.alloc hB _).grown h2 (by simp; omega) (fun k hk => (hown.lt k hk).1)) h2
    rw [bs_snoc]; simpa using h1
theorem step_two (B : Nat) (hgd : o.guard = none) (s x : Operand)
    (ho : o.op = .call { callee := .builtin .append, args := #[s, x], argTypes := #[115, 115] }) (v : Value) (pre : List UInt8) (hs : a.eval s = v) (hown : wr.ownsRow B 5 1 v pre.length (bs pre))
    (c d : UInt8) (hx : a.eval x = .slice (some ⟨wr.heap.size, 0, none⟩) 2 2) (hlen : pre.length ≤ 1000000000) (hB : B ≤ wr.heap.size) (hbel : Below B w0 wr)
    (h : ∀ g cap w', w'.ownsRow B 5 1 (.slice (some ⟨g, 0, none⟩) (pre.length + 2) cap) (pre ++ [c, d]).length (bs (pre ++ [c, d])) → Below B w0 w' → (wr.alloc (.cells #[.int .u8 (c.toNat : Int), .int .u8 (d.toNat : Int)] 5)).grownBy w' v.ownBlock → K (a.put o.dst (.slice (some ⟨g, 0, none⟩) (pre.length + 2) cap)) w') :
    if Region.wanted o (yielded ops a.tmps) = true then Oper.wp Tryz.prog o a (wr.alloc (.cells #[.int .u8 (c.toNat : Int), .int .u8 (d.toNat : Int)] 5)).drew K Q else E := by
  obtain ⟨i0, hi, hz0, hz1, hz2⟩ := info_parts Tryz.info5
  refine step_append_lies _ hgd s x 115 ho B 5 i0 _ 1 1 Tryz.underlying115 hi hz0 hz1 hz2 rfl (by decide) v pre.length (bs pre) hs ((hown.alloc _).drew) ⟨wr.heap.size, 0, none⟩ 2 2 [.int .u8 (c.toNat : Int), .int .u8 (d.toNat : Int)] hx rfl (World.news_of_block (cs := #[.int .u8 (c.toNat : Int), .int .u8 (d.toNat : Int)]) (t := 5) (fr := (0, 0)) (heap_alloc_new wr _)) ?_ (by omega) ?_ ?_ ?_ (wr.heap.size + 1) (by simp) ?_
  · intro u hu; simp at hu; rcases hu with rfl | rfl <;> rfl
  · unfold maxLen; omega
  · omega
  · simp; omega
  · intro g cap w' h1 h2 h3 h4
    have h2' : (wr.alloc (.cells #[.int .u8 (c.toNat : Int), .int .u8 (d.toNat : Int)] 5)).grownBy w' v.ownBlock := ⟨h2.os, h2.tape, h2.output, h2.size, h2.block⟩
    refine h g cap w' ?_ ((hbel.alloc hB _).grown h2' (by simp; omega) (fun k hk => (hown.lt k hk).1)) h2'
    have e : bs (pre ++ [c, d]) = bs pre ++ [.int .u8 (c.toNat : Int), .int .u8 (d.toNat : Int)] := by simp [bs]
    rw [e]; simpa using h1
end
def tss (l : List (List UInt8)) : List ByteArray := l.map toS
theorem tss_snoc (l : List (List UInt8)) (x : List UInt8) : tss (l ++ [x]) = tss l ++ [toS x] := by unfold tss; simp
theorem tss_len (l : List (List UInt8)) : (tss l).length = l.length := by unfold tss; simp
/-- what is known of the parts at byte k -/
def CutS (s : ByteArray) (outs : List (List UInt8)) (b : List UInt8) (k : Nat) : Prop := cutF [] s.data.toList = outs ++ cutF b (s.data.toList.drop k) ∧ outs.length ≤ k ∧ b.length ≤ k
theorem CutS.one {s : ByteArray} {outs : List (List UInt8)} {b : List UInt8} {k : Nat} (h : CutS s outs b k) (hk : k < s.size) (h44 : s[k] ≠ 44) (h92 : s[k] ≠ 92 ∨ k + 1 = s.size) : CutS s outs (b ++ [s[k]]) (k + 1) := by
  refine ⟨?_, by have := h.2.1; omega, by have := h.2.2; simp; omega⟩
  rw [h.1, drop_at s k hk]
  rcases he : s.data.toList.drop (k + 1) with _ | ⟨d, l⟩
  · rw [cutF_one, if_neg h44, cutF_nil]
  · have hne : s[k] ≠ 92 := by
      rcases h92 with h | h
      · exact h
      · rw [List.drop_eq_nil_of_le (by rw [size_len]; omega)] at he; cases he
    rw [cutF_two, if_neg hne, if_neg h44]
theorem CutS.comma {s : ByteArray} {outs : List (List UInt8)} {b : List UInt8} {k : Nat} (h : CutS s outs b k) (hk : k < s.size) (h44 : s[k] = 44) : CutS s (outs ++ [b]) [] (k + 1) := by
  refine ⟨?_, by have := h.2.1; simp; omega, by simp⟩
  rw [h.1, drop_at s k hk]
  rcases he : s.data.toList.drop (k + 1) with _ | ⟨d, l⟩
  · rw [cutF_one, if_pos h44, cutF_nil]; simp
  · rw [cutF_two, if_neg (by rw [h44]; decide), if_pos h44]; simp
theorem CutS.two {s : ByteArray} {outs : List (List UInt8)} {b : List UInt8} {k : Nat} (h : CutS s outs b k) (hk : k < s.size) (hk1 : k + 1 < s.size) (h92 : s[k] = 92) : CutS s outs (b ++ [s[k], s[k + 1]]) (k + 2) := by
  refine ⟨?_, by have := h.2.1; omega, by have := h.2.2; simp; omega⟩
  rw [h.1, drop_at s k hk, drop_at s (k + 1) hk1, cutF_two, if_pos h92]
theorem CutS.last {s : ByteArray} {outs : List (List UInt8)} {b : List UInt8} {k : Nat} (h : CutS s outs b k) (hk : ¬ k < s.size) : cutF [] s.data.toList = outs ++ [b] := by
  rw [h.1, List.drop_eq_nil_of_le (by rw [size_len]; omega), cutF_nil]
end Go.Proofs.YtmanlnlhpgdbpaaGreat
/- Reading names: l02Cut of the specification. -/
namespace Go.Proofs.YtmanlnlhpgdbpaaGreat
open Go.RowKit
attribute [local go_sem ↓] Go.wp_at_zero Go.wp_at_succ

theorem wpl_world {P : Program} {ops : Array Oper} {Q : Exit → Act → World → Prop} {l : List Oper} {a : Act} {w : World} (R : World → Prop) (h : R w) (k : ∀ W, R W → wpList P ops Q l a W) : wpList P ops Q l a w := k w h
theorem made2 (w : World) : ((w.alloc (.cells #[] 9)).alloc (.cells #[] 5)).ownsRow w.heap.size 5 1 (.slice (some ⟨w.heap.size + 1, 0, none⟩) 0 0) 0 (bs []) := by
  have h := World.ownsRow_made (base := w.heap.size) (e := 5) (size := 1) (w.alloc (.cells #[] 9)) #[] 0 (by simp) (by unfold maxLen; omega) rfl
  rw [World.size_alloc] at h; exact h
set_option maxRecDepth 100000 in
set_option maxHeartbeats 2000000 in
theorem l02Cut_any (s : ByteArray) (w : World) (hs : s.size ≤ 1048575) :
    Calls Tryz.prog 60 #[.string s] w fun e w' => (∃ v, e = .returned v ∧ w'.ownsRow w.heap.size 9 1 v (tss (cutF [] s.data.toList)).length (ss (tss (cutF [] s.data.toList)))) ∧ Below w.heap.size w w' := by
  go_enter Tryz.func60, Tryz.ntmps60
  go_wp2
  go_loopw [3, 4, 5] (fun v u i wr => ∃ (k : Nat) (outs : List (List UInt8)) (b : List UInt8), k ≤ s.size ∧ i = .int .i64 k ∧ CutS s outs b k ∧ wr.ownsRow w.heap.size 9 1 v (tss outs).length (ss (tss outs)) ∧ wr.ownsRow w.heap.size 5 1 u b.length (bs b) ∧ Below w.heap.size w wr) (fun _ _ i _ => s.size - (intOf i).toNat)
  case atStart => exact ⟨0, [], [], Nat.zero_le _, rfl, ⟨by simp, by simp, by simp⟩, (World.ownsRow_made _ _ 0 (Nat.le_refl _) (by unfold maxLen; omega) rfl).alloc _, made2 w, more (more (Below.refl _ _) _) _⟩
  case round =>
    obtain ⟨k, outs, b, hk, rfl, hC, hv, hu, hbel⟩ := hrel
    have hlo : (tss outs).length ≤ 1048575 := by have := hC.2.1; rw [tss_len]; omega
    have hlb : b.length ≤ 1048575 := by have := hC.2.2; omega
    have HC := Lib.hid hC; have HV := Lib.hid hv; have HU := Lib.hid hu
    have HA := Lib.hid (own_apart hv hu (by decide))
    have HA' := Lib.hid (own_apart hu hv (by decide))
    clear hC hv hu
    have hsz := hbel.size
    by_cases hlt : k < s.size
    · by_cases h92 : (s[k].toNat : Int) = 92
      · have hb1 : ((s[k].toNat : Int) == 92) = true := by rw [h92]; rfl
        have hb2 : ((s[k].toNat : Int) == 44) = false := by rw [h92]; rfl
        have E92 := Lib.hid (nat_of_u8 (n := 92) h92 (by omega))
        clear h92
        by_cases hl2 : k + 1 < s.size
        · have HN := Lib.hid (HC.out.two hlt hl2 E92.out)
          have g0 : (0 : Int) ≤ (k : Int) := by omega
          have g1 : (k : Int) < (s.size : Int) := by omega
          have g2 : (0 : Int) ≤ (k : Int) + 1 := by omega
          have g3 : (k : Int) + 1 < (s.size : Int) := by omega
          have g4 : ((k : Int) + 1).toNat = k + 1 := by omega
          go_wp2_with fail
          have g5 : IntKind.i64.wrap ((k : Int) + 1) = (k : Int) + 1 := IntWalk.i64_in _ (by omega)
          go_region_held3 (fun _ => True) (trivial)
            (first | (refine step_two w.heap.size (by rfl) _ _ (by rfl) _ b (by rfl) HU.out _ _ (by rfl) (Nat.le_trans hlb (by omega)) hsz hbel ?_; intro g cp w1 hown1 hbel1 hg1) | (fail "none"))
          all_goals
            have HV1 := Lib.hid ((HV.out.alloc (.cells #[.int .u8 (s[k].toNat : Int), .int .u8 (s[k + 1].toNat : Int)] 5)).kept hg1 HA'.out)
            have HU1 := Lib.hid hown1
            clear hown1 hg1 g5
            go_wp2
            go_roundw
            case rel => exact ⟨k + 2, outs, b ++ [s[k], s[k + 1]], by omega, by go_num, HN.out, HV1.out, HU1.out, hbel1⟩
            case measure => simp [intOf]; omega
        · have HN := Lib.hid (HC.out.one hlt (by rw [E92.out]; decide) (.inr (by omega)))
          go_wp2_with (first | (at_builtin; refine append_byte2 w.heap.size rfl _ _ rfl _ b rfl HU.out s[k] _ rfl rfl (by omega) hsz hbel ?_; intro v' w1 hown1 hbel1 hg1; have HV1 := Lib.hid ((HV.out.alloc _).kept hg1 HA'.out); have HU1 := Lib.hid hown1; clear hown1 hg1) | (fail "none"))
          go_roundw
          case rel => exact ⟨k + 1, outs, b ++ [s[k]], by omega, by go_num, HN.out, HV1.out, HU1.out, hbel1⟩
          case measure => simp [intOf]; omega
      · have hb1 : ((s[k].toNat : Int) == 92) = false := by rw [beq_eq_false_iff_ne]; exact h92
        have N92 : Hid (s[k] ≠ 92) := Lib.hid (fun e => h92 (by rw [e]; rfl))
        clear h92
        by_cases h44 : (s[k].toNat : Int) = 44
        · have hb2 : ((s[k].toNat : Int) == 44) = true := by rw [h44]; rfl
          have HN := Lib.hid (HC.out.comma hlt (nat_of_u8 (n := 44) h44 (by omega)))
          clear h44
          have hcv := fun (W : World) (h : W.ownsRow w.heap.size 5 1 u4 b.length (bs b)) => str_own W _ _ _ h
          have hcv0 := hcv wr HU.out
          clear hcv
          go_wp2_with (first | (at_builtin; refine append_str w.heap.size rfl _ _ rfl _ (tss outs) rfl HV.out _ rfl (by omega) hsz hbel ?_; intro v' w1 hown1 hbel1 hsz1 hat1 hg1; have HV1 := Lib.hid hown1; clear hown1 hg1 hat1) | (fail "none"))
          go_roundw
          case rel => exact ⟨k + 1, outs ++ [b], [], by omega, by go_num, HN.out, by rw [tss_snoc]; exact HV1.out.alloc _, World.ownsRow_made _ _ 0 hsz1 (by unfold maxLen; omega) rfl, more hbel1 _⟩
          case measure => simp [intOf]; omega
        · have hb2 : ((s[k].toNat : Int) == 44) = false := by rw [beq_eq_false_iff_ne]; exact h44
          have HN := Lib.hid (HC.out.one hlt (fun e => h44 (by rw [e]; rfl)) (.inl N92.out))
          clear h44
          go_wp2_with (first | (at_builtin; refine append_byte2 w.heap.size rfl _ _ rfl _ b rfl HU.out s[k] _ rfl rfl (by omega) hsz hbel ?_; intro v' w1 hown1 hbel1 hg1; have HV1 := Lib.hid ((HV.out.alloc _).kept hg1 HA'.out); have HU1 := Lib.hid hown1; clear hown1 hg1) | (fail "none"))
          go_roundw
          case rel => exact ⟨k + 1, outs, b ++ [s[k]], by omega, by go_num, HN.out, HV1.out, HU1.out, hbel1⟩
          case measure => simp [intOf]; omega
    · have HE := Lib.hid (HC.out.last hlt)
      have hcv0 := str_own wr _ _ _ HU.out
      go_wp2_with (first | (at_builtin; refine append_str w.heap.size rfl _ _ rfl _ (tss outs) rfl HV.out _ rfl (by omega) hsz hbel ?_; intro v' w1 hown1 hbel1 hsz1 hat1 hg1; have HV1 := Lib.hid hown1; clear hown1 hg1 hat1) | (fail "none"))
      go_ret
      exact ⟨⟨_, rfl, by rw [HE.out, tss_snoc]; exact HV1.out⟩, hbel1⟩
end Go.Proofs.YtmanlnlhpgdbpaaGreat
/- Reading names: l02Rdn of the specification. -/
namespace Go.Proofs.YtmanlnlhpgdbpaaGreat
open Go.RowKit
attribute [local go_sem ↓] Go.wp_at_zero Go.wp_at_succ

theorem unesc2_one (c : UInt8) : unesc2 [c] = [c] := by rw [unesc2]
theorem unesc2_two (c d : UInt8) (l : List UInt8) : unesc2 (c :: d :: l) = if c = 92 then d :: unesc2 l else c :: unesc2 (d :: l) := by rw [unesc2]
def No61 (s : ByteArray) (k : Nat) : Prop := ∀ c ∈ s.data.toList.take k, c ≠ 61
theorem No61.step {s : ByteArray} {k : Nat} (h : No61 s k) (hk : k < s.size) (hc : s[k] ≠ 61) : No61 s (k + 1) := by
  intro c hm
  rw [take_snoc s k hk, List.mem_append] at hm
  rcases hm with hm | hm
  · exact h c hm
  · simp at hm; subst hm; exact hc
theorem No61.none {s : ByteArray} {k : Nat} (h : No61 s k) (hk : ¬ k < s.size) : rdn2 s.data.toList = (toS [], toS []) := by
  unfold rdn2
  rw [if_neg]
  intro hm
  have : s.data.toList.take k = s.data.toList := List.take_of_length_le (by rw [size_len]; omega)
  exact h 61 (by rw [this]; exact hm) rfl
theorem No61.some {s : ByteArray} {k : Nat} (h : No61 s k) (hk : k < s.size) (hc : s[k] = 61) : rdn2 s.data.toList = (toS (s.data.toList.take k), toS (unesc2 (s.data.toList.drop (k + 1)))) := by
  have e : s.data.toList = s.data.toList.take k ++ 61 :: s.data.toList.drop (k + 1) := by
    conv => lhs; rw [← List.take_append_drop k s.data.toList]
    rw [drop_at s k hk, hc]
  obtain ⟨h1, h2⟩ := takeWhile_name (l := s.data.toList.take k) (t := s.data.toList.drop (k + 1)) h
  unfold rdn2
  rw [if_pos (by rw [e]; simp)]
  rw [← e] at h1 h2
  rw [h1, h2]; simp
def UnB (s : ByteArray) (k : Nat) (pre : List UInt8) (j : Nat) : Prop := unesc2 (s.data.toList.drop (k + 1)) = pre ++ unesc2 (s.data.toList.drop j) ∧ pre.length ≤ j
theorem UnB.one {s : ByteArray} {k j : Nat} {pre : List UInt8} (h : UnB s k pre j) (hj : j < s.size) (hc : s[j] ≠ 92 ∨ j + 1 = s.size) : UnB s k (pre ++ [s[j]]) (j + 1) := by
  refine ⟨?_, by have := h.2; simp; omega⟩
  rw [h.1, drop_at s j hj]
  rcases he : s.data.toList.drop (j + 1) with _ | ⟨d, l⟩
  · rw [unesc2_one]; simp [unesc2]
  · have hne : s[j] ≠ 92 := by
      rcases hc with h | h
      · exact h
      · rw [List.drop_eq_nil_of_le (by rw [size_len]; omega)] at he; cases he
    rw [unesc2_two, if_neg hne]; simp
theorem UnB.two {s : ByteArray} {k j : Nat} {pre : List UInt8} (h : UnB s k pre j) (hj : j < s.size) (hj1 : j + 1 < s.size) (hc : s[j] = 92) : UnB s k (pre ++ [s[j + 1]]) (j + 2) := by
  refine ⟨?_, by have := h.2; simp; omega⟩
  rw [h.1, drop_at s j hj, drop_at s (j + 1) hj1, unesc2_two, if_pos hc]; simp
theorem UnB.last {s : ByteArray} {k j : Nat} {pre : List UInt8} (h : UnB s k pre j) (hj : ¬ j < s.size) : unesc2 (s.data.toList.drop (k + 1)) = pre := by
  rw [h.1, List.drop_eq_nil_of_le (by rw [size_len]; omega)]; simp [unesc2]
/-- two cells of block R that may be written -/
theorem two_new {w wr : World} {a b : Value} {T : TypeId} (hb : Below (w.heap.size + 1) (w.alloc (.cells #[a, b] T)) wr) :
    (wr.cell? ⟨w.heap.size, 0, none⟩ = some a ∧ wr.cell? ⟨w.heap.size, 1, none⟩ = some b) ∧ wr.frozen? ⟨w.heap.size, 0, none⟩ = false ∧ wr.frozen? ⟨w.heap.size, 1, none⟩ = false := by
  have hblk : wr.heap[w.heap.size]? = some (.cells #[a, b] T) := by rw [hb.block _ (by omega)]; exact heap_alloc_new w _
  refine ⟨⟨?_, ?_⟩, ?_, ?_⟩
  all_goals first | (unfold World.cell?; rw [hblk]; rfl) | (unfold World.frozen?; rw [hblk]; rfl)
theorem below_one {w wr : World} {o : Obj} (hb : Below (w.heap.size + 1) (w.alloc o) wr) : Below w.heap.size w wr := (more (Below.refl _ _) o).trans (hb.mono (by omega))
theorem made3 (w : World) (o : Obj) : ((w.alloc o).alloc (.cells #[] 5)).ownsRow (w.heap.size + 1) 5 1 (.slice (some ⟨w.heap.size + 1, 0, none⟩) 0 0) 0 (bs []) := by
  have h := World.ownsRow_made (base := w.heap.size + 1) (e := 5) (size := 1) (w.alloc o) #[] 0 (by simp) (by unfold maxLen; omega) rfl
  rw [World.size_alloc] at h; exact h
set_option maxRecDepth 100000 in
set_option maxHeartbeats 2000000 in
theorem l02Rdn_any (s : ByteArray) (w : World) (hs : s.size ≤ 1048575) :
    Calls Tryz.prog 61 #[.string s] w fun e w' => e = .returned (.agg #[.string (rdn2 s.data.toList).1, .string (rdn2 s.data.toList).2]) ∧ Below w.heap.size w w' := by
  go_enter Tryz.func61, Tryz.ntmps61
  go_wp2
  go_loop [3] (fun i => ∃ k : Nat, k ≤ s.size ∧ i = .int .i64 k ∧ No61 s k) (fun i => s.size - (intOf i).toNat)
  case atStart => exact ⟨0, Nat.zero_le _, rfl, by unfold No61; simp⟩
  case round =>
    obtain ⟨k, hk, rfl, hN⟩ := hrel
    have HN := Lib.hid hN; clear hN
    by_cases hlt : k < s.size
    · by_cases h61 : (s[k].toNat : Int) = 61
      · have hb1 : ((s[k].toNat : Int) != 61) = false := by rw [h61]; rfl
        have HR := Lib.hid (HN.out.some hlt (nat_of_u8 (n := 61) h61 (by omega)))
        have hb2 : ((k : Int) == (s.size : Int)) = false := by rw [beq_eq_false_iff_ne]; omega
        clear h61
        go_wp2
        go_loopw [4, 5] (fun v i wr => ∃ (j : Nat) (pre : List UInt8), j ≤ s.size ∧ i = .int .i64 j ∧ UnB s k pre j ∧ wr.ownsRow (w.heap.size + 1) 5 1 v pre.length (bs pre) ∧ Below (w.heap.size + 1) (w.alloc (.cells #[.string ByteArray.empty, .string ByteArray.empty] 77)) wr) (fun _ i _ => s.size - (intOf i).toNat)
        case atStart => exact ⟨k + 1, [], by omega, by go_num, ⟨by simp, by simp⟩, made3 w _, (Below.refl _ _).alloc (by simp) _⟩
        case round =>
          obtain ⟨j, pre, hj, rfl, hU, hown, hbel⟩ := hrel
          have hpl := hU.2
          have HU := Lib.hid hU; clear hU
          have hsz : w.heap.size + 1 ≤ wr.heap.size := by have := hbel.size; simpa using this
          by_cases hjl : j < s.size
          · by_cases h92 : (s[j].toNat : Int) = 92
            · have hb3 : ((s[j].toNat : Int) == 92) = true := by rw [h92]; rfl
              have E92 := Lib.hid (nat_of_u8 (n := 92) h92 (by omega))
              clear h92
              by_cases hj1 : j + 1 < s.size
              · have HM := Lib.hid (HU.out.two hjl hj1 E92.out)
                go_wp2_with (first | (at_builtin; refine append_byte (w.heap.size + 1) rfl _ _ rfl _ pre rfl hown s[j + 1] _ rfl rfl (by omega) hsz hbel ?_; intro v' w1 hown1 hbel1 hsz1) | (fail "none"))
                go_roundw
                case rel => exact ⟨j + 2, _, by omega, by go_num, HM.out, hown1, hbel1⟩
                case measure => simp [intOf]; omega
              · have HM := Lib.hid (HU.out.one hjl (.inr (by omega)))
                go_wp2_with (first | (at_builtin; refine append_byte (w.heap.size + 1) rfl _ _ rfl _ pre rfl hown s[j] _ rfl rfl (by omega) hsz hbel ?_; intro v' w1 hown1 hbel1 hsz1) | (fail "none"))
                go_roundw
                case rel => exact ⟨j + 1, _, by omega, by go_num, HM.out, hown1, hbel1⟩
                case measure => simp [intOf]; omega
            · have hb3 : ((s[j].toNat : Int) == 92) = false := by rw [beq_eq_false_iff_ne]; exact h92
              have HM := Lib.hid (HU.out.one hjl (.inl (fun e => h92 (by rw [e]; rfl))))
              clear h92
              go_wp2_with (first | (at_builtin; refine append_byte (w.heap.size + 1) rfl _ _ rfl _ pre rfl hown s[j] _ rfl rfl (by omega) hsz hbel ?_; intro v' w1 hown1 hbel1 hsz1) | (fail "none"))
              go_roundw
              case rel => exact ⟨j + 1, _, by omega, by go_num, HM.out, hown1, hbel1⟩
              case measure => simp [intOf]; omega
          · have HL := Lib.hid (HU.out.last hjl)
            have hcv := str_own wr.drew _ _ _ hown.drew
            obtain ⟨⟨c0, c1⟩, f0, f1⟩ := two_new hbel
            have HX := Lib.hid (ext_take s k)
            have HB := Lib.hid hbel
            clear hbel hown
            go_wp2_with fail
            go_region
            go_wp2
            have e1 : (rdn2 s.data.toList).1 = s.extract 0 k := by rw [HR.out, HX.out]
            have e2 : (rdn2 s.data.toList).2 = ⟨pre.toArray⟩ := by rw [HR.out, HL.out]; rfl
            rw [e1, e2]
            refine bodyPost_ret (v := .agg #[.string (s.extract 0 k), .string ⟨pre.toArray⟩]) (by simp [results, Tryz.results61, go_sem, c0, c1]) rfl ⟨rfl, ?_⟩
            exact (((below_one HB.out).setCell (Nat.le_refl _) _).setCell (Nat.le_refl _) _).drew
      · have hb1 : ((s[k].toNat : Int) != 61) = true := by rw [bne_iff_ne]; exact h61
        have HM := Lib.hid (HN.out.step hlt (fun e => h61 (by rw [e]; rfl)))
        clear h61
        go_wp2
        go_round
        case rel => exact ⟨k + 1, by omega, by go_num, HM.out⟩
        case measure => simp [intOf]; omega
    · have HR := Lib.hid (HN.out.none hlt)
      have hb2 : ((k : Int) == (s.size : Int)) = true := by rw [beq_iff_eq]; omega
      go_wp2
      refine bodyPost_ret (v := .agg #[.string (rdn2 s.data.toList).1, .string (rdn2 s.data.toList).2]) (by rw [HR.out]; simp [results, Tryz.results61, go_sem]; rfl) rfl ⟨rfl, ?_⟩
      exact (Below.refl _ _).alloc (Nat.le_refl _) _
end Go.Proofs.YtmanlnlhpgdbpaaGreat
/- DnJoin: what the texts of the program and of the specification return. -/
namespace Go.Proofs.YtmanlnlhpgdbpaaGreat
open Go.RowKit
attribute [local go_sem ↓] Go.wp_at_zero Go.wp_at_succ

theorem grown_setJ (w : World) (q j : Nat) (v : Value) : w.grownBy (w.setCell ⟨q, j, none⟩ v) (some q) :=
  ⟨rfl, rfl, rfl, by simp [World.setCell], fun k _ hk => Below.heap_setCell _ _ _ _ (fun e => hk (by simp [e]))⟩
theorem own_set {w : World} {B e z n q j : Nat} {v u : Value} {xs : List Value} (h : w.ownsRow B e z v n xs) (hq : q < B) : (w.setCell ⟨q, j, none⟩ u).ownsRow B e z v n xs :=
  h.kept (grown_setJ w q j u) (by
    cases hv : v.ownBlock with
    | none => exact .inl rfl
    | some g => exact .inr (fun hh => by have := (h.lt g hv).1; have := Option.some.inj hh; omega))
/-- four cells, of blocks R and R + 1, that are known and may be written -/
def Four (w : World) (R : Nat) (a b x y : Value) : Prop :=
  ((w.cell? ⟨R, 0, none⟩ = some a ∧ w.cell? ⟨R, 1, none⟩ = some b ∧ w.cell? ⟨R + 1, 0, none⟩ = some x ∧ w.cell? ⟨R + 1, 1, none⟩ = some y) ∧
    (w.frozen? ⟨R, 0, none⟩ = false ∧ w.frozen? ⟨R, 1, none⟩ = false ∧ w.frozen? ⟨R + 1, 0, none⟩ = false ∧ w.frozen? ⟨R + 1, 1, none⟩ = false)) ∧ R + 1 < w.heap.size
theorem Four.keep {W w1 : World} {R : Nat} {a b x y : Value} (h : Four W R a b x y) (hb : Below W.heap.size W w1) : Four w1 R a b x y := by
  obtain ⟨⟨⟨c0, c1, c2, c3⟩, ⟨f0, f1, f2, f3⟩⟩, hz⟩ := h
  exact ⟨⟨⟨(hb.cell (p := ⟨R, 0, none⟩) (by show R < _; omega)).trans c0, (hb.cell (p := ⟨R, 1, none⟩) (by show R < _; omega)).trans c1, (hb.cell (p := ⟨R + 1, 0, none⟩) hz).trans c2, (hb.cell (p := ⟨R + 1, 1, none⟩) hz).trans c3⟩,
    ⟨(hb.frozen (p := ⟨R, 0, none⟩) (by show R < _; omega)).trans f0, (hb.frozen (p := ⟨R, 1, none⟩) (by show R < _; omega)).trans f1, (hb.frozen (p := ⟨R + 1, 0, none⟩) hz).trans f2, (hb.frozen (p := ⟨R + 1, 1, none⟩) hz).trans f3⟩⟩, Nat.lt_of_lt_of_le hz hb.size⟩
theorem four_new (w : World) (a b x y : Value) (T U : TypeId) : Four ((w.alloc (.cells #[a, b] T)).alloc (.cells #[x, y] U)) w.heap.size a b x y := by
  obtain ⟨h1, h2, h3⟩ := keep22 (w := w) (W := ((w.alloc (.cells #[a, b] T)).alloc (.cells #[x, y] U))) (Below.refl _ _) rfl
  exact ⟨⟨h1, h2⟩, h3⟩

/-- a name and a code are returned -/
def GivesOut (w : World) (d : RdnL) (c : Int) (e : Ending) (w' : World) : Prop := (∃ v, e = .returned (.agg #[v, .int .i64 c]) ∧ w'.ownsRow w.heap.size 77 2 v d.length (rs d)) ∧ Below w.heap.size w w'
def joinC (r : ByteArray × ByteArray) (p : RdnL) : Int := if 400 < p.length then 2 else if (dnB p && rdnB r) = false then 1 else if 6 ≤ p.length then 9 else 0
def joinD (r : ByteArray × ByteArray) (p : RdnL) : RdnL := if joinC r p = 0 then r :: p else []
theorem join_cases (r : ByteArray × ByteArray) (p : RdnL) :
    (400 < p.length ∧ joinC r p = 2 ∧ joinD r p = []) ∨ (¬ 400 < p.length ∧ dnB p = false ∧ joinC r p = 1 ∧ joinD r p = []) ∨ (¬ 400 < p.length ∧ dnB p = true ∧ rdnB r = false ∧ joinC r p = 1 ∧ joinD r p = []) ∨
    (dnB p = true ∧ rdnB r = true ∧ p.length = 6 ∧ joinC r p = 9 ∧ joinD r p = []) ∨ (dnB p = true ∧ rdnB r = true ∧ p.length < 6 ∧ joinC r p = 0 ∧ joinD r p = r :: p) := by
  unfold joinD
  unfold joinC
  by_cases h1 : 400 < p.length
  · left; simp [h1]
  · right
    cases h2 : dnB p
    · left; simp [h1]
    · right
      have h6 := dnB_six h2
      cases h3 : rdnB r
      · left; simp [h1]
      · right
        by_cases h4 : 6 ≤ p.length
        · left; simp [h1, h4]; omega
        · right; simp [h1, h4]; omega
theorem own_any_nil (w : World) : w.ownsRow w.heap.size 77 2 (.slice none 0 0) 0 (rs []) := own_nil _ _

end Go.Proofs.YtmanlnlhpgdbpaaGreat
/- DnJoin: what the specification's text returns. -/
namespace Go.Proofs.YtmanlnlhpgdbpaaGreat
open Go.RowKit

theorem dnB_one (r : ByteArray × ByteArray) : dnB [r] = rdnB r := by unfold dnB; simp
theorem one_at (w : World) (A V : ByteArray) : DnAt (w.alloc (.cells #[.string A, .string V] 77)) (some ⟨w.heap.size, 0, none⟩) [(A, V)] :=
  .inr ⟨w.heap.size, 0, rfl, by simp, fun i hi => by
    match i, hi with
    | 0, _ => exact ⟨by simp, by simp⟩⟩
theorem own_one (w : World) (A V : ByteArray) (B : Nat) (hB : B ≤ w.heap.size) : (w.alloc (.cells #[.string A, .string V] 77)).ownsRow B 77 2 (.slice (some ⟨w.heap.size, 0, none⟩) 1 1) [(A, V)].length (rs [(A, V)]) :=
  ⟨rfl, .inr ⟨w.heap.size, 1, #[.string A, .string V], rfl, hB, heap_alloc_new w _, by simp, by unfold maxLen; simp, rfl, rfl⟩⟩
end Go.Proofs.YtmanlnlhpgdbpaaGreat
/- Reading names: l02Read of the specification; DnRead. -/
namespace Go.Proofs.YtmanlnlhpgdbpaaGreat
open Go.RowKit
attribute [local go_sem ↓] Go.wp_at_zero Go.wp_at_succ

theorem append_rdn2 {ops : Array Oper} {rest : List Oper} {o : Oper} {a : Act} {Q : Exit → Act → World → Prop} {w0 wr : World} (B : Nat) (hgd : o.guard = none) (s x : Operand)
    (ho : o.op = .call { callee := .builtin .append, args := #[s, x], argTypes := #[42, 42] }) (v : Value) (pre : RdnL) (hs : a.eval s = v) (hown : wr.ownsRow B 77 2 v pre.length (rs pre))
    (A V : ByteArray) (hx : a.eval x = .slice (some ⟨wr.heap.size, 0, none⟩) 1 1) (hlen : pre.length ≤ 1000000000) (hB : B ≤ wr.heap.size) (hbel : Below B w0 wr)
    (h : ∀ v' w', w'.ownsRow B 77 2 v' (pre ++ [(A, V)]).length (rs (pre ++ [(A, V)])) → Below B w0 w' → (wr.alloc (.cells #[.string A, .string V] 77)).grownBy w' v.ownBlock → wpList Tryz.prog ops Q rest (a.put o.dst v') w') :
    wpList Tryz.prog ops Q (o :: rest) a (wr.alloc (.cells #[.string A, .string V] 77)) := by
  obtain ⟨i0, hi, hz0, hz1, hz2⟩ := info_parts Tryz.info77
  refine wpList_append_lies _ hgd s x 42 ho B 77 i0 _ 2 32 Tryz.underlying42 hi hz0 hz1 hz2 rfl (by decide) v pre.length (rs pre) hs (hown.alloc _) ⟨wr.heap.size, 0, none⟩ 1 1 [.string A, .string V] hx rfl (World.news_of_block (cs := #[.string A, .string V]) (t := 77) (fr := (0, 0)) (heap_alloc_new wr _)) ?_ (by omega) ?_ ?_ ?_ (wr.heap.size + 1) (by simp) ?_
  · intro u hu; simp at hu; rcases hu with rfl | rfl <;> rfl
  · unfold maxLen; omega
  · omega
  · simp; omega
  · intro g cap w' h1 h2 h3 h4
    refine h _ w' ?_ ((hbel.alloc hB _).grown h2 (by simp; omega) (fun k hk => (hown.lt k hk).1)) h2
    rw [rs_snoc]; simpa using h1
theorem cutF_part (n : Nat) : ∀ (b l : List UInt8), l.length ≤ n → ∀ x ∈ cutF b l, x.length ≤ b.length + l.length := by
  induction n with
  | zero =>
    intro b l hl x hx
    have : l = [] := List.eq_nil_of_length_eq_zero (by omega)
    subst this
    rw [cutF_nil] at hx; simp at hx; subst hx; simp
  | succ n ih =>
    intro b l hl x hx
    match l, hl, hx with
    | [], _, hx => rw [cutF_nil] at hx; simp at hx; subst hx; simp
    | [c], _, hx =>
      rw [cutF_one] at hx
      split at hx
      · simp at hx; rcases hx with rfl | rfl <;> simp
      · simp at hx; subst hx; simp
    | c :: d :: l, hl, hx =>
      rw [cutF_two] at hx
      simp only [List.length_cons] at hl ⊢
      split at hx
      · have := ih (b ++ [c, d]) l (by omega) x hx
        simp only [List.length_append, List.length_cons, List.length_nil] at this; omega
      · split at hx
        · rw [List.mem_cons] at hx
          rcases hx with rfl | hx
          · omega
          · have := ih [] (d :: l) (by simp only [List.length_cons]; omega) x hx
            simp only [List.length_cons, List.length_nil] at this; omega
        · have := ih (b ++ [c]) (d :: l) (by simp only [List.length_cons]; omega) x hx
          simp only [List.length_append, List.length_cons, List.length_nil] at this; omega
theorem cutF_count (n : Nat) : ∀ (b l : List UInt8), l.length ≤ n → (cutF b l).length ≤ l.length + 1 := by
  induction n with
  | zero =>
    intro b l hl
    have : l = [] := List.eq_nil_of_length_eq_zero (by omega)
    subst this
    rw [cutF_nil]; simp
  | succ n ih =>
    intro b l hl
    match l, hl with
    | [], _ => rw [cutF_nil]; simp
    | [c], _ => rw [cutF_one]; split <;> simp
    | c :: d :: l, hl =>
      rw [cutF_two]
      simp only [List.length_cons] at hl ⊢
      split
      · have := ih (b ++ [c, d]) l (by omega); omega
      · split
        · have := ih [] (d :: l) (by simp only [List.length_cons]; omega)
          simp only [List.length_cons] at this ⊢; omega
        · have := ih (b ++ [c]) (d :: l) (by simp only [List.length_cons]; omega)
          simp only [List.length_cons] at this; omega
def specD (l : List UInt8) : RdnL := (cutF [] l).map rdn2
theorem unesc2_len (n : Nat) : ∀ l : List UInt8, l.length ≤ n → (unesc2 l).length ≤ l.length := by
  induction n with
  | zero =>
    intro l hl
    have : l = [] := List.eq_nil_of_length_eq_zero (by omega)
    subst this; simp [unesc2]
  | succ n ih =>
    intro l hl
    match l, hl with
    | [], _ => simp [unesc2]
    | [c], _ => rw [unesc2_one]; simp
    | c :: d :: l, hl =>
      rw [unesc2_two]
      simp only [List.length_cons] at hl ⊢
      split
      · have := ih l (by omega); simp only [List.length_cons]; omega
      · have := ih (d :: l) (by simp only [List.length_cons]; omega); simp only [List.length_cons] at this ⊢; omega
theorem rdn2_len (l : List UInt8) : (rdn2 l).1.size ≤ l.length ∧ (rdn2 l).2.size ≤ l.length := by
  unfold rdn2
  split
  · refine ⟨by rw [toS_size]; exact takeWhile_len l, ?_⟩
    rw [toS_size]
    exact Nat.le_trans (unesc2_len _ _ (Nat.le_refl _)) (vlu_len l)
  · simp [toS_size]
theorem spec_fits (s : ByteArray) (hs : s.size ≤ 1048575) (k : Nat) : Fits ((specD s.data.toList).take k) := by
  have hc := cutF_count _ [] s.data.toList (Nat.le_refl _)
  rw [size_len] at hc
  refine Fits.take ⟨by unfold specD; rw [List.length_map]; omega, fun r hr => ?_⟩ k
  unfold specD at hr
  obtain ⟨x, hx, rfl⟩ := List.mem_map.1 hr
  have h1 := cutF_part _ [] s.data.toList (Nat.le_refl _) x hx
  have h2 := rdn2_len x
  rw [size_len] at h1
  simp only [List.length_nil] at h1
  omega
theorem rdn1_len (l : List UInt8) : (rdn1 l).1.size ≤ l.length ∧ (rdn1 l).2.size ≤ l.length := by
  have hu : ∀ (b : Bool) (l : List UInt8), (unescF b l).length ≤ l.length := by
    intro b l
    induction l generalizing b with
    | nil => simp [unescF]
    | cons c l ih =>
      rw [unescF]
      split
      · have := ih true; rw [List.length_cons]; omega
      · have := ih false; rw [List.length_cons, List.length_cons]; omega
  exact ⟨by unfold rdn1; rw [toS_size]; exact takeWhile_len l, by unfold rdn1; rw [toS_size]; exact Nat.le_trans (hu _ _) (vlu_len l)⟩
theorem scan_fits (s : ByteArray) (hs : s.size ≤ 8000) : Fits (scanL s.data.toList) := by
  have hl := scanL_len s.data.toList
  rw [size_len] at hl
  have : ∀ n (l : List UInt8), l.length ≤ 8000 → ∀ r ∈ scanN n l, r.1.size ≤ 8000 ∧ r.2.size ≤ 8000 := by
    intro n
    induction n with
    | zero => intro l _ r hr; simp [scanN] at hr
    | succ n ih =>
      intro l hl r hr
      cases l with
      | nil => simp [scanN] at hr
      | cons c l =>
        simp only [scanN, List.mem_cons] at hr
        rcases hr with rfl | hr
        · have := rdn1_len ((c :: l).take (endF false (c :: l)))
          have h2 : ((c :: l).take (endF false (c :: l))).length ≤ (c :: l).length := List.length_take_le' ..
          omega
        · exact ih _ (by rw [List.length_drop]; omega) r hr
  refine ⟨by omega, fun r hr => ?_⟩
  have := this _ s.data.toList (by rw [size_len]; exact hs) r hr
  omega
end Go.Proofs.YtmanlnlhpgdbpaaGreat
/- Reading names: l02Read and DnRead. -/
namespace Go.Proofs.YtmanlnlhpgdbpaaGreat
open Go.RowKit
attribute [local go_sem ↓] Go.wp_at_zero Go.wp_at_succ

/-- the text of the name read is the text -/
def okB (s : ByteArray) : Bool := (dnTextS (specD s.data.toList)).toList == s.toList
def ReadS (w : World) (s : ByteArray) (e : Ending) (w' : World) : Prop :=
  (∃ v, e = .returned (.tuple #[v, .bool (okB s)]) ∧ w'.ownsRow w.heap.size 77 2 v (specD s.data.toList).length (rs (specD s.data.toList))) ∧ Below w.heap.size w w'
theorem spec_succ (s : ByteArray) (k : Nat) (h : k < (cutF [] s.data.toList).length) : (specD s.data.toList).take (k + 1) = (specD s.data.toList).take k ++ [rdn2 (cutF [] s.data.toList)[k]] := by
  rw [List.take_succ_eq_append_getElem (by unfold specD; simpa using h)]
  unfold specD
  rw [List.getElem_map]
set_option maxRecDepth 100000 in
set_option maxHeartbeats 2000000 in
theorem l02Read_some (s : ByteArray) (w : World) (hs : s.size ≤ 1048575) (h0 : 0 < s.size) :
    Calls Tryz.prog 32 #[.string s] w fun e w' => ReadS w s e w' := by
  have hcn := cutF_count _ [] s.data.toList (Nat.le_refl _)
  rw [size_len] at hcn
  have hemp : s.toList.isEmpty = false := by
    rw [Lib.toList_data, List.isEmpty_eq_false_iff]
    intro h; have := size_len s; rw [h] at this; simp at this; omega
  have HF := Lib.hid (spec_fits s hs)
  go_enter Tryz.func32, Tryz.ntmps32
  go_wp2_with fail
  refine (l02Cut_any s _ hs).mono ?_
  rintro e w2 ⟨⟨l, rfl, hl⟩, hb2⟩
  obtain ⟨lo, lc, rfl⟩ := own_slice hl
  have hlen : (tss (cutF [] s.data.toList)).length = (cutF [] s.data.toList).length := tss_len _
  rw [hlen] at hl ⊢
  have HL := Lib.hid (own_mono (B' := w.heap.size) hl (by simp))
  have B2 := Lib.hid ((more (Below.refl w.heap.size w) (.cells #[] 77)).trans (hb2.mono (by simp)))
  have HO : Hid (w2.ownsRow w.heap.size 77 2 (.slice (some ⟨w.heap.size, 0, none⟩) 0 0) 0 (rs [])) := Lib.hid (own_below (World.ownsRow_made _ _ 0 (Nat.le_refl _) (by unfold maxLen; omega) rfl) hb2)
  clear hl hb2 hlen
  generalize hn : (cutF [] s.data.toList).length = n at *
  have Hn := Lib.hid hn; clear hn
  go_wp2_with fail
  go_loopw [4, 6] (fun v i wr => ∃ k : Nat, k ≤ n ∧ i = .int .i64 k ∧ wr.ownsRow w.heap.size 77 2 v ((specD s.data.toList).take k).length (rs ((specD s.data.toList).take k)) ∧ wr.ownsRow w.heap.size 9 1 (.slice lo n lc) n (ss (tss (cutF [] s.data.toList))) ∧ Below w.heap.size w wr) (fun _ i _ => n - (intOf i).toNat)
  case atStart => exact ⟨0, Nat.zero_le _, rfl, by rw [List.take_zero]; exact HO.out, HL.out, B2.out⟩
  case round =>
    clear HO HL B2
    obtain ⟨k, hk, rfl, hown, hl, hbel⟩ := hrel
    have hpl : ((specD s.data.toList).take k).length ≤ 2000000 := by rw [List.length_take]; omega
    have hsz := hbel.size
    have HO := Lib.hid hown
    have HL := Lib.hid hl
    by_cases hlt : k < n
    · have hkl : k < (cutF [] s.data.toList).length := by have := Hn.out; omega
      have HN := Lib.hid (spec_succ s k hkl)
      obtain ⟨g, cp, hv, _, hg⟩ := hl.form (by omega)
      have e : lo = some ⟨g, 0, none⟩ := by injection hv
      subst e
      have hcell : wr.cell? ⟨g, k, none⟩ = some (.string (toS (cutF [] s.data.toList)[k])) := by
        have := hl.cells (g := g) rfl k (.string (toS (cutF [] s.data.toList)[k])) (by
          unfold ss tss; rw [List.getElem?_map, List.getElem?_map, List.getElem?_eq_getElem hkl]; rfl)
        rwa [add_plain] at this
      have hxs : (toS (cutF [] s.data.toList)[k]).size ≤ 1048575 := by
        have := cutF_part _ [] s.data.toList (Nat.le_refl _) _ (List.getElem_mem hkl)
        rw [size_len] at this
        rw [toS_size]; simp only [List.length_nil] at this; omega
      have HR := Lib.hid (fun w => l02Rdn_any (toS (cutF [] s.data.toList)[k]) w hxs)
      rw [toS_list] at HR
      have HD : Hid (rdn2 (cutF [] s.data.toList)[k] = ((rdn2 (cutF [] s.data.toList)[k]).1, (rdn2 (cutF [] s.data.toList)[k]).2)) := Lib.hid rfl
      clear hown hl hv
      generalize rdn2 (cutF [] s.data.toList)[k] = r at *
      generalize toS (cutF [] s.data.toList)[k] = x at *
      generalize r.1 = A at *
      generalize r.2 = V at *
      generalize (specD s.data.toList).take k = pre at *
      go_wp2_with fail
      refine (HR.out _).mono ?_
      rintro e w3 ⟨rfl, hb3⟩
      have HO3 := Lib.hid (own_below HO.out hb3)
      have HL3 := Lib.hid (own_below HL.out hb3)
      have B3 := Lib.hid (hbel.trans (hb3.mono hsz))
      have HA := Lib.hid (own_apart HO3.out HL3.out (by decide))
      clear hb3 hcell
      go_wp2_with (first | (at_builtin; refine append_rdn2 w.heap.size rfl _ _ rfl _ pre rfl HO3.out A V rfl (by omega) B3.out.size B3.out ?_; intro v' w4 hown4 hbel4 hg4; have HO4 := Lib.hid hown4; have HL4 := Lib.hid ((HL3.out.alloc _).kept hg4 HA.out); clear hown4 hg4) | (fail "none"))
      go_roundw
      case rel => exact ⟨k + 1, by omega, by go_num, by rw [HN.out, HD.out]; exact HO4.out, HL4.out, hbel4⟩
      case measure => simp [intOf]; omega
    · have e : (specD s.data.toList).take k = specD s.data.toList := List.take_of_length_le (by unfold specD; rw [List.length_map, Hn.out]; omega)
      rw [e] at HO hown
      have HF2 : Hid (Fits (specD s.data.toList)) := Lib.hid (by have := HF.out k; rw [e] at this; exact this)
      have HOK : Hid (okB s = ((dnTextS (specD s.data.toList)).toList == s.toList)) := Lib.hid rfl
      obtain ⟨ao, ac, rfl⟩ := own_slice hown
      have HDN := Lib.hid (own_dn hown)
      clear e hpl hown hl
      generalize hD : specD s.data.toList = D at *
      have HDs := Lib.hid hD; clear hD
      go_wp2_with fail
      refine (SpecDnText_any _ _ _ _ HDN.out HF2.out).mono ?_
      rintro e w3 ⟨rfl, hb3⟩
      have HO3 := Lib.hid (own_below HO.out hb3)
      have B3 := Lib.hid (hbel.trans (hb3.mono hsz))
      clear hb3
      go_wp2
      go_ret2
      exact ⟨⟨.slice ao D.length ac, by rw [HOK.out]; rfl, by rw [HDs.out]; exact HO3.out⟩, B3.out⟩
end Go.Proofs.YtmanlnlhpgdbpaaGreat
/- DnRead: what the texts of the program and of the specification return. -/
namespace Go.Proofs.YtmanlnlhpgdbpaaGreat
open Go.RowKit
attribute [local go_sem ↓] Go.wp_at_zero Go.wp_at_succ

def goodB (s : ByteArray) : Bool := dnB (scanL s.data.toList) && ((textS (scanL s.data.toList)).toList == s.toList)
def readC (s : ByteArray) : Int := if 8000 < s.size then 2 else if goodB s = true then 0 else 3
def readD (s : ByteArray) : RdnL := if readC s = 0 then scanL s.data.toList else []
theorem read_long {s : ByteArray} (h : 8000 < s.size) : readC s = 2 ∧ readD s = [] := by unfold readD readC; rw [if_pos h]; exact ⟨rfl, rfl⟩
theorem read_bad {s : ByteArray} (h : ¬ 8000 < s.size) (hg : goodB s = false) : readC s = 3 ∧ readD s = [] := by unfold readD readC; rw [if_neg h, hg]; exact ⟨rfl, rfl⟩
theorem read_good {s : ByteArray} (h : ¬ 8000 < s.size) (hg : goodB s = true) : readC s = 0 ∧ readD s = scanL s.data.toList := by unfold readD readC; rw [if_neg h, hg]; exact ⟨rfl, rfl⟩
theorem text_eq {d : RdnL} {s : ByteArray} (h : ((textS d).toList == s.toList) = true) : textL d = s.data.toList := by
  rw [Lib.toList_data, Lib.toList_data] at h
  simpa [textS] using h
theorem good_empty {s : ByteArray} (h : s.size = 0) : goodB s = true ∧ scanL s.data.toList = [] := by
  have e : s.data.toList = [] := List.eq_nil_of_length_eq_zero (by rw [size_len]; exact h)
  unfold goodB
  rw [Lib.toList_data, Lib.toList_data, e]
  exact ⟨by decide, rfl⟩
theorem ok_good {s : ByteArray} (h : okB s = true) (h0 : 0 < s.size) : goodB s = true ∧ specD s.data.toList = scanL s.data.toList := by
  unfold okB at h
  cases hd : dnB (specD s.data.toList)
  · rw [dnText_no hd, Lib.toList_data, Lib.toList_data] at h
    exfalso
    have e : s.data.toList = [] := by simpa using h
    have := size_len s; rw [e] at this; simp at this; omega
  · rw [dnText_yes hd] at h
    have e := text_eq h
    have e2 : scanL s.data.toList = specD s.data.toList := by
      have := scan_text _ (dnB_all_of hd)
      rw [e] at this; exact this
    refine ⟨?_, e2.symm⟩
    unfold goodB
    rw [e2, hd, h]; rfl
theorem good_ok {s : ByteArray} (h : goodB s = true) (h0 : 0 < s.size) : okB s = true := by
  unfold goodB at h
  rw [Bool.and_eq_true] at h
  obtain ⟨h1, h2⟩ := h
  have e := text_eq h2
  have hne : scanL s.data.toList ≠ [] := by
    intro hh; rw [hh] at e
    have := size_len s; rw [← e] at this; simp [textL, Lib.join_nil] at this; omega
  have e2 : specD s.data.toList = scanL s.data.toList := by
    have := cut_text _ (dnB_all_of h1) hne
    rw [e] at this; exact this
  unfold okB
  rw [e2, dnText_yes h1]; exact h2
theorem ok_iff {s : ByteArray} (h0 : 0 < s.size) : okB s = goodB s := by
  cases h : goodB s
  · cases h' : okB s
    · rfl
    · rw [(ok_good h' h0).1] at h; exact h
  · exact good_ok h h0

set_option maxRecDepth 100000 in
set_option maxHeartbeats 1000000 in
theorem DnRead_any (s : ByteArray) (w : World) (hm : s.size ≤ maxLen) :
    Calls Tryz.prog 67 #[.string s] w fun e w' => GivesOut w (readD s) (readC s) e w' := by
  unfold maxLen at hm
  have B0 := Lib.hid (more (Below.refl w.heap.size w) (.cells #[.slice none 0 0, .int .i64 0] 101))
  by_cases h8 : 8000 < s.size
  · rw [(read_long h8).1, (read_long h8).2]
    go_enter Tryz.func67, Tryz.ntmps67
    go_wp2
    refine bodyPost_ret (v := .agg #[.slice none 0 0, .int .i64 2]) (by simp [results, Tryz.results67, go_sem]) rfl ⟨⟨_, rfl, own_nil _ _⟩, ?_⟩
    exact (Below.refl _ _).alloc (Nat.le_refl _) _
  · have HF := Lib.hid (scan_fits s (by omega))
    have HG : Hid (goodB s = (dnB (scanL s.data.toList) && ((textS (scanL s.data.toList)).toList == s.toList))) := Lib.hid rfl
    have HB := Lib.hid (fun h => read_bad (s := s) h8 h)
    have HGd := Lib.hid (fun h => read_good (s := s) h8 h)
    go_enter Tryz.func67, Tryz.ntmps67
    go_wp2_with fail
    refine (scanDn_any s _ (by omega)).mono ?_
    rintro e w1 ⟨⟨v, rfl, hown⟩, hb1⟩
    have HO := Lib.hid hown
    obtain ⟨ao, ac, rfl⟩ := own_slice hown
    have HDN := Lib.hid (own_dn hown)
    have B1 := Lib.hid (B0.out.trans (hb1.mono B0.out.size))
    have T1 := Lib.hid hb1
    clear hown hb1
    generalize scanL s.data.toList = D at *
    cases hd : dnB D
    · have HE := Lib.hid (HB.out (by rw [HG.out, hd]; rfl))
      go_wp2_with fail
      refine (DnRight_any _ _ _ _ HDN.out HF.out).mono ?_
      rintro e w2 ⟨rfl, hb2⟩
      rw [hd]
      have B2 := Lib.hid (B1.out.trans (hb2.mono B1.out.size))
      have T2 := Lib.hid (T1.out.trans (hb2.mono T1.out.size))
      clear hb2
      obtain ⟨⟨c0, c1⟩, f0, f1⟩ := two_new (by have := T2.out; simpa using this)
      go_wp2
      refine bodyPost_ret (v := .agg #[.slice none 0 0, .int .i64 3]) (by simp [results, Tryz.results67, go_sem, c0, c1]) rfl ?_
      show GivesOut w (readD s) (readC s) _ _
      rw [HE.out.1, HE.out.2]
      refine ⟨⟨_, rfl, own_nil _ _⟩, ?_⟩
      exact (B2.out.setCell (Nat.le_refl _) _).setCell (Nat.le_refl _) _
    · have HT := Lib.hid (fun w h => DnText_any ao D ac w h HF.out)
      rw [dnText_yes hd] at HT
      cases ht : ((textS D).toList == s.toList)
      · have HE := Lib.hid (HB.out (by rw [HG.out, hd, ht]; rfl))
        have ht' : ((textS D).toList != s.toList) = true := by simp [bne, ht]
        go_wp2_with fail
        refine (DnRight_any _ _ _ _ HDN.out HF.out).mono ?_
        rintro e w2 ⟨rfl, hb2⟩
        rw [hd]
        have B2 := Lib.hid (B1.out.trans (hb2.mono B1.out.size))
        have T2 := Lib.hid (T1.out.trans (hb2.mono T1.out.size))
        have D2 := Lib.hid (HDN.out.below hb2)
        clear hb2
        go_wp2_with fail
        refine (HT.out _ D2.out).mono ?_
        rintro e w3 ⟨rfl, hb3⟩
        have B3 := Lib.hid (B2.out.trans (hb3.mono B2.out.size))
        have T3 := Lib.hid (T2.out.trans (hb3.mono T2.out.size))
        clear hb3
        obtain ⟨⟨c0, c1⟩, f0, f1⟩ := two_new (by have := T3.out; simpa using this)
        go_wp2
        refine bodyPost_ret (v := .agg #[.slice none 0 0, .int .i64 3]) (by simp [results, Tryz.results67, go_sem, c0, c1]) rfl ?_
        show GivesOut w (readD s) (readC s) _ _
        rw [HE.out.1, HE.out.2]
        refine ⟨⟨_, rfl, own_nil _ _⟩, ?_⟩
        exact (B3.out.setCell (Nat.le_refl _) _).setCell (Nat.le_refl _) _
      · have HE := Lib.hid (HGd.out (by rw [HG.out, hd, ht]; rfl))
        have ht' : ((textS D).toList != s.toList) = false := by simp [bne, ht]
        go_wp2_with fail
        refine (DnRight_any _ _ _ _ HDN.out HF.out).mono ?_
        rintro e w2 ⟨rfl, hb2⟩
        rw [hd]
        have B2 := Lib.hid (B1.out.trans (hb2.mono B1.out.size))
        have T2 := Lib.hid (T1.out.trans (hb2.mono T1.out.size))
        have D2 := Lib.hid (HDN.out.below hb2)
        have O2 := Lib.hid (own_below HO.out hb2)
        clear hb2
        go_wp2_with fail
        refine (HT.out _ D2.out).mono ?_
        rintro e w3 ⟨rfl, hb3⟩
        have B3 := Lib.hid (B2.out.trans (hb3.mono B2.out.size))
        have T3 := Lib.hid (T2.out.trans (hb3.mono T2.out.size))
        have O3 := Lib.hid (own_below O2.out hb3)
        clear hb3
        obtain ⟨⟨c0, c1⟩, f0, f1⟩ := two_new (by have := T3.out; simpa using this)
        go_wp2
        refine bodyPost_ret (v := .agg #[.slice ao D.length ac, .int .i64 0]) (by simp [results, Tryz.results67, go_sem, c0, c1]) rfl ?_
        show GivesOut w (readD s) (readC s) _ _
        rw [HE.out.1, HE.out.2]
        refine ⟨⟨_, rfl, ?_⟩, ?_⟩
        · exact own_mono (own_set (own_set O3.out (by simp)) (by simp)) (by simp)
        · exact (B3.out.setCell (Nat.le_refl _) _).setCell (Nat.le_refl _) _
set_option maxRecDepth 100000 in
set_option maxHeartbeats 1000000 in
theorem l02Read_none (s : ByteArray) (w : World) (h0 : s.size = 0) :
    Calls Tryz.prog 32 #[.string s] w fun e w' => (∃ v, e = .returned (.tuple #[v, .bool true]) ∧ w'.ownsRow w.heap.size 77 2 v 0 (rs [])) ∧ Below w.heap.size w w' := by
  have hemp : s.toList.isEmpty = true := by
    rw [Lib.toList_data, List.isEmpty_iff]
    exact List.eq_nil_of_length_eq_zero (by rw [size_len]; exact h0)
  have H0 := Lib.hid h0; clear h0
  go_enter Tryz.func32, Tryz.ntmps32
  go_wp2
  go_ret2
  exact ⟨⟨_, rfl, World.ownsRow_made _ _ 0 (Nat.le_refl _) (by unfold maxLen; omega) rfl⟩, (Below.refl _ _).alloc (Nat.le_refl _) _⟩
end Go.Proofs.YtmanlnlhpgdbpaaGreat
/- A valid name is read back from its text; what is read of a text is told by just this text. -/
namespace Go.Proofs.YtmanlnlhpgdbpaaGreat
open Go.RowKit

theorem rdn_short {r : ByteArray × ByteArray} (h : rdnB r = true) : (rdnS r).data.toList.length ≤ 101 := by
  have := escS_size r.2
  unfold rdnB nmL valB at h
  simp only [Bool.and_eq_true, decide_eq_true_eq] at h
  rw [size_len]
  unfold rdnS
  rw [ByteArray.size_append, ByteArray.size_append, sz1]
  omega
theorem text_short {d : RdnL} (h : dnB d = true) : (textS d).size ≤ 612 := by
  have h6 := dnB_six h
  have := join_len (d.map (fun r => (rdnS r).data.toList)) 101 (fun x hx => by
    obtain ⟨r, hr, rfl⟩ := List.mem_map.1 hx
    exact rdn_short (List.all_eq_true.1 (dnB_all_of h) r hr))
  rw [List.length_map] at this
  have e : (textS d).size = (textL d).length := by simp [textS, ByteArray.size]
  rw [e]
  unfold textL
  omega
theorem dnText_short (d : RdnL) : (dnTextS d).size ≤ 612 := by
  cases h : dnB d
  · rw [dnText_no h]; decide
  · rw [dnText_yes h]; exact text_short h
theorem back {d : RdnL} (h : dnB d = true) : readC (dnTextS d) = 0 ∧ readD (dnTextS d) = d := by
  have hs := text_short h
  rw [dnText_yes h]
  have e : scanL (textS d).data.toList = d := by
    have := scan_text d (dnB_all_of h)
    simpa [textS] using this
  have hg : goodB (textS d) = true := by
    unfold goodB
    rw [e, h]; simp
  obtain ⟨h1, h2⟩ := read_good (s := textS d) (by omega) hg
  exact ⟨h1, by rw [h2, e]⟩
theorem told {s : ByteArray} (h : readC s = 0) : dnTextS (readD s) = s := by
  by_cases hl : 8000 < s.size
  · rw [(read_long hl).1] at h; cases h
  · cases hg : goodB s
    · rw [(read_bad hl hg).1] at h; cases h
    · rw [(read_good hl hg).2]
      unfold goodB at hg
      rw [Bool.and_eq_true] at hg
      rw [dnText_yes hg.1]
      have := text_eq hg.2
      unfold textS
      rw [this]
theorem read_fits (s : ByteArray) : (readD s).length ≤ 6 ∧ Fits (readD s) := by
  by_cases hl : 8000 < s.size
  · rw [(read_long hl).2]; exact ⟨by simp, by simp, by simp⟩
  · cases hg : goodB s
    · rw [(read_bad hl hg).2]; exact ⟨by simp, by simp, by simp⟩
    · rw [(read_good hl hg).2]
      unfold goodB at hg
      rw [Bool.and_eq_true] at hg
      have h6 := dnB_six hg.1
      have ha := dnB_all_of hg.1
      refine ⟨h6, by omega, fun r hr => ?_⟩
      have := List.all_eq_true.1 ha r hr
      unfold rdnB nmL valB at this
      simp only [Bool.and_eq_true, decide_eq_true_eq] at this
      omega
end Go.Proofs.YtmanlnlhpgdbpaaGreat
/- Change logs: the plain mathematics. -/
namespace Go.Proofs.YtmanlnlhpgdbpaaGreat
open Go.RowKit

noncomputable def noneB (a : RdnL) (b : List AttrV) : Bool := decide (a.length = 0) && decide (b.length = 0)
noncomputable def mayB (k : Int) (a : RdnL) (b : List AttrV) : Bool := if k = 2 then noneB a b else (decide (k = 1) || decide (k = 3) || decide (k = 4)) && rightB a b
noncomputable def chgB (c : ChangeT) : Bool := decide (0 < (readD c.2.2.1).length) && mayB c.2.1 c.2.2.2.1 c.2.2.2.2
/-- numbers from f on, each change right -/
noncomputable def numsB : Int → List ChangeT → Bool
  | _, [] => true
  | f, c :: l => decide (c.1 = f) && chgB c && numsB (f + 1) l
noncomputable def chsB (n : Int) (l : List ChangeT) : Bool := decide (1 ≤ n) && decide (n ≤ 1000000) && decide (l.length ≤ 40) && decide (1 ≤ n - l.length) && numsB (n - l.length) l
theorem numsB_snoc (f : Int) (l : List ChangeT) (c : ChangeT) : numsB f (l ++ [c]) = (numsB f l && (decide (c.1 = f + l.length) && chgB c)) := by
  induction l generalizing f with
  | nil => simp [numsB]
  | cons x l ih =>
    simp only [List.cons_append, numsB, List.length_cons]
    rw [ih (f + 1)]
    have e : f + 1 + (l.length : Int) = f + ((l.length + 1 : Nat) : Int) := by omega
    rw [e]
    simp only [Bool.and_assoc]
theorem numsB_take (f : Int) (l : List ChangeT) (k : Nat) (h : k < l.length) : numsB f (l.take (k + 1)) = (numsB f (l.take k) && (decide (l[k].1 = f + k) && chgB l[k])) := by
  rw [List.take_succ_eq_append_getElem h, numsB_snoc, List.length_take]
  have e : min k l.length = k := by omega
  rw [e]
theorem numsB_append (f : Int) (a b : List ChangeT) : numsB f (a ++ b) = (numsB f a && numsB (f + a.length) b) := by
  induction a generalizing f with
  | nil => simp [numsB]
  | cons x a ih =>
    simp only [List.cons_append, numsB, List.length_cons]
    rw [ih (f + 1)]
    have e : f + 1 + (a.length : Int) = f + ((a.length + 1 : Nat) : Int) := by omega
    rw [e]
    simp only [Bool.and_assoc]
theorem numsB_bad (f : Int) (l : List ChangeT) (k : Nat) (h : k < l.length) (hb : (decide (l[k].1 = f + k) && chgB l[k]) = false) : numsB f l = false := by
  have h1 := numsB_take f l k h
  rw [hb, Bool.and_false] at h1
  have h2 := numsB_append f (l.take (k + 1)) (l.drop (k + 1))
  rw [List.take_append_drop, h1, Bool.false_and] at h2
  exact h2
theorem numsB_at (f : Int) (l : List ChangeT) (h : numsB f l = true) (k : Nat) (hk : k < l.length) : l[k].1 = f + k ∧ chgB l[k] = true := by
  cases hb : (decide (l[k].1 = f + k) && chgB l[k])
  · rw [numsB_bad f l k hk hb] at h; cases h
  · simpa using hb
theorem chsB_parts {n : Int} {l : List ChangeT} (h : chsB n l = true) : 1 ≤ n ∧ n ≤ 1000000 ∧ l.length ≤ 40 ∧ 1 ≤ n - l.length ∧ numsB (n - l.length) l = true := by
  unfold chsB at h
  simp only [Bool.and_eq_true, decide_eq_true_eq] at h
  exact ⟨h.1.1.1.1, h.1.1.1.2, h.1.1.2, h.1.2, h.2⟩
theorem chsB_bad {n : Int} {l : List ChangeT} (h : ¬ (1 ≤ n ∧ n ≤ 1000000 ∧ l.length ≤ 40 ∧ 1 ≤ n - l.length ∧ numsB (n - l.length) l = true)) : chsB n l = false := by
  cases hc : chsB n l
  · rfl
  · exact absurd (chsB_parts hc) h
theorem chsB_good {n : Int} {l : List ChangeT} (h1 : 1 ≤ n) (h2 : n ≤ 1000000) (h3 : l.length ≤ 40) (h4 : 1 ≤ n - l.length) (h5 : numsB (n - l.length) l = true) : chsB n l = true := by
  unfold chsB
  simp only [Bool.and_eq_true, decide_eq_true_eq]
  exact ⟨⟨⟨⟨h1, h2⟩, h3⟩, h4⟩, h5⟩
/-- the changes from a number on -/
noncomputable def fromL (n : Int) (l : List ChangeT) (q : Int) : List ChangeT := l.drop (min (max q (n - l.length)) n - (n - l.length)).toNat
theorem drop_while (f q : Int) (l : List ChangeT) (h : numsB f l = true) : l.dropWhile (fun c => decide (c.1 < q)) = l.drop (min (max q f) (f + l.length) - f).toNat := by
  induction l generalizing f with
  | nil => simp
  | cons c l ih =>
    simp only [numsB, Bool.and_eq_true, decide_eq_true_eq] at h
    obtain ⟨⟨h1, h2⟩, h3⟩ := h
    rw [List.dropWhile_cons, List.length_cons]
    by_cases hc : c.1 < q
    · rw [if_pos (by simpa using hc), ih (f + 1) h3]
      have e : (min (max q f) (f + ((l.length + 1 : Nat) : Int)) - f).toNat = (min (max q (f + 1)) (f + 1 + (l.length : Int)) - (f + 1)).toNat + 1 := by omega
      rw [e, List.drop_succ_cons]
    · rw [if_neg (by simpa using hc)]
      have e : (min (max q f) (f + ((l.length + 1 : Nat) : Int)) - f).toNat = 0 := by omega
      rw [e, List.drop_zero]
theorem from_while {n q : Int} {l : List ChangeT} (h : chsB n l = true) : l.dropWhile (fun c => decide (c.1 < q)) = fromL n l q := by
  obtain ⟨_, _, _, _, h5⟩ := chsB_parts h
  rw [drop_while _ q l h5]
  unfold fromL
  have e : n - (l.length : Int) + (l.length : Int) = n := by omega
  rw [e]
abbrev OutT := ChangesOutT
theorem chsz {n : Int} {d : List ChangeT} {B : Nat} (h : changesE.sz (n, d) ≤ B) : d.length + szL changeE d ≤ B := by
  have e : changesE.sz (n, d) = 0 + (d.length + szL changeE d) := rfl
  omega
noncomputable def trimR (n : Int) (l : List ChangeT) (q : Int) : ChangesOutT := if chsB n l = true then ((n, fromL n l q), [], 0) else ((0, []), [], 1)
noncomputable def sinceR (n : Int) (l : List ChangeT) (q : Int) : ChangesOutT := if chsB n l = true then (if q < n - l.length - 1 ∨ n ≤ q then ((0, []), [], 8) else ((0, []), fromL n l (q + 1), 0)) else ((0, []), [], 1)
noncomputable def addR' (n : Int) (l : List ChangeT) (k : Int) (dn : RdnL) (e : EntryT) : ChangesOutT :=
  if 400 < dn.length then ((0, []), [], 2) else
  if (chsB n l && (dnB dn && decide (0 < dn.length) && mayB k e.1 e.2)) = true then (if l.length = 40 ∨ n = 1000000 then ((0, []), [], 9) else ((n + 1, l ++ [(n, k, dnTextS dn, e)]), [], 0)) else ((0, []), [], 1)
end Go.Proofs.YtmanlnlhpgdbpaaGreat
/- EntryRight: what the program returns. -/
namespace Go.Proofs.YtmanlnlhpgdbpaaGreat
open Go.RowKit
attribute [local go_sem ↓] Go.wp_at_zero Go.wp_at_succ

set_option maxHeartbeats 1000000 in
theorem compareNames_any (w0 : World) (A B u v : Value) (a b : ByteArray) (hA : A = .agg #[.string a, u]) (hB : B = .agg #[.string b, v]) (x y : AttrV) (hx : x.1 = a) (hy : y.1 = b) (w : World) (hu : ∃ o n c, u = .slice o n c) (hv : ∃ o n c, v = .slice o n c) (hBel : Below w0.heap.size w0 w) :
    Calls Tryz.prog 118 #[A, B] w fun e w' => (∃ c : Int, e = .returned (.int .i64 c) ∧ decide (0 ≤ c) = !(nameLt x y)) ∧ Below w0.heap.size w0 w' := by
  subst hA hB
  obtain ⟨uo, un, uc, rfl⟩ := hu
  obtain ⟨vo, vn, vc, rfl⟩ := hv
  have HC : Hid (decide (0 ≤ Lib.compareBytes a.data.toList b.data.toList) = !(nameLt x y)) := Lib.hid (by rw [compare_less]; unfold nameLt; rw [hx, hy, Lib.toList_data, Lib.toList_data])
  have HB := Lib.hid hBel; clear hBel hx hy
  go_enter Tryz.func118, Tryz.ntmps118
  go_wp2_with (first
    | (go_at_call 129; refine (Tryz.strings_Compare _ _ _).mono ?_; rintro e w3 ⟨rfl, rfl⟩)
    | (fail "none"))
  go_ret
  exact ⟨⟨_, rfl, HC.out⟩, more (more HB.out _) _⟩
set_option maxRecDepth 100000 in
set_option maxHeartbeats 1000000 in
theorem incAttr_any (ao : Option Addr) (l : List AttrV) (cap : Nat) (w : World) (hd : AttrsAt w ao l) (hl : l.length ≤ 1048576) :
    Calls Tryz.prog 117 #[.slice ao l.length cap, .func (.func 118) #[] #[]] w fun e w' => e = .returned (.bool (incB nameLt l)) ∧ Below w.heap.size w w' := by
  have HD := Lib.hid hd; clear hd
  go_enter Tryz.func117, Tryz.ntmps117
  go_wp2
  go_loopw [5] (fun i wr => ∃ m : Nat, m ≤ l.length ∧ i = .int .i64 ((m : Int) + 1) ∧ (∀ j (h : j + 1 < l.length), j < m → nameLt l[j] l[j + 1] = true) ∧ Below w.heap.size w wr) (fun i _ => l.length + 1 - (intOf i).toNat)
  case atStart => exact ⟨0, Nat.zero_le _, rfl, fun j _ h => absurd h (Nat.not_lt_zero _), Below.refl _ _⟩
  case round =>
    obtain ⟨m, hm, rfl, ha, hbel⟩ := hrel
    have Ha := Lib.hid ha; clear ha
    have hsz := hbel.size
    by_cases hlt : m + 1 < l.length
    · have hm0 : m < l.length := by omega
      obtain ⟨b, off, uo, uc, rfl, hw0, hd1, hd2, _⟩ := HD.out.at hm0
      obtain ⟨b', off', vo, vc, e, _, hd3, hd4, _⟩ := HD.out.at hlt
      cases e
      have g1 : (m : Int) + 1 < (l.length : Int) := by omega
      have g2 : (0 : Int) ≤ (m : Int) := by omega
      have g3 : (m : Int) < (l.length : Int) := by omega
      have g4 : (0 : Int) ≤ (m : Int) + 1 := by omega
      have HN : Hid (∀ j (h : j + 1 < l.length), j < m + 1 → nameLt l[m] l[m + 1] = true → nameLt l[j] l[j + 1] = true) := Lib.hid (fun j h hj hn => by
        by_cases e : j = m
        · subst e; exact hn
        · exact Ha.out j h (by omega))
      have HX : Hid (nameLt l[m] l[m + 1] = false → incB nameLt l = false) := Lib.hid (fun h => incB_no hlt h)
      generalize hx : l[m] = X at *
      generalize hy : l[m + 1] = Y at *
      clear hx hy
      obtain ⟨xa, xv⟩ := X
      obtain ⟨ya, yv⟩ := Y
      have SK : Hid (∀ W : World, Below w.heap.size w W → (Below w.heap.size w W ∧ W.cell? ⟨b, off + m * 2, none⟩ = some (.string xa) ∧ W.cell? ⟨b, off + m * 2 + 1, none⟩ = some (.slice uo xv.length uc) ∧ W.cell? ⟨b, off + (m + 1) * 2, none⟩ = some (.string ya) ∧ W.cell? ⟨b, off + (m + 1) * 2 + 1, none⟩ = some (.slice vo yv.length vc))) :=
        Lib.hid (fun W h => ⟨h, (h.cell (p := ⟨b, _, none⟩) hw0).trans hd1, (h.cell (p := ⟨b, _, none⟩) hw0).trans hd2, (h.cell (p := ⟨b, _, none⟩) hw0).trans hd3, (h.cell (p := ⟨b, _, none⟩) hw0).trans hd4⟩)
      have hbd := hbel.drew
      have hwr : IntKind.i64.wrap (m : Int) = (m : Int) := IntWalk.i64_in _ (by omega)
      have hwr2 : IntKind.i64.wrap ((m : Int) + 1 - 1) = (m : Int) := by rw [Int.add_sub_cancel]; exact hwr
      clear hd1 hd2 hd3 hd4
      cases hn : nameLt (xa, xv) (ya, yv)
      · have HX' := Lib.hid (HX.out hn)
        go_wp2_with fail
        go_region_held3 (fun W => Below w.heap.size w W ∧ W.cell? ⟨b, off + m * 2, none⟩ = some (.string xa) ∧ W.cell? ⟨b, off + m * 2 + 1, none⟩ = some (.slice uo xv.length uc) ∧ W.cell? ⟨b, off + (m + 1) * 2, none⟩ = some (.string ya) ∧ W.cell? ⟨b, off + (m + 1) * 2 + 1, none⟩ = some (.slice vo yv.length vc))
          (exact SK.out _ (by assumption))
          (first | (go_at_call 118; refine (compareNames_any w _ _ _ _ xa ya rfl rfl (xa, xv) (ya, yv) rfl rfl _ ⟨_, _, _, rfl⟩ ⟨_, _, _, rfl⟩ (by assumption)).mono ?_; rintro e w1 ⟨⟨c, rfl, hc⟩, hb1⟩; rw [hn] at hc; have hc0 : 0 ≤ c := (by simpa using hc); clear hc) | (fail "none"))
        all_goals
          go_wp2
          go_ret
          exact ⟨ret_bool (by rw [HX'.out]), hb1⟩
      · go_wp2_with fail
        go_region_held3 (fun W => Below w.heap.size w W ∧ W.cell? ⟨b, off + m * 2, none⟩ = some (.string xa) ∧ W.cell? ⟨b, off + m * 2 + 1, none⟩ = some (.slice uo xv.length uc) ∧ W.cell? ⟨b, off + (m + 1) * 2, none⟩ = some (.string ya) ∧ W.cell? ⟨b, off + (m + 1) * 2 + 1, none⟩ = some (.slice vo yv.length vc))
          (exact SK.out _ (by assumption))
          (first | (go_at_call 118; refine (compareNames_any w _ _ _ _ xa ya rfl rfl (xa, xv) (ya, yv) rfl rfl _ ⟨_, _, _, rfl⟩ ⟨_, _, _, rfl⟩ (by assumption)).mono ?_; rintro e w1 ⟨⟨c, rfl, hc⟩, hb1⟩; rw [hn] at hc; have hc0 : ¬ 0 ≤ c := (by simpa using hc); clear hc) | (fail "none"))
        all_goals
          go_wp2
          go_roundw
          case rel => exact ⟨m + 1, by omega, by go_num, fun j h hj => HN.out j h hj hn, hb1⟩
          case measure => simp [intOf]; omega
    · have HT : Hid (incB nameLt l = true) := Lib.hid (incB_yes fun j h => Ha.out j h (by omega))
      have g1 : ¬ (m : Int) + 1 < (l.length : Int) := by omega
      go_wp2
      go_ret
      exact ⟨ret_bool (by rw [HT.out]), hbel⟩
theorem attrsB_long {l : List AttrV} (h : 8 < l.length) : attrsB l = false := by unfold attrsB; simp [show ¬ l.length ≤ 8 by omega]
theorem attrsB_short {l : List AttrV} (h : l.length ≤ 8) : attrsB l = (l.all attrB && incB nameLt l) := by unfold attrsB; simp [h]
theorem FitsA.max {l : List AttrV} (h : FitsA l) {k : Nat} (hk : k < l.length) : l[k].1.size ≤ maxLen := by have := (h.at hk).1; unfold maxLen; omega
set_option maxRecDepth 100000 in
set_option maxHeartbeats 1000000 in
theorem attrsRight_any (ao : Option Addr) (l : List AttrV) (cap : Nat) (w : World) (hd : AttrsAt w ao l) (hf : FitsA l) :
    Calls Tryz.prog 107 #[.slice ao l.length cap] w fun e w' => e = .returned (.bool (attrsB l)) ∧ Below w.heap.size w w' := by
  have hl := hf.1
  have HD := Lib.hid hd; have HF := Lib.hid hf; clear hd hf
  by_cases h8 : 8 < l.length
  · have HV := Lib.hid (attrsB_long h8)
    have g8 : 8 < (l.length : Int) := by omega
    go_enter Tryz.func107, Tryz.ntmps107
    go_wp2
    go_ret
    exact ⟨ret_bool HV.out.symm, Below.refl _ _⟩
  · have HV := Lib.hid (attrsB_short (l := l) (by omega))
    have g8 : ¬ 8 < (l.length : Int) := by omega
    go_enter Tryz.func107, Tryz.ntmps107
    go_wp2
    go_loopw [10] (fun i wr => ∃ k : Nat, k ≤ l.length ∧ i = .int .i64 k ∧ (l.take k).all attrB = true ∧ Below w.heap.size w wr) (fun i _ => l.length - (intOf i).toNat)
    case atStart => exact ⟨0, Nat.zero_le _, rfl, rfl, Below.refl _ _⟩
    case round =>
      obtain ⟨k, hk, rfl, ha, hbel⟩ := hrel
      have Ha := Lib.hid ha; clear ha
      have hsz := hbel.size
      by_cases hlt : k < l.length
      · obtain ⟨b, off, vo, vc, rfl, hb0, hc1, hc2, hv⟩ := (HD.out.below hbel).at hlt
        have HVv := Lib.hid hv.1; clear hv
        have hz := HF.out.max hlt
        have HZ := Lib.hid (HF.out.at hlt).2
        generalize hr : attrB l[k] = r at *
        have HR := Lib.hid hr
        have HE : Hid (attrB (l[k].1, l[k].2) = r) := Lib.hid hr
        have HT : Hid (r = true → (l.take (k + 1)).all attrB = true) := Lib.hid (fun h => by rw [all_take attrB l k hlt, Ha.out, hr, h]; rfl)
        have HX : Hid (r = false → l.all attrB = false) := Lib.hid (fun h => all_bad attrB l k hlt (hr.trans h))
        clear hr HR
        generalize l[k].1 = A at *
        generalize l[k].2 = V at *
        cases r
        · have HX' := Lib.hid (HX.out rfl)
          go_wp2_with fail
          have hb1 := more hbel (.cells #[.string A, .slice vo V.length vc] 109)
          refine (attrRight_any A vo V vc _ hz (HVv.out.below (more (Below.refl _ _) _)) HZ.out).mono ?_
          rintro e w2 ⟨rfl, hb2⟩
          have B2 := Lib.hid (hb1.trans (hb2.mono hb1.size))
          rw [HE.out]
          clear hb1 hb2
          go_wp2
          go_ret
          exact ⟨ret_bool (by rw [HV.out, HX'.out]; rfl), B2.out⟩
        · have HT' := Lib.hid (HT.out rfl)
          go_wp2_with fail
          have hb1 := more hbel (.cells #[.string A, .slice vo V.length vc] 109)
          refine (attrRight_any A vo V vc _ hz (HVv.out.below (more (Below.refl _ _) _)) HZ.out).mono ?_
          rintro e w2 ⟨rfl, hb2⟩
          have B2 := Lib.hid (hb1.trans (hb2.mono hb1.size))
          rw [HE.out]
          clear hb1 hb2
          go_wp2
          go_roundw
          case rel => exact ⟨k + 1, by omega, by go_num, HT'.out, B2.out⟩
          case measure => simp [intOf]; omega
      · have e : l.take k = l := List.take_of_length_le (by omega)
        have HT : Hid (l.all attrB = true) := Lib.hid (by rw [← e]; exact Ha.out)
        clear e
        go_wp2_with fail
        refine (incAttr_any ao l cap wr (HD.out.below hbel) hl).mono ?_
        rintro e w2 ⟨rfl, hb2⟩
        have B2 := Lib.hid (hbel.trans (hb2.mono hsz))
        clear hb2
        go_wp2
        go_ret
        exact ⟨ret_bool (by rw [HV.out, HT.out]; simp), B2.out⟩
theorem rightB_eq (d : RdnL) (l : List AttrV) : rightB d l = (dnB d && decide (0 < d.length) && attrsB l) := rfl
set_option maxRecDepth 100000 in
set_option maxHeartbeats 1000000 in
theorem EntryRight_any (ao bo : Option Addr) (d : RdnL) (l : List AttrV) (ca cb : Nat) (w : World) (hd : DnAt w ao d) (hl : AttrsAt w bo l) (hfd : Fits d) (hfl : FitsA l) :
    Calls Tryz.prog 87 #[.agg #[.slice ao d.length ca, .slice bo l.length cb]] w fun e w' => e = .returned (.bool (rightB d l)) ∧ Below w.heap.size w w' := by
  have hdl := hfd.1
  have HD := Lib.hid hd; have HL := Lib.hid hl; have FD := Lib.hid hfd; have FL := Lib.hid hfl; clear hd hl hfd hfl
  have HB0 : Hid (Below w.heap.size w (w.alloc (.cells #[.slice ao d.length ca, .slice bo l.length cb] 46))) := Lib.hid (more (Below.refl _ _) _)
  have HE := Lib.hid (rightB_eq d l)
  go_enter Tryz.func87, Tryz.ntmps87
  go_wp2_with fail
  refine (DnRight_any ao d ca _ (HD.out.below HB0.out) FD.out).mono ?_
  rintro e w1 ⟨rfl, hb1⟩
  have B1 := Lib.hid (HB0.out.trans (hb1.mono HB0.out.size))
  have c0 : w1.cell? ⟨w.heap.size, 0, none⟩ = some (.slice ao d.length ca) := (hb1.cell (p := ⟨w.heap.size, 0, none⟩) (by simp)).trans (by unfold World.cell?; rw [heap_alloc_new]; rfl)
  have c1 : w1.cell? ⟨w.heap.size, 1, none⟩ = some (.slice bo l.length cb) := (hb1.cell (p := ⟨w.heap.size, 1, none⟩) (by simp)).trans (by unfold World.cell?; rw [heap_alloc_new]; rfl)
  clear hb1
  cases hr : dnB d
  · rw [hr] at HE
    go_wp2
    go_ret
    exact ⟨ret_bool (by rw [HE.out]; rfl), B1.out⟩
  · rw [hr] at HE
    by_cases h0 : 0 < d.length
    · have g0 : (0 : Int) < (d.length : Int) := by omega
      go_wp2_with fail
      refine (attrsRight_any bo l cb w1 (HL.out.below B1.out) FL.out).mono ?_
      rintro e w2 ⟨rfl, hb2⟩
      have B2 := Lib.hid (B1.out.trans (hb2.mono B1.out.size))
      clear hb2
      go_wp2
      go_ret
      exact ⟨ret_bool (by rw [HE.out]; simp [h0]), B2.out⟩
    · have g0 : ¬ (0 : Int) < (d.length : Int) := by omega
      go_wp2
      go_ret
      exact ⟨ret_bool (by rw [HE.out]; simp [h0]), B1.out⟩
end Go.Proofs.YtmanlnlhpgdbpaaGreat
/- The shapes of the types, as the earlier texts say them. -/
namespace Go.Proofs.YtmanlnlhpgdbpaaGreat
open Go.RowKit

theorem strs_of {S : Bs} {w : World} {l : List ByteArray} {ao : Option Addr} {n cap : Nat} (h : SlAt strE S w l (.slice ao n cap)) : StrsAt w ao l := by
  by_cases h0 : l = []
  · exact .inl h0
  have hl : 0 < l.length := List.length_pos_iff.2 h0
  obtain ⟨b, off, a0, e, _, hb, _, _⟩ := str_row h hl
  subst e
  refine .inr ⟨b, off, rfl, hb, fun i hi => ?_⟩
  obtain ⟨b', off', a0, e, _, _, hx, hc⟩ := str_row h hi
  cases e
  rw [hx]; exact hc
theorem dn_of {S : Bs} {w : World} {l : RdnL} {ao : Option Addr} {n cap : Nat} (h : SlAt rdnE S w l (.slice ao n cap)) : DnAt w ao l := by
  by_cases h0 : l = []
  · exact .inl h0
  have hl : 0 < l.length := List.length_pos_iff.2 h0
  obtain ⟨b, off, a0, a1, e, _, hb, _, _⟩ := rdn_row h hl
  subst e
  refine .inr ⟨b, off, rfl, hb, fun i hi => ?_⟩
  obtain ⟨b', off', a0, a1, e, _, _, hx, hc, _⟩ := rdn_row h hi
  cases e
  rw [hx]; exact hc
theorem SlAt.cap {α : Type} {e : Enc α} {S : Bs} {w : World} {l : List α} {ao : Option Addr} {n cap : Nat} (h : SlAt e S w l (.slice ao n cap)) : n = l.length ∧ l.length ≤ cap ∧ (ao = none → cap = 0) := by
  obtain ⟨ao', cap', e1, h2, h3, _⟩ := h
  injection e1 with e1 e2 e3
  subst e1 e3
  exact ⟨e2, h2, h3⟩
theorem attrs_of {S : Bs} {w : World} {l : List AttrV} {ao : Option Addr} {n cap : Nat} (h : SlAt attrE S w l (.slice ao n cap)) : AttrsAt w ao l := by
  by_cases h0 : l = []
  · exact .inl h0
  have hl : 0 < l.length := List.length_pos_iff.2 h0
  obtain ⟨b, off, a0, a1, v1, e, _, hb, _, _⟩ := attr_row h hl
  subst e
  refine .inr ⟨b, off, rfl, hb, fun i hi => ?_⟩
  obtain ⟨b', off', a0, a1, v1, e, _, _, hx, hc, hs, _⟩ := attr_row h hi
  cases e
  rw [hx]
  obtain ⟨o, c, rfl⟩ := hs.sl
  obtain ⟨q1, q2, q3⟩ := hs.cap
  exact ⟨hc.1, o, c, hc.2, strs_of hs, q2, q3⟩
theorem szL_str (l : List ByteArray) : szL strE l = sizeV l := rfl
theorem fits_dn {l : RdnL} (h : l.length + szL rdnE l ≤ 1048576) : Fits l := ⟨by omega, fun r hr => by
  have h1 : rdnE.sz r ≤ szL rdnE l := szL_mem rdnE hr
  have h2 : rdnE.sz r = r.1.size + r.2.size := rfl
  omega⟩
theorem fits_str {l : List ByteArray} (h : l.length + szL strE l ≤ 1048576) : FitsV l := fitsV_of (by rw [szL_str] at h; exact h)
theorem fits_attrs {l : List AttrV} (h : l.length + szL attrE l ≤ 1048576) : FitsA l := ⟨by omega, fun r hr => by
  have h1 : attrE.sz r ≤ szL attrE l := szL_mem attrE hr
  have h2 : attrE.sz r = r.1.size + (r.2.length + szL strE r.2) := rfl
  exact ⟨by omega, fits_str (by omega)⟩⟩
end Go.Proofs.YtmanlnlhpgdbpaaGreat
