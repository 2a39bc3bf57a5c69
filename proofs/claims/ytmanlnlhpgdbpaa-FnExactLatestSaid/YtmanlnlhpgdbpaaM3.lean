/- Merged texts: Norm, Norm2, Norm3, Name3, DnMath, Dn, Dn2, Own, Join, JoinR, Key, KeyMath, Key2. -/
import Derived.Test.YtmanlnlhpgdbpaaM2
import Derived.Lib.Strings
import Derived.Below
import Derived.Lib.BufferWrite
import Derived.Deep.OwnRows
import Derived.BigRegion
import Derived.Deep.DrawnRows
import Derived.Deep.Light
import Derived.Deep.RegionHeld3
import Derived.Deep.RegionWith
import Derived.Laws.Concat
import Derived.Laws.StructEq
/- Norm: what the texts of the program and of the specification return. -/
namespace Go.Proofs.Ytmanlnlhpgdbpaa
open Go.RowKit

set_option maxHeartbeats 400000 in
theorem isPrintable_any (s : ByteArray) (w : World) (hs : s.size ≤ maxLen) :
    Calls Try.prog 148 #[.string s] w fun e w' => e = .returned (.bool (plainB s.data.toList)) ∧ w = w' := by
  unfold maxLen at hs
  go_enter Try.func148, Try.ntmps148
  go_wp2
  go_loop [6] (fun i => ∃ k : Nat, k ≤ s.size ∧ i = .int .i64 k ∧ plainB (s.data.toList.take k) = true) (fun i => s.size - (intOf i).toNat)
  case atStart => exact ⟨0, Nat.zero_le _, rfl, rfl⟩
  case round =>
    obtain ⟨k, hk, rfl, ha⟩ := hrel
    have Ha := Lib.hid ha; clear ha
    by_cases hlt : k < s.size
    · have hts := Lib.hid (take_snoc s k hlt)
      by_cases hp : 32 ≤ (s[k].toNat : Int) ∧ (s[k].toNat : Int) ≤ 126
      · obtain ⟨c1, c2⟩ := hp
        have HT : Hid (plainB (s.data.toList.take (k + 1)) = true) := Lib.hid (by rw [hts.out, plainB_snoc, Ha.out]; simp; omega)
        go_wp2
        go_round
        case rel => exact ⟨k + 1, by omega, by go_num, HT.out⟩
        case measure => simp [intOf]; omega
      · have HF := Lib.hid (plainB_false s k hlt hp)
        by_cases c1 : 32 ≤ (s[k].toNat : Int)
        · have c2 : ¬ (s[k].toNat : Int) ≤ 126 := by omega
          clear hp
          go_wp2
          go_ret
          exact ⟨ret_bool HF.out.symm, rfl⟩
        · clear hp
          go_wp2
          go_ret
          exact ⟨ret_bool HF.out.symm, rfl⟩
    · have e : s.data.toList.take k = s.data.toList := List.take_of_length_le (by simp; omega)
      have HT : Hid (plainB s.data.toList = true) := Lib.hid (by rw [← e]; exact Ha.out)
      clear e
      go_wp2
      go_ret
      exact ⟨ret_bool HT.out.symm, rfl⟩
set_option maxHeartbeats 400000 in
theorem l02Plain_any (s : ByteArray) (w : World) (hs : s.size ≤ maxLen) :
    Calls Try.prog 121 #[.string s] w fun e w' => e = .returned (.bool (plainB s.data.toList)) ∧ w = w' := by
  unfold maxLen at hs
  go_enter Try.func121, Try.ntmps121
  go_wp2
  go_loop [3] (fun i => ∃ k : Nat, k ≤ s.size ∧ i = .int .i64 k ∧ plainB (s.data.toList.take k) = true) (fun i => s.size - (intOf i).toNat)
  case atStart => exact ⟨0, Nat.zero_le _, rfl, rfl⟩
  case round =>
    obtain ⟨k, hk, rfl, ha⟩ := hrel
    have Ha := Lib.hid ha; clear ha
    by_cases hlt : k < s.size
    · have hts := Lib.hid (take_snoc s k hlt)
      by_cases hp : 32 ≤ (s[k].toNat : Int) ∧ (s[k].toNat : Int) ≤ 126
      · obtain ⟨c1, c2⟩ := hp
        have HT : Hid (plainB (s.data.toList.take (k + 1)) = true) := Lib.hid (by rw [hts.out, plainB_snoc, Ha.out]; simp; omega)
        go_wp2
        go_round
        case rel => exact ⟨k + 1, by omega, by go_num, HT.out⟩
        case measure => simp [intOf]; omega
      · have HF := Lib.hid (plainB_false s k hlt hp)
        by_cases c1 : 32 ≤ (s[k].toNat : Int)
        · have c2 : ¬ (s[k].toNat : Int) ≤ 126 := by omega
          clear hp
          go_wp2
          go_ret
          exact ⟨ret_bool HF.out.symm, rfl⟩
        · clear hp
          go_wp2
          go_ret
          exact ⟨ret_bool HF.out.symm, rfl⟩
    · have e : s.data.toList.take k = s.data.toList := List.take_of_length_le (by simp; omega)
      have HT : Hid (plainB s.data.toList = true) := Lib.hid (by rw [← e]; exact Ha.out)
      clear e
      go_wp2
      go_ret
      exact ⟨ret_bool HT.out.symm, rfl⟩

theorem ret_int' {k : IntKind} {a b : Int} (h : a = b) : Ending.returned (.int k a) = .returned (.int k b) := by rw [h]
set_option maxHeartbeats 400000 in
theorem lowerByte_any (c : UInt8) (w : World) :
    Calls Try.prog 149 #[.int .u8 (c.toNat : Int)] w fun e w' => e = .returned (.int .u8 ((low c).toNat : Int)) ∧ w = w' := by
  by_cases h : 65 ≤ c.toNat ∧ c.toNat ≤ 90
  · have H := Lib.hid (low_in c h)
    have h1 : 65 ≤ (c.toNat : Int) := by omega
    have h2 : (c.toNat : Int) ≤ 90 := by omega
    clear h
    go_enter Try.func149, Try.ntmps149
    go_wp2
    go_ret
    exact ⟨ret_int' (by rw [H.out]; omega), rfl⟩
  · have H := Lib.hid (low_out c h)
    by_cases h1 : 65 ≤ (c.toNat : Int)
    · have h2 : ¬ (c.toNat : Int) ≤ 90 := by omega
      clear h
      go_enter Try.func149, Try.ntmps149
      go_wp2
      go_ret
      exact ⟨ret_int' (by rw [H.out]), rfl⟩
    · clear h
      go_enter Try.func149, Try.ntmps149
      go_wp2
      go_ret
      exact ⟨ret_int' (by rw [H.out]), rfl⟩
end Go.Proofs.Ytmanlnlhpgdbpaa
/- Norm: what the specification's text returns. -/
namespace Go.Proofs.Ytmanlnlhpgdbpaa
open Go.RowKit

theorem last_some {pre : List UInt8} (h : pre ≠ []) : ∃ c, pre.getLast? = some c := ⟨pre.getLast h, List.getLast?_eq_some_getLast h⟩
theorem Try.elem30 : Try.prog.elem 30 = 5 := by kernel_rfl
/-- the row without its last byte -/
theorem cut_last (W : World) (g n cap : Nat) (hn : 0 < n) (hc : n ≤ cap) :
    (Instr.slice 30 (.slice (some ⟨g, 0, none⟩) n cap) none (some (.int .i64 ((n : Int) - 1))) none).run Try.prog W = .ok (.slice (some ⟨g, 0, none⟩) (n - 1) cap) W := by
  rw [run_slice_h W 30 (some ⟨g, 0, none⟩) n cap (by rw [Try.elem30]; exact Try.underlying30) .i64 ((n : Int) - 1) (by omega) (by omega), Try.elem30, Try.size5]
  have e : ((n : Int) - 1).toNat = n - 1 := by omega
  simp [Result.andThen, sliced, e]
  intro _; exact add_plain g 0
theorem own_cap {w : World} {B e z n m cap : Nat} {ao : Option Addr} {xs : List Value} (h : w.ownsRow B e z (.slice ao m cap) n xs) : n ≤ cap := by
  rcases h.2 with ⟨h, h'⟩ | ⟨_, _, _, h, _, _, h', _⟩
  · omega
  · injection h with _ _ h; omega
/-- what is known at the head of a round of Norm -/
def NormAt (s : ByteArray) (w : World) (v i : Value) (wr : World) (k : Nat) : Prop :=
  k ≤ s.size ∧ i = .int .i64 k ∧ wr.ownsRow w.heap.size 5 1 v (nfold (s.data.toList.take k)).length (bs (nfold (s.data.toList.take k))) ∧ Below w.heap.size w wr
theorem nat_of_u8 {c : UInt8} {n : Nat} (h : (c.toNat : Int) = n) (hn : n < 256) : c = UInt8.ofNat n := by
  apply UInt8.toNat_inj.1
  simp; omega
theorem nfold_take (s : ByteArray) (k : Nat) (h : k < s.size) : nfold (s.data.toList.take (k + 1)) = nstep (nfold (s.data.toList.take k)) s[k] := by rw [take_snoc s k h, nfold_snoc]
theorem nfold_take_len (s : ByteArray) (k : Nat) (hs : s.size ≤ 100) : (nfold (s.data.toList.take k)).length ≤ 100 := by
  refine Nat.le_trans (nfold_len _) ?_
  rw [List.length_take, size_len]; omega

set_option maxRecDepth 100000 in
set_option maxHeartbeats 1000000 in
theorem SpecNorm_in (s : ByteArray) (w : World) (hs : s.size ≤ 100) (hp : plainB s.data.toList = true) :
    Calls Try.prog 95 #[.string s] w fun e w' => e = .returned (.string (normS s)) ∧ Below w.heap.size w w' := by
  have HP := Lib.hid hp
  have hm : s.size ≤ maxLen := by unfold maxLen; omega
  go_enter Try.func95, Try.ntmps95
  go_wp2_with (first | (go_at_call 121; refine (l02Plain_any _ _ hm).mono ?_; rintro e w' ⟨rfl, rfl⟩))
  clear hp
  go_loopw [3, 4] (fun v i wr => ∃ k : Nat, NormAt s w v i wr k) (fun _ i _ => s.size - (intOf i).toNat)
  case atStart => exact ⟨0, Nat.zero_le _, rfl, World.ownsRow_made _ _ 0 (Nat.le_refl _) (by unfold maxLen; omega) rfl, (Below.refl _ _).alloc (Nat.le_refl _) _⟩
  case round =>
    obtain ⟨k, hk, rfl, hown, hbel⟩ := hrel
    have hlen := nfold_take_len s k hs
    obtain ⟨ao, cap, rfl⟩ := own_slice hown
    have hsz := hbel.size
    by_cases hlt : k < s.size
    · have HN := Lib.hid (nfold_take s k hlt)
      generalize nfold (s.data.toList.take k) = pre at *
      by_cases hcap : 65 ≤ (s[k].toNat : Int) ∧ (s[k].toNat : Int) ≤ 90
      · obtain ⟨c1, c2⟩ := hcap
        have hlow := low_in s[k] (by omega)
        have HE : Hid (nfold (s.data.toList.take (k + 1)) = pre ++ [low s[k]]) := Lib.hid (by
          rw [HN.out]; exact nstep_add (fun h => by have := congrArg UInt8.toNat h.1; simp at this; omega))
        have HL := Lib.hid hlow.symm; clear hlow
        go_wp2_with (first | (at_builtin; refine append_byte w.heap.size rfl _ _ rfl _ pre rfl hown (low s[k]) _ HL.out rfl (by omega) hsz hbel ?_; intro v' w1 hown' hbel' hsz'))
        go_roundw
        case rel => exact ⟨k + 1, by omega, by go_num, by rw [HE.out]; exact hown', hbel'⟩
        case measure => simp [intOf]; omega
      · have HL := Lib.hid (low_out s[k] (by omega))
        by_cases hsp : (s[k].toNat : Int) = 32
        · have hb1 : ((s[k].toNat : Int) == 32) = true := by rw [hsp]; rfl
          have hb2 : ¬ 65 ≤ (s[k].toNat : Int) := by omega
          have HS := Lib.hid (nat_of_u8 (n := 32) hsp (by omega))
          clear hcap hsp
          by_cases hne : pre = []
          · subst hne
            have HE : Hid (nfold (s.data.toList.take (k + 1)) = []) := Lib.hid (by rw [HN.out]; exact nstep_skip HS.out (.inl rfl))
            have hb3 : (([] : List UInt8).length : Int) = 0 := rfl
            rw [List.length_nil] at hown ⊢
            go_wp2
            go_roundw
            case rel => exact ⟨k + 1, by omega, by go_num, by rw [HE.out]; exact hown, hbel⟩
            case measure => simp [intOf]; omega
          · have h0 : 0 < pre.length := List.length_pos_iff.2 hne
            obtain ⟨d, hd⟩ := last_some hne
            obtain ⟨g, rfl, hcell⟩ := own_last hown rfl hd
            have HD := Lib.hid hd
            have hb3 : ((pre.length : Int) == 0) = false := by rw [beq_eq_false_iff_ne]; omega
            by_cases hds : (d.toNat : Int) = 32
            · have hb4 : ((d.toNat : Int) == 32) = true := by rw [hds]; rfl
              have HE : Hid (nfold (s.data.toList.take (k + 1)) = pre) := Lib.hid (by rw [HN.out]; exact nstep_skip HS.out (.inr (by rw [HD.out, nat_of_u8 (n := 32) hds (by omega)]; rfl)))
              clear hd hds hne
              go_wp2
              go_roundw
              case rel => exact ⟨k + 1, by omega, by go_num, by rw [HE.out]; exact hown, hbel⟩
              case measure => simp [intOf]; omega
            · have hb4 : ((d.toNat : Int) == 32) = false := by rw [beq_eq_false_iff_ne]; exact hds
              have HE : Hid (nfold (s.data.toList.take (k + 1)) = pre ++ [s[k]]) := Lib.hid (by
                rw [HN.out, nstep_add, HL.out]
                rintro ⟨_, h | h⟩
                · exact hne h
                · rw [HD.out] at h; have := Option.some.inj h; subst this; exact hds rfl)
              clear hd hds hne
              go_wp2_with (first | (at_builtin; refine append_byte w.heap.size rfl _ _ rfl _ pre rfl hown s[k] _ rfl rfl (by omega) hsz hbel ?_; intro v' w1 hown' hbel' hsz'))
              go_roundw
              case rel => exact ⟨k + 1, by omega, by go_num, by rw [HE.out]; exact hown', hbel'⟩
              case measure => simp [intOf]; omega
        · have hb1 : ((s[k].toNat : Int) == 32) = false := by rw [beq_eq_false_iff_ne]; exact hsp
          have HE : Hid (nfold (s.data.toList.take (k + 1)) = pre ++ [s[k]]) := Lib.hid (by
            rw [HN.out, nstep_add, HL.out]
            rintro ⟨h, _⟩
            rw [h] at hsp; exact hsp rfl)
          by_cases c1 : 65 ≤ (s[k].toNat : Int)
          · have c2 : ¬ (s[k].toNat : Int) ≤ 90 := by omega
            clear hcap hsp
            go_wp2_with (first | (at_builtin; refine append_byte w.heap.size rfl _ _ rfl _ pre rfl hown s[k] _ rfl rfl (by omega) hsz hbel ?_; intro v' w1 hown' hbel' hsz'))
            go_roundw
            case rel => exact ⟨k + 1, by omega, by go_num, by rw [HE.out]; exact hown', hbel'⟩
            case measure => simp [intOf]; omega
          · clear hcap hsp
            go_wp2_with (first | (at_builtin; refine append_byte w.heap.size rfl _ _ rfl _ pre rfl hown s[k] _ rfl rfl (by omega) hsz hbel ?_; intro v' w1 hown' hbel' hsz'))
            go_roundw
            case rel => exact ⟨k + 1, by omega, by go_num, by rw [HE.out]; exact hown', hbel'⟩
            case measure => simp [intOf]; omega
    · have e : s.data.toList.take k = s.data.toList := List.take_of_length_le (by simp; omega)
      rw [e] at hown hlen ⊢
      have HR : Hid (normS s = ⟨(chop (nfold s.data.toList)).toArray⟩) := Lib.hid (by unfold normS; rw [normL_in (by simpa using hs) HP.out])
      clear e
      generalize nfold s.data.toList = pre at *
      by_cases hne : pre = []
      · subst hne
        have hcv := str_own _ _ _ [] hown
        have HC : Hid (chop [] = []) := Lib.hid rfl
        rw [List.length_nil] at hown hcv ⊢
        go_wp2
        go_ret
        exact ⟨ret_str (by rw [HR.out, HC.out]), hbel⟩
      · have h0 : 0 < pre.length := List.length_pos_iff.2 hne
        obtain ⟨d, hd⟩ := last_some hne
        obtain ⟨g, rfl, hcell⟩ := own_last hown rfl hd
        have HD := Lib.hid hd
        by_cases hds : (d.toNat : Int) = 32
        · have hb4 : ((d.toNat : Int) == 32) = true := by rw [hds]; rfl
          have HC : Hid (chop pre = pre.dropLast) := Lib.hid (by unfold chop; rw [if_pos]; rw [HD.out, nat_of_u8 (n := 32) hds (by omega)]; rfl)
          have hcut := fun W => cut_last W g pre.length cap h0 (own_cap hown)
          have hcv := str22 wr ⟨g, 0, none⟩ cap pre.dropLast (pre.length - 1) (by simp) (fun j hj => by
            rw [List.length_dropLast] at hj
            rw [List.getElem_dropLast]
            exact hown.cells (g := g) rfl j _ (by simp [bs, List.getElem?_eq_getElem (show j < pre.length by omega)]))
          clear hd hds hne
          go_wp2
          go_ret
          exact ⟨ret_str (by rw [HR.out, HC.out]), hbel⟩
        · have hb4 : ((d.toNat : Int) == 32) = false := by rw [beq_eq_false_iff_ne]; exact hds
          have HC : Hid (chop pre = pre) := Lib.hid (by unfold chop; rw [if_neg]; intro h; rw [HD.out] at h; have := Option.some.inj h; subst this; exact hds rfl)
          have hcv := str_own _ _ _ pre hown
          clear hd hds hne
          go_wp2
          go_ret
          exact ⟨ret_str (by rw [HR.out, HC.out]), hbel⟩
end Go.Proofs.Ytmanlnlhpgdbpaa
/- Norm: what the program's text returns. -/
namespace Go.Proofs.Ytmanlnlhpgdbpaa
open Go.RowKit

def endsB (l : List UInt8) : Bool := l.getLast? == some 32
theorem extract_list (s : ByteArray) (i j : Nat) : (s.extract i j).data.toList = (s.data.toList.take j).drop i := by
  rw [ByteArray.data_extract, Array.toList_extract]; simp [List.extract, List.drop_take]
theorem ends_last (s : ByteArray) (h : 1 ≤ s.size) : ((s.extract (s.size - 1) s.size).toList == [32]) = endsB s.data.toList := by
  have hl : s.data.toList.length = s.size := size_len s
  rw [Lib.toList_data, extract_list, List.take_of_length_le (by omega)]
  unfold endsB
  have hne : s.data.toList ≠ [] := by intro e; rw [e] at hl; simp at hl; omega
  rw [List.getLast?_eq_some_getLast hne]
  have e : s.data.toList.drop (s.size - 1) = [s.data.toList.getLast hne] := by
    have h2 := List.dropLast_concat_getLast hne
    have h3 : s.data.toList.dropLast.length = s.size - 1 := by rw [List.length_dropLast, hl]
    calc s.data.toList.drop (s.size - 1) = (s.data.toList.dropLast ++ [s.data.toList.getLast hne]).drop (s.size - 1) := by rw [h2]
      _ = _ := by rw [← h3, List.drop_left]
  rw [e]
  simp
set_option maxHeartbeats 400000 in
theorem hasSuffix_any (s : ByteArray) (w : World) (hs : s.size ≤ maxLen) :
    Calls Try.prog 153 #[.string s, .string ⟨#[32]⟩] w fun e w' => e = .returned (.bool (endsB s.data.toList)) ∧ w = w' := by
  unfold maxLen at hs
  by_cases h1 : 1 ≤ s.size
  · have HE := Lib.hid (ends_last s h1)
    go_enter Try.func153, Try.ntmps153
    go_wp2
    go_ret
    exact ⟨ret_bool (by rw [← HE.out]), rfl⟩
  · have HE : Hid (endsB s.data.toList = false) := Lib.hid (by
      have : s.data.toList = [] := List.eq_nil_of_length_eq_zero (by rw [size_len]; omega)
      rw [this]; rfl)
    go_enter Try.func153, Try.ntmps153
    go_wp2
    go_ret
    exact ⟨ret_bool HE.out.symm, rfl⟩
theorem chop_ends (s : ByteArray) (h : endsB s.data.toList = true) : 1 ≤ s.size ∧ (⟨(chop s.data.toList).toArray⟩ : ByteArray) = s.extract 0 (s.size - 1) := by
  have hl := size_len s
  have h' : s.data.toList.getLast? = some 32 := by simpa [endsB] using h
  have h1 : 1 ≤ s.size := by
    rcases hd : s.data.toList with _ | ⟨x, l⟩
    · rw [hd] at h'; simp at h'
    · rw [hd] at hl; simp at hl; omega
  refine ⟨h1, ?_⟩
  apply ByteArray.ext
  apply Array.toList_inj.1
  rw [extract_list]
  unfold chop
  rw [if_pos h', List.dropLast_eq_take, hl]; simp
theorem chop_not (s : ByteArray) (h : endsB s.data.toList = false) : (⟨(chop s.data.toList).toArray⟩ : ByteArray) = s := by
  have h' : ¬ s.data.toList.getLast? = some 32 := by intro e; simp [endsB, e] at h
  unfold chop
  rw [if_neg h']
set_option maxHeartbeats 400000 in
theorem trimIn_any (s : ByteArray) (w : World) (hs : s.size ≤ maxLen) :
    Calls Try.prog 152 #[.string s, .string ⟨#[32]⟩] w fun e w' => e = .returned (.string ⟨(chop s.data.toList).toArray⟩) ∧ w = w' := by
  have hM := hs
  unfold maxLen at hs
  cases hb : endsB s.data.toList
  · have HE := Lib.hid (chop_not s hb)
    go_enter Try.func152, Try.ntmps152
    go_wp2_with (first | (go_at_call 153; refine (hasSuffix_any _ _ hM).mono ?_; rintro e w' ⟨rfl, rfl⟩))
    go_ret
    exact ⟨ret_str (by rw [HE.out]), rfl⟩
  · obtain ⟨h1, hc⟩ := chop_ends s hb
    have HE := Lib.hid hc; clear hc
    go_enter Try.func152, Try.ntmps152
    go_wp2_with (first | (go_at_call 153; refine (hasSuffix_any _ _ hM).mono ?_; rintro e w' ⟨rfl, rfl⟩))
    go_ret
    exact ⟨ret_str (by rw [HE.out]), rfl⟩
set_option maxHeartbeats 400000 in
theorem trim_any (s : ByteArray) (w : World) (hs : s.size ≤ maxLen) :
    Calls Try.prog 150 #[.string s, .string ⟨#[32]⟩] w fun e w' => e = .returned (.string ⟨(chop s.data.toList).toArray⟩) ∧ w = w' := by
  go_enter Try.func150, Try.ntmps150
  go_wp2_with (first | (go_at_call 152; refine (trimIn_any _ _ hs).mono ?_; rintro e w' ⟨rfl, rfl⟩))
  go_ret
  exact ⟨rfl, rfl⟩

set_option maxRecDepth 100000 in
set_option maxHeartbeats 1000000 in
theorem Norm_in (s : ByteArray) (w : World) (hs : s.size ≤ 100) (hp : plainB s.data.toList = true) :
    Calls Try.prog 144 #[.string s] w fun e w' => e = .returned (.string (normS s)) ∧ Below w.heap.size w w' := by
  have HP := Lib.hid hp
  have hm : s.size ≤ maxLen := by unfold maxLen; omega
  go_enter Try.func144, Try.ntmps144
  go_wp2_with (first | (go_at_call 148; refine (isPrintable_any _ _ hm).mono ?_; rintro e w' ⟨rfl, rfl⟩))
  clear hp
  go_loopw [3, 16] (fun v i wr => ∃ k : Nat, NormAt s w v i wr k) (fun _ i _ => s.size - (intOf i).toNat)
  case atStart => exact ⟨0, Nat.zero_le _, rfl, ⟨rfl, .inl ⟨rfl, rfl⟩⟩, Below.refl _ _⟩
  case round =>
    obtain ⟨k, hk, rfl, hown, hbel⟩ := hrel
    have hlen := nfold_take_len s k hs
    obtain ⟨ao, cap, rfl⟩ := own_slice hown
    have hsz := hbel.size
    by_cases hlt : k < s.size
    · have HN := Lib.hid (nfold_take s k hlt)
      generalize nfold (s.data.toList.take k) = pre at *
      by_cases hsp : (s[k].toNat : Int) = 32
      · have hb1 : ((s[k].toNat : Int) == 32) = true := by rw [hsp]; rfl
        have HS := Lib.hid (nat_of_u8 (n := 32) hsp (by omega))
        clear hsp
        by_cases hne : pre = []
        · subst hne
          have HE : Hid (nfold (s.data.toList.take (k + 1)) = []) := Lib.hid (by rw [HN.out]; exact nstep_skip HS.out (.inl rfl))
          have hb3 : (([] : List UInt8).length : Int) = 0 := rfl
          rw [List.length_nil] at hown ⊢
          go_wp2
          go_roundw
          case rel => exact ⟨k + 1, by omega, by go_num, by rw [HE.out]; exact hown, hbel⟩
          case measure => simp [intOf]; omega
        · have h0 : 0 < pre.length := List.length_pos_iff.2 hne
          obtain ⟨d, hd⟩ := last_some hne
          obtain ⟨g, rfl, hcell⟩ := own_last hown rfl hd
          have HD := Lib.hid hd
          have hb3 : ((pre.length : Int) == 0) = false := by rw [beq_eq_false_iff_ne]; omega
          by_cases hds : (d.toNat : Int) = 32
          · have hb4 : ((d.toNat : Int) == 32) = true := by rw [hds]; rfl
            have HE : Hid (nfold (s.data.toList.take (k + 1)) = pre) := Lib.hid (by rw [HN.out]; exact nstep_skip HS.out (.inr (by rw [HD.out, nat_of_u8 (n := 32) hds (by omega)]; rfl)))
            clear hd hds hne
            go_wp2
            go_roundw
            case rel => exact ⟨k + 1, by omega, by go_num, by rw [HE.out]; exact hown, hbel⟩
            case measure => simp [intOf]; omega
          · have hb4 : ((d.toNat : Int) == 32) = false := by rw [beq_eq_false_iff_ne]; exact hds
            have HE : Hid (nfold (s.data.toList.take (k + 1)) = pre ++ [low s[k]]) := Lib.hid (by
              rw [HN.out, nstep_add]
              rintro ⟨_, h | h⟩
              · exact hne h
              · rw [HD.out] at h; have := Option.some.inj h; subst this; exact hds rfl)
            clear hd hds hne
            go_wp2_with (first | (go_at_call 149; refine (lowerByte_any _ _).mono ?_; rintro e w' ⟨rfl, rfl⟩) | (at_builtin; refine append_byte w.heap.size rfl _ _ rfl _ pre rfl hown (low s[k]) _ rfl rfl (by omega) hsz hbel ?_; intro v' w1 hown' hbel' hsz'))
            go_roundw
            case rel => exact ⟨k + 1, by omega, by go_num, by rw [HE.out]; exact hown', hbel'⟩
            case measure => simp [intOf]; omega
      · have hb1 : ((s[k].toNat : Int) == 32) = false := by rw [beq_eq_false_iff_ne]; exact hsp
        have HE : Hid (nfold (s.data.toList.take (k + 1)) = pre ++ [low s[k]]) := Lib.hid (by
          rw [HN.out, nstep_add]
          rintro ⟨h, _⟩
          rw [h] at hsp; exact hsp rfl)
        clear hsp
        go_wp2_with (first | (go_at_call 149; refine (lowerByte_any _ _).mono ?_; rintro e w' ⟨rfl, rfl⟩) | (at_builtin; refine append_byte w.heap.size rfl _ _ rfl _ pre rfl hown (low s[k]) _ rfl rfl (by omega) hsz hbel ?_; intro v' w1 hown' hbel' hsz'))
        go_roundw
        case rel => exact ⟨k + 1, by omega, by go_num, by rw [HE.out]; exact hown', hbel'⟩
        case measure => simp [intOf]; omega
    · have e : s.data.toList.take k = s.data.toList := List.take_of_length_le (by simp; omega)
      rw [e] at hown hlen ⊢
      have HR : Hid (normS s = ⟨(chop (nfold s.data.toList)).toArray⟩) := Lib.hid (by unfold normS; rw [normL_in (by simpa using hs) HP.out])
      clear e
      generalize nfold s.data.toList = pre at *
      have hcv := str_own _ _ _ _ hown
      have hpm : (⟨pre.toArray⟩ : ByteArray).size ≤ maxLen := by unfold maxLen; simp [ByteArray.size]; omega
      have HX := Lib.hid (fun w => trim_any ⟨pre.toArray⟩ w hpm)
      go_wp2_with (first | (go_at_call 150; refine (HX.out _).mono ?_; rintro e w' ⟨rfl, rfl⟩))
      go_ret
      exact ⟨ret_str HR.out.symm, hbel⟩
theorem normS_long (s : ByteArray) (h : ¬ s.size ≤ 100) : normS s = ByteArray.empty := by unfold normS; rw [normL_long (by rw [size_len]; exact h)]; rfl
theorem normS_odd (s : ByteArray) (h : plainB s.data.toList = false) : normS s = ByteArray.empty := by unfold normS; rw [normL_odd h]; rfl
set_option maxHeartbeats 400000 in
theorem Norm_any (s : ByteArray) (w : World) (hs : s.size ≤ maxLen) :
    Calls Try.prog 144 #[.string s] w fun e w' => e = .returned (.string (normS s)) ∧ Below w.heap.size w w' := by
  by_cases h1 : s.size ≤ 100
  · cases hp : plainB s.data.toList
    · have HR := Lib.hid (normS_odd s hp)
      go_enter Try.func144, Try.ntmps144
      go_wp2_with (first | (go_at_call 148; refine (isPrintable_any _ _ hs).mono ?_; rintro e w' ⟨rfl, rfl⟩))
      go_ret
      exact ⟨ret_str HR.out.symm, Below.refl _ _⟩
    · exact Norm_in s w h1 hp
  · have HR := Lib.hid (normS_long s h1)
    have h1' : 100 < s.size := by omega
    clear h1
    unfold maxLen at hs
    go_enter Try.func144, Try.ntmps144
    go_wp2
    go_ret
    exact ⟨ret_str HR.out.symm, Below.refl _ _⟩
set_option maxHeartbeats 400000 in
theorem SpecNorm_any (s : ByteArray) (w : World) (hs : s.size ≤ maxLen) :
    Calls Try.prog 95 #[.string s] w fun e w' => e = .returned (.string (normS s)) ∧ Below w.heap.size w w' := by
  by_cases h1 : s.size ≤ 100
  · cases hp : plainB s.data.toList
    · have HR := Lib.hid (normS_odd s hp)
      go_enter Try.func95, Try.ntmps95
      go_wp2_with (first | (go_at_call 121; refine (l02Plain_any _ _ hs).mono ?_; rintro e w' ⟨rfl, rfl⟩))
      go_ret
      exact ⟨ret_str HR.out.symm, Below.refl _ _⟩
    · exact SpecNorm_in s w h1 hp
  · have HR := Lib.hid (normS_long s h1)
    have h1' : 100 < s.size := by omega
    clear h1
    unfold maxLen at hs
    go_enter Try.func95, Try.ntmps95
    go_wp2
    go_ret
    exact ⟨ret_str HR.out.symm, Below.refl _ _⟩
end Go.Proofs.Ytmanlnlhpgdbpaa
/- What the specification's text of NameRight returns. -/
namespace Go.Proofs.Ytmanlnlhpgdbpaa
open Go.RowKit

/-- the first k bytes are as they must be -/
def goodTo (s : ByteArray) (k : Nat) : Bool := allB (s.data.toList.take k) && (decide (k = 0) || letB ((s.data.toList.getD 0 0).toNat : Int))

theorem nameB_of_let {c : Int} (h : letB c = true) : nameB c = true := by simp [nameB, h]

set_option maxHeartbeats 1000000 in
theorem SpecNameRight_any (s : ByteArray) (w : World) (hs : s.size ≤ maxLen) :
    Calls Try.prog 23 #[.string s] w fun e w' => e = .returned (.bool (nmL s)) ∧ w = w' := by
  unfold maxLen at hs
  by_cases h1 : s.size < 1
  · have hf : nmL s = false := by have : ¬ 1 ≤ s.size := by omega
                                  simp [nmL, this]
    have Hf := Lib.hid hf; clear hf
    go_enter Try.func23, Try.ntmps23
    go_wp2
    go_ret
    exact ⟨ret_bool Hf.out.symm, rfl⟩
  by_cases h2 : 20 < s.size
  · have hf : nmL s = false := by have : ¬ s.size ≤ 20 := by omega
                                  simp [nmL, this]
    have Hf := Lib.hid hf; clear hf
    go_enter Try.func23, Try.ntmps23
    go_wp2
    go_ret
    exact ⟨ret_bool Hf.out.symm, rfl⟩
  have h0 : 0 < s.size := by omega
  have Hg := Lib.hid (getD_zero s h0)
  go_enter Try.func23, Try.ntmps23
  go_wp2
  go_loop [3] (fun i => ∃ k : Nat, k ≤ s.size ∧ i = .int .i64 k ∧ allB (s.data.toList.take k) = true ∧ (0 < k → letB ((s.data.toList.getD 0 0).toNat : Int) = true)) (fun i => s.size - (intOf i).toNat)
  case atStart => exact ⟨0, Nat.zero_le _, rfl, rfl, fun h => absurd h (by omega)⟩
  case round =>
    obtain ⟨k, hk, rfl, ha, hl⟩ := hrel
    have Ha := Lib.hid ha; clear ha
    have Hl := Lib.hid hl; clear hl
    by_cases hlt : k < s.size
    · have hts := Lib.hid (take_snoc s k hlt)
      by_cases hL : 97 ≤ (s[k].toNat : Int) ∧ (s[k].toNat : Int) ≤ 122
      · obtain ⟨c1, c2⟩ := hL
        have hb : letB (s[k].toNat : Int) = true := by simp [letB]; omega
        have hT : allB (s.data.toList.take (k + 1)) = true := by rw [hts.out, allB_snoc, Ha.out, nameB_of_let hb]; rfl
        have HT := Lib.hid hT; clear hT
        have hZ : letB ((s.data.toList.getD 0 0).toNat : Int) = true := by
          by_cases e : k = 0
          · subst e; rw [Hg.out]; exact hb
          · exact Hl.out (by omega)
        have HZ := Lib.hid hZ; clear hZ hb
        go_wp2
        go_round
        case rel => exact ⟨k + 1, by omega, by go_num, HT.out, fun _ => HZ.out⟩
        case measure => simp [intOf]; omega
      · have hb : letB (s[k].toNat : Int) = false := by simp [letB]; omega
        by_cases e : k = 0
        · subst e
          have hF : nmL s = false := by simp only [nmL, Hg.out, hb]; simp
          have HF := Lib.hid hF; clear hF hb
          by_cases c1 : 97 ≤ (s[0].toNat : Int)
          · have c2 : ¬ (s[0].toNat : Int) ≤ 122 := by omega
            clear hL
            go_wp2
            go_ret
            exact ⟨ret_bool HF.out.symm, rfl⟩
          · clear hL
            go_wp2
            go_ret
            exact ⟨ret_bool HF.out.symm, rfl⟩
        · have hz : ((k : Int) == 0) = false := by rw [beq_eq_false_iff_ne]; omega
          by_cases hD : 48 ≤ (s[k].toNat : Int) ∧ (s[k].toNat : Int) ≤ 57
          · obtain ⟨c1, c2⟩ := hD
            have c3 : ¬ 97 ≤ (s[k].toNat : Int) := by omega
            have hb : nameB (s[k].toNat : Int) = true := by simp [nameB, digB]; omega
            have hT : allB (s.data.toList.take (k + 1)) = true := by rw [hts.out, allB_snoc, Ha.out, hb]; rfl
            have HT := Lib.hid hT; clear hT hL hb
            go_wp2
            go_round
            case rel => exact ⟨k + 1, by omega, by go_num, HT.out, fun _ => Hl.out (by omega)⟩
            case measure => simp [intOf]; omega
          · by_cases hU : (s[k].toNat : Int) = 95
            · have c3 : ¬ 97 ≤ (s[k].toNat : Int) := by omega
              have c1 : 48 ≤ (s[k].toNat : Int) := by omega
              have c2 : ¬ (s[k].toNat : Int) ≤ 57 := by omega
              have hb : nameB (s[k].toNat : Int) = true := by simp [nameB]; omega
              have hT : allB (s.data.toList.take (k + 1)) = true := by rw [hts.out, allB_snoc, Ha.out, hb]; rfl
              have hu : ((s[k].toNat : Int) != 95) = false := by rw [hU]; rfl
              have HT := Lib.hid hT; clear hT hL hb hD hU
              go_wp2
              go_round
              case rel => exact ⟨k + 1, by omega, by go_num, HT.out, fun _ => Hl.out (by omega)⟩
              case measure => simp [intOf]; omega
            · have hb : nameB (s[k].toNat : Int) = false := by simp [nameB, letB, digB]; omega
              have hF : nmL s = false := by simp only [nmL, allB_false s k hlt hb]; simp
              have hu : ((s[k].toNat : Int) != 95) = true := by rw [bne_iff_ne]; exact hU
              have HF := Lib.hid hF; clear hF hb
              by_cases c1 : 97 ≤ (s[k].toNat : Int)
              · have c2 : ¬ (s[k].toNat : Int) ≤ 122 := by omega
                have c3 : 48 ≤ (s[k].toNat : Int) := by omega
                have c4 : ¬ (s[k].toNat : Int) ≤ 57 := by omega
                clear hL hD hU
                go_wp2
                go_ret
                exact ⟨ret_bool HF.out.symm, rfl⟩
              · by_cases c3 : 48 ≤ (s[k].toNat : Int)
                · have c4 : ¬ (s[k].toNat : Int) ≤ 57 := by omega
                  clear hL hD hU
                  go_wp2
                  go_ret
                  exact ⟨ret_bool HF.out.symm, rfl⟩
                · clear hL hD hU
                  go_wp2
                  go_ret
                  exact ⟨ret_bool HF.out.symm, rfl⟩
    · go_wp2
      go_ret
      refine ⟨ret_bool ?_, rfl⟩
      have e : s.data.toList.take k = s.data.toList := List.take_of_length_le (by simp; omega)
      have a1 := Ha.out
      rw [e] at a1
      have a2 := Hl.out (by omega)
      simp only [nmL, a1, a2]; simp; omega
end Go.Proofs.Ytmanlnlhpgdbpaa
/- Distinguished names: lists of pairs, and where they lie. -/
namespace Go.Proofs.Ytmanlnlhpgdbpaa
open Go.RowKit

abbrev RdnL := List (ByteArray × ByteArray)
/-- a value whose normalized form is not empty -/
def valB (s : ByteArray) : Bool := decide (1 ≤ s.size) && decide (s.size ≤ 40) && !(normS s).toList.isEmpty
def rdnB (r : ByteArray × ByteArray) : Bool := nmL r.1 && valB r.2
def dnB (d : RdnL) : Bool := decide (d.length ≤ 6) && d.all rdnB
/-- all its strings are strings of Go -/
def Fits (d : RdnL) : Prop := d.length ≤ 1048576 ∧ ∀ r ∈ d, r.1.size ≤ 1048576 ∧ r.2.size ≤ 1048576
/-- a name lies behind a slice -/
def DnAt (w : World) (ao : Option Addr) (d : RdnL) : Prop :=
  d = [] ∨ ∃ b off, ao = some ⟨b, off, none⟩ ∧ b < w.heap.size ∧ ∀ i (h : i < d.length), w.cell? ⟨b, off + i * 2, none⟩ = some (.string d[i].1) ∧ w.cell? ⟨b, off + i * 2 + 1, none⟩ = some (.string d[i].2)
theorem DnAt.below {w w' : World} {ao : Option Addr} {d : RdnL} (h : DnAt w ao d) (hb : Below w.heap.size w w') : DnAt w' ao d := by
  rcases h with h | ⟨b, off, h1, h2, h3⟩
  · exact .inl h
  · exact .inr ⟨b, off, h1, Nat.lt_of_lt_of_le h2 hb.size, fun i hi => ⟨(hb.cell (p := ⟨b, off + i * 2, none⟩) h2).trans (h3 i hi).1, (hb.cell (p := ⟨b, off + i * 2 + 1, none⟩) h2).trans (h3 i hi).2⟩⟩
theorem DnAt.at {w : World} {ao : Option Addr} {d : RdnL} (h : DnAt w ao d) {k : Nat} (hk : k < d.length) :
    ∃ b off, ao = some ⟨b, off, none⟩ ∧ b < w.heap.size ∧ w.cell? ⟨b, off + k * 2, none⟩ = some (.string d[k].1) ∧ w.cell? ⟨b, off + k * 2 + 1, none⟩ = some (.string d[k].2) := by
  rcases h with h | ⟨b, off, h1, h2, h3⟩
  · subst h; simp at hk
  · exact ⟨b, off, h1, h2, h3 k hk⟩
theorem Fits.at {d : RdnL} (h : Fits d) {k : Nat} (hk : k < d.length) : d[k].1.size ≤ maxLen ∧ d[k].2.size ≤ maxLen := by
  have := h.2 _ (List.getElem_mem hk); unfold maxLen; omega
theorem all_take {α : Type} (p : α → Bool) (l : List α) (k : Nat) (h : k < l.length) : (l.take (k + 1)).all p = ((l.take k).all p && p l[k]) := by
  rw [List.take_succ_eq_append_getElem h, List.all_append]; simp only [List.all_cons, List.all_nil, Bool.and_true]
theorem all_bad {α : Type} (p : α → Bool) (l : List α) (k : Nat) (h : k < l.length) (hp : p l[k] = false) : l.all p = false := by
  rw [List.all_eq_false]; exact ⟨_, List.getElem_mem h, by simp [hp]⟩
theorem plain_of_norm {s : ByteArray} (h : plainB s.data.toList = false) : (normS s).toList.isEmpty = true := by rw [normS_odd s h, Lib.toList_data]; rfl
end Go.Proofs.Ytmanlnlhpgdbpaa
/- DnRight: what the texts of the program and of the specification return. -/
namespace Go.Proofs.Ytmanlnlhpgdbpaa
open Go.RowKit

def isValB (s : ByteArray) : Bool := decide (1 ≤ s.size) && decide (s.size ≤ 40) && plainB s.data.toList
set_option maxHeartbeats 400000 in
theorem isValue_any (s : ByteArray) (w : World) (hs : s.size ≤ maxLen) :
    Calls Try.prog 143 #[.string s] w fun e w' => e = .returned (.bool (isValB s)) ∧ w = w' := by
  have hM := hs
  unfold maxLen at hs
  by_cases h1 : 1 ≤ s.size
  all_goals by_cases h2 : s.size ≤ 40
  all_goals try omega
  all_goals
    have HV : Hid (isValB s = (decide (1 ≤ s.size) && decide (s.size ≤ 40) && plainB s.data.toList)) := Lib.hid rfl
    go_enter Try.func143, Try.ntmps143
    go_wp2_with (first | (go_at_call 148; refine (isPrintable_any _ _ hM).mono ?_; rintro e w' ⟨rfl, rfl⟩))
    go_ret
    exact ⟨ret_bool (by rw [HV.out]; simp [h1, h2]), rfl⟩
theorem val_of {s : ByteArray} : (isValB s && !(normS s).toList.isEmpty) = valB s := by
  unfold isValB valB
  cases h : plainB s.data.toList
  · simp [plain_of_norm h]
  · simp
set_option maxHeartbeats 400000 in
theorem isProperValue_any (s : ByteArray) (w : World) (hs : s.size ≤ maxLen) :
    Calls Try.prog 132 #[.string s] w fun e w' => e = .returned (.bool (valB s)) ∧ Below w.heap.size w w' := by
  have HV := Lib.hid (@val_of s)
  cases h1 : isValB s
  · rw [h1] at HV
    go_enter Try.func132, Try.ntmps132
    go_wp2_with (first | (go_at_call 143; refine (isValue_any _ _ hs).mono ?_; rintro e w' ⟨rfl, rfl⟩))
    go_ret
    exact ⟨ret_bool (by rw [← HV.out]; rfl), Below.refl _ _⟩
  · rw [h1] at HV
    go_enter Try.func132, Try.ntmps132
    go_wp2_with (first | (go_at_call 143; refine (isValue_any _ _ hs).mono ?_; rintro e w' ⟨rfl, rfl⟩) | (go_at_call 144; refine (Norm_any _ _ hs).mono ?_; rintro e w1 ⟨rfl, hb1⟩))
    go_ret
    exact ⟨ret_bool (by rw [← HV.out]; simp), hb1⟩
set_option maxHeartbeats 400000 in
theorem l02Value_any (s : ByteArray) (w : World) (hs : s.size ≤ maxLen) :
    Calls Try.prog 61 #[.string s] w fun e w' => e = .returned (.bool (valB s)) ∧ Below w.heap.size w w' := by
  have hM := hs
  unfold maxLen at hs
  have HV : Hid (valB s = (decide (1 ≤ s.size) && decide (s.size ≤ 40) && !(normS s).toList.isEmpty)) := Lib.hid rfl
  by_cases h1 : 1 ≤ s.size
  all_goals by_cases h2 : s.size ≤ 40
  all_goals try omega
  · go_enter Try.func61, Try.ntmps61
    go_wp2_with (first | (go_at_call 95; refine (SpecNorm_any _ _ hM).mono ?_; rintro e w1 ⟨rfl, hb1⟩))
    go_ret
    exact ⟨ret_bool (by rw [HV.out]; simp [h1, h2]), hb1⟩
  all_goals
    go_enter Try.func61, Try.ntmps61
    go_wp2
    go_ret
    exact ⟨ret_bool (by rw [HV.out]; simp [h1, h2]), Below.refl _ _⟩
end Go.Proofs.Ytmanlnlhpgdbpaa
/- DnRight: what the texts of the program and of the specification return. -/
namespace Go.Proofs.Ytmanlnlhpgdbpaa
open Go.RowKit

theorem bcell {W w1 : World} (hb : Below W.heap.size W w1) : (∀ b o, b < W.heap.size → w1.cell? ⟨b, o, none⟩ = W.cell? ⟨b, o, none⟩) ∧ (∀ b o, b < W.heap.size → w1.frozen? ⟨b, o, none⟩ = W.frozen? ⟨b, o, none⟩) :=
  ⟨fun b o h => hb.cell (p := ⟨b, o, none⟩) h, fun b o h => hb.frozen (p := ⟨b, o, none⟩) h⟩
set_option maxHeartbeats 400000 in
theorem rdnRight_any (a v : ByteArray) (w : World) (ha : a.size ≤ maxLen) (hv : v.size ≤ maxLen) :
    Calls Try.prog 111 #[.agg #[.string a, .string v]] w fun e w' => e = .returned (.bool (rdnB (a, v))) ∧ Below w.heap.size w w' := by
  have HV : Hid (rdnB (a, v) = (nmL a && valB v)) := Lib.hid rfl
  cases h1 : nmL a
  · rw [h1] at HV
    go_enter Try.func111, Try.ntmps111
    go_wp2_with (first | (go_at_call 59; refine (NameRight_any _ _ ha).mono ?_; rintro e w' ⟨rfl, rfl⟩))
    go_ret
    exact ⟨ret_bool (by rw [HV.out]; rfl), (Below.refl _ _).alloc (Nat.le_refl _) _⟩
  · rw [h1] at HV
    go_enter Try.func111, Try.ntmps111
    go_wp2_with (first | (go_at_call 59; refine (NameRight_any _ _ ha).mono ?_; rintro e w' ⟨rfl, rfl⟩) | (go_at_call 132; refine (isProperValue_any _ _ hv).mono ?_; rintro e w1 ⟨rfl, hb1⟩))
    go_ret
    exact ⟨ret_bool (by rw [HV.out]; rfl), ((Below.refl _ _).alloc (Nat.le_refl _) _).trans (hb1.mono (by simp))⟩

theorem dnB_long {d : RdnL} (h : ¬ d.length ≤ 6) : dnB d = false := by unfold dnB; simp [h]
theorem dnB_short {d : RdnL} (h : d.length ≤ 6) : dnB d = d.all rdnB := by unfold dnB; simp [h]
set_option maxHeartbeats 400000 in
theorem DnRight_any (ao : Option Addr) (d : RdnL) (cap : Nat) (w : World) (hd : DnAt w ao d) (hf : Fits d) :
    Calls Try.prog 84 #[.slice ao d.length cap] w fun e w' => e = .returned (.bool (dnB d)) ∧ Below w.heap.size w w' := by
  have hl := hf.1
  have HD := Lib.hid hd; have HF := Lib.hid hf; clear hd hf
  by_cases h6 : d.length ≤ 6
  · have HV := Lib.hid (dnB_short h6)
    go_enter Try.func84, Try.ntmps84
    go_wp2
    go_loopw [9] (fun i wr => ∃ k : Nat, k ≤ d.length ∧ i = .int .i64 k ∧ (d.take k).all rdnB = true ∧ Below w.heap.size w wr) (fun i _ => d.length - (intOf i).toNat)
    case atStart => exact ⟨0, Nat.zero_le _, rfl, rfl, Below.refl _ _⟩
    case round =>
      obtain ⟨k, hk, rfl, ha, hbel⟩ := hrel
      have Ha := Lib.hid ha; clear ha
      have hsz := hbel.size
      by_cases hlt : k < d.length
      · obtain ⟨b, off, rfl, hb, hc1, hc2⟩ := (HD.out.below hbel).at hlt
        have hz := HF.out.at hlt
        generalize hr : rdnB d[k] = r at *
        have HR := Lib.hid hr; clear hr
        cases r
        · have HX := Lib.hid (all_bad rdnB d k hlt HR.out)
          go_wp2_with (first | (go_at_call 111; refine (rdnRight_any _ _ _ hz.1 hz.2).mono ?_; rintro e w1 ⟨rfl, hb1⟩; rw [HR.out]))
          go_ret
          exact ⟨ret_bool (by rw [HV.out, HX.out]), hbel.trans (hb1.mono hsz)⟩
        · have HT : Hid ((d.take (k + 1)).all rdnB = true) := Lib.hid (by rw [all_take rdnB d k hlt, Ha.out, HR.out]; rfl)
          go_wp2_with (first | (go_at_call 111; refine (rdnRight_any _ _ _ hz.1 hz.2).mono ?_; rintro e w1 ⟨rfl, hb1⟩; rw [HR.out]))
          go_roundw
          case rel => exact ⟨k + 1, by omega, by go_num, HT.out, hbel.trans (hb1.mono hsz)⟩
          case measure => simp [intOf]; omega
      · have e : d.take k = d := List.take_of_length_le (by omega)
        have HT : Hid (d.all rdnB = true) := Lib.hid (by rw [← e]; exact Ha.out)
        clear e
        go_wp2
        go_ret
        exact ⟨ret_bool (by rw [HV.out, HT.out]), hbel⟩
  · have HV := Lib.hid (dnB_long h6)
    have h6' : 6 < d.length := by omega
    clear h6
    go_enter Try.func84, Try.ntmps84
    go_wp2
    go_ret
    exact ⟨ret_bool HV.out.symm, Below.refl _ _⟩
theorem dnB_bad {d : RdnL} {k : Nat} (h : k < d.length) (hb : rdnB d[k] = false) : dnB d = false := by unfold dnB; rw [all_bad rdnB d k h hb]; simp
theorem dnB_all {d : RdnL} (h : d.all rdnB = true) : dnB d = decide (d.length ≤ 6) := by unfold dnB; rw [h]; simp
set_option maxHeartbeats 400000 in
theorem SpecDnRight_any (ao : Option Addr) (d : RdnL) (cap : Nat) (w : World) (hd : DnAt w ao d) (hf : Fits d) :
    Calls Try.prog 22 #[.slice ao d.length cap] w fun e w' => e = .returned (.bool (dnB d)) ∧ Below w.heap.size w w' := by
  have hl := hf.1
  have HD := Lib.hid hd; have HF := Lib.hid hf; clear hd hf
  go_enter Try.func22, Try.ntmps22
  go_wp2
  go_loopw [3] (fun i wr => ∃ k : Nat, k ≤ d.length ∧ i = .int .i64 k ∧ (d.take k).all rdnB = true ∧ Below w.heap.size w wr) (fun i _ => d.length - (intOf i).toNat)
  case atStart => exact ⟨0, Nat.zero_le _, rfl, rfl, Below.refl _ _⟩
  case round =>
    obtain ⟨k, hk, rfl, ha, hbel⟩ := hrel
    have Ha := Lib.hid ha; clear ha
    have hsz := hbel.size
    by_cases hlt : k < d.length
    · obtain ⟨b, off, rfl, hb, hc1, hc2⟩ := (HD.out.below hbel).at hlt
      have hz := HF.out.at hlt
      have HR : Hid (rdnB d[k] = (nmL d[k].1 && valB d[k].2)) := Lib.hid rfl
      cases hn : nmL d[k].1
      · have HX := Lib.hid (dnB_bad hlt (by rw [HR.out, hn]; rfl))
        go_wp2_with (first | (go_at_call 23; refine (SpecNameRight_any _ _ hz.1).mono ?_; rintro e w' ⟨rfl, rfl⟩))
        go_ret
        exact ⟨ret_bool HX.out.symm, hbel⟩
      · cases hv : valB d[k].2
        · have HX := Lib.hid (dnB_bad hlt (by rw [HR.out, hn, hv]; rfl))
          go_wp2_with (first | (go_at_call 23; refine (SpecNameRight_any _ _ hz.1).mono ?_; rintro e w' ⟨rfl, rfl⟩) | (go_at_call 61; refine (l02Value_any _ _ hz.2).mono ?_; rintro e w1 ⟨rfl, hb1⟩))
          go_ret
          exact ⟨ret_bool HX.out.symm, hbel.trans (hb1.mono hsz)⟩
        · have HT : Hid ((d.take (k + 1)).all rdnB = true) := Lib.hid (by rw [all_take rdnB d k hlt, Ha.out, HR.out, hn, hv]; rfl)
          go_wp2_with (first | (go_at_call 23; refine (SpecNameRight_any _ _ hz.1).mono ?_; rintro e w' ⟨rfl, rfl⟩) | (go_at_call 61; refine (l02Value_any _ _ hz.2).mono ?_; rintro e w1 ⟨rfl, hb1⟩))
          go_roundw
          case rel => exact ⟨k + 1, by omega, by go_num, HT.out, hbel.trans (hb1.mono hsz)⟩
          case measure => simp [intOf]; omega
    · have e : d.take k = d := List.take_of_length_le (by omega)
      have HT := Lib.hid (dnB_all (d := d) (by rw [← e]; exact Ha.out))
      clear e
      go_wp2
      go_ret
      exact ⟨ret_bool (by rw [HT.out]; exact decide_eq_decide.2 (by omega)), hbel⟩
theorem dnB_six {d : RdnL} (h : dnB d = true) : d.length ≤ 6 := by unfold dnB at h; simp at h; exact h.1
end Go.Proofs.Ytmanlnlhpgdbpaa
/- Rows of strings and of pairs that a call owns: one more element. -/
namespace Go.Proofs.Ytmanlnlhpgdbpaa
open Go.RowKit

theorem Try.info9 : (Try.prog.info? 9).map (fun i => (i.zero, i.size, i.bytes)) = some (some (.string ByteArray.empty), 1, 16) := by kernel_rfl
theorem Try.info97 : (Try.prog.info? 97).map (fun i => (i.zero, i.size, i.bytes)) = some (some (.agg #[.string ByteArray.empty, .string ByteArray.empty]), 2, 32) := by kernel_rfl
def ss (l : List ByteArray) : List Value := l.map Value.string
def rs (d : RdnL) : List Value := d.flatMap fun r => [Value.string r.1, Value.string r.2]
theorem ss_snoc (l : List ByteArray) (t : ByteArray) : ss (l ++ [t]) = ss l ++ [.string t] := by simp [ss]
theorem rs_snoc (d : RdnL) (r : ByteArray × ByteArray) : rs (d ++ [r]) = rs d ++ [.string r.1, .string r.2] := by simp [rs]
theorem ss_length (l : List ByteArray) : (ss l).length = l.length := by simp [ss]
theorem rs_length (d : RdnL) : (rs d).length = d.length * 2 := by
  induction d with
  | nil => rfl
  | cons r d ih => simp only [rs, List.flatMap_cons, List.length_append, List.length_cons, List.length_nil] at ih ⊢; omega
theorem rs_get (d : RdnL) (i : Nat) (h : i < d.length) : (rs d)[i * 2]? = some (.string d[i].1) ∧ (rs d)[i * 2 + 1]? = some (.string d[i].2) := by
  induction d generalizing i with
  | nil => simp at h
  | cons r d ih =>
    cases i with
    | zero => simp [rs]
    | succ i =>
      have := ih i (by simpa using h)
      have e : rs (r :: d) = [Value.string r.1, Value.string r.2] ++ rs d := rfl
      rw [e]
      constructor
      · rw [List.getElem?_append_right (by simp; omega)]
        have : (i + 1) * 2 - [Value.string r.1, Value.string r.2].length = i * 2 := by simp; omega
        rw [this]; simpa using (ih i (by simpa using h)).1
      · rw [List.getElem?_append_right (by simp; omega)]
        have : (i + 1) * 2 + 1 - [Value.string r.1, Value.string r.2].length = i * 2 + 1 := by simp; omega
        rw [this]; simpa using (ih i (by simpa using h)).2
/-- a row of pairs that a call owns is a name -/
theorem own_dn {w : World} {B n cap : Nat} {ao : Option Addr} {d : RdnL} (h : w.ownsRow B 97 2 (.slice ao n cap) d.length (rs d)) : DnAt w ao d := by
  by_cases h0 : d.length = 0
  · exact .inl (List.length_eq_zero_iff.1 h0)
  · obtain ⟨g, cp, hv, _, hlt⟩ := h.form (by omega)
    have e : ao = some ⟨g, 0, none⟩ := by injection hv
    subst e
    refine .inr ⟨g, 0, rfl, hlt, fun i hi => ⟨?_, ?_⟩⟩
    · have := h.cells (g := g) rfl (i * 2) _ (rs_get d i hi).1
      rwa [add_plain, show i * 2 = 0 + i * 2 by omega] at this
    · have := h.cells (g := g) rfl (i * 2 + 1) _ (rs_get d i hi).2
      rwa [add_plain, show i * 2 + 1 = 0 + i * 2 + 1 by omega] at this
theorem own_below {w w' : World} {B e z n : Nat} {v : Value} {xs : List Value} (h : w.ownsRow B e z v n xs) (hb : Below w.heap.size w w') : w'.ownsRow B e z v n xs :=
  h.kept (row := none) ⟨hb.os, hb.tape, hb.output, hb.size, fun k hk _ => hb.block k hk⟩ (by cases v.ownBlock <;> simp)

section
variable {ops : Array Oper} {rest : List Oper} {o : Oper} {a : Act} {Q : Exit → Act → World → Prop} {K : Act → World → Prop} {E : Prop} {w0 wr : World}
theorem append_str (B : Nat) (hgd : o.guard = none) (s x : Operand)
    (ho : o.op = .call { callee := .builtin .append, args := #[s, x], argTypes := #[40, 40] }) (v : Value) (pre : List ByteArray) (hs : a.eval s = v) (hown : wr.ownsRow B 9 1 v pre.length (ss pre))
    (t : ByteArray) (hx : a.eval x = .slice (some ⟨wr.heap.size, 0, none⟩) 1 1) (hlen : pre.length ≤ 1000000000) (hB : B ≤ wr.heap.size) (hbel : Below B w0 wr)
    (h : ∀ v' w', w'.ownsRow B 9 1 v' (pre ++ [t]).length (ss (pre ++ [t])) → Below B w0 w' → B ≤ w'.heap.size → (v'.ownBlock = v.ownBlock ∨ v'.ownBlock = some (wr.heap.size + 1)) → wr.grownBy w' v.ownBlock → wpList Try.prog ops Q rest (a.put o.dst v') w') :
    wpList Try.prog ops Q (o :: rest) a (wr.alloc (.cells #[.string t] 9)) := by
  obtain ⟨i0, hi, hz0, hz1, hz2⟩ := info_parts Try.info9
  refine wpList_append_lies _ hgd s x 40 ho B 9 i0 _ 1 16 Try.underlying40 hi hz0 hz1 hz2 rfl (by decide) v pre.length (ss pre) hs (hown.alloc _) ⟨wr.heap.size, 0, none⟩ 1 1 [.string t] hx rfl (cell_one_new _ _ _) ?_ (by omega) ?_ ?_ ?_ (wr.heap.size + 1) (by simp) ?_
  · intro u hu; simp at hu; subst hu; rfl
  · unfold maxLen; omega
  · omega
  · simp; omega
  · intro g cap w' h1 h2 h3 h4
    have hb' : Below B w0 w' := (hbel.alloc hB _).grown h2 (by simp; omega) (fun k hk => (hown.lt k hk).1)
    refine h _ w' ?_ hb' (Nat.le_trans hB (by have := h2.size; simp at this; omega)) ?_ ((World.grownBy_alloc _ _ _).trans h2)
    · rw [ss_snoc]; simpa using h1
    · rcases h3 with h3 | h3
      · exact .inl h3.symm
      · exact .inr (by rw [h3]; rfl)
theorem step_str (B : Nat) (hgd : o.guard = none) (s x : Operand)
    (ho : o.op = .call { callee := .builtin .append, args := #[s, x], argTypes := #[40, 40] }) (v : Value) (pre : List ByteArray) (hs : a.eval s = v) (hown : wr.ownsRow B 9 1 v pre.length (ss pre))
    (t : ByteArray) (hx : a.eval x = .slice (some ⟨wr.heap.size, 0, none⟩) 1 1) (hlen : pre.length ≤ 1000000000) (hB : B ≤ wr.heap.size) (hbel : Below B w0 wr)
    (h : ∀ g cap w', w'.ownsRow B 9 1 (.slice (some ⟨g, 0, none⟩) (pre.length + 1) cap) (pre ++ [t]).length (ss (pre ++ [t])) → Below B w0 w' → B ≤ w'.heap.size → K (a.put o.dst (.slice (some ⟨g, 0, none⟩) (pre.length + 1) cap)) w') :
    if Region.wanted o (yielded ops a.tmps) = true then Oper.wp Try.prog o a (wr.alloc (.cells #[.string t] 9)) K Q else E := by
  obtain ⟨i0, hi, hz0, hz1, hz2⟩ := info_parts Try.info9
  refine step_append_lies _ hgd s x 40 ho B 9 i0 _ 1 16 Try.underlying40 hi hz0 hz1 hz2 rfl (by decide) v pre.length (ss pre) hs (hown.alloc _) ⟨wr.heap.size, 0, none⟩ 1 1 [.string t] hx rfl (cell_one_new _ _ _) ?_ (by omega) ?_ ?_ ?_ (wr.heap.size + 1) (by simp) ?_
  · intro u hu; simp at hu; subst hu; rfl
  · unfold maxLen; omega
  · omega
  · simp; omega
  · intro g cap w' h1 h2 h3 h4
    have hb' : Below B w0 w' := (hbel.alloc hB _).grown h2 (by simp; omega) (fun k hk => (hown.lt k hk).1)
    refine h g cap w' ?_ hb' (Nat.le_trans hB (by have := h2.size; simp at this; omega))
    rw [ss_snoc]; simpa using h1
theorem append_rdn (B : Nat) (hgd : o.guard = none) (s x : Operand)
    (ho : o.op = .call { callee := .builtin .append, args := #[s, x], argTypes := #[32, 32] }) (v : Value) (pre : RdnL) (hs : a.eval s = v) (hown : wr.ownsRow B 97 2 v pre.length (rs pre))
    (r : ByteArray × ByteArray) (hx : a.eval x = .slice (some ⟨wr.heap.size, 0, none⟩) 1 1) (hlen : pre.length ≤ 1000000000) (hB : B ≤ wr.heap.size) (hbel : Below B w0 wr)
    (h : ∀ v' w', w'.ownsRow B 97 2 v' (pre ++ [r]).length (rs (pre ++ [r])) → Below B w0 w' → B ≤ w'.heap.size → wpList Try.prog ops Q rest (a.put o.dst v') w') :
    wpList Try.prog ops Q (o :: rest) a (wr.alloc (.cells #[.string r.1, .string r.2] 97)) := by
  obtain ⟨i0, hi, hz0, hz1, hz2⟩ := info_parts Try.info97
  refine wpList_append_lies _ hgd s x 32 ho B 97 i0 _ 2 32 Try.underlying32 hi hz0 hz1 hz2 rfl (by decide) v pre.length (rs pre) hs (hown.alloc _) ⟨wr.heap.size, 0, none⟩ 1 1 [.string r.1, .string r.2] hx rfl (World.news_of_block (cs := #[.string r.1, .string r.2]) (t := 97) (fr := (0, 0)) (heap_alloc_new wr _)) ?_ (by omega) ?_ ?_ ?_ (wr.heap.size + 1) (by simp) ?_
  · intro u hu; simp at hu; rcases hu with rfl | rfl <;> rfl
  · unfold maxLen; omega
  · omega
  · simp; omega
  · intro g cap w' h1 h2 h3 h4
    have hb' : Below B w0 w' := (hbel.alloc hB _).grown h2 (by simp; omega) (fun k hk => (hown.lt k hk).1)
    refine h _ w' ?_ hb' (Nat.le_trans hB (by have := h2.size; simp at this; omega))
    rw [rs_snoc]; simpa using h1
theorem step_rdn (B : Nat) (hgd : o.guard = none) (s x : Operand)
    (ho : o.op = .call { callee := .builtin .append, args := #[s, x], argTypes := #[32, 32] }) (v : Value) (pre : RdnL) (hs : a.eval s = v) (hown : wr.ownsRow B 97 2 v pre.length (rs pre))
    (r : ByteArray × ByteArray) (hx : a.eval x = .slice (some ⟨wr.heap.size, 0, none⟩) 1 1) (hlen : pre.length ≤ 1000000000) (hB : B ≤ wr.heap.size) (hbel : Below B w0 wr)
    (h : ∀ g cap w', w'.ownsRow B 97 2 (.slice (some ⟨g, 0, none⟩) (pre.length + 1) cap) (pre ++ [r]).length (rs (pre ++ [r])) → Below B w0 w' → B ≤ w'.heap.size → (∀ q, q < wr.heap.size → v.ownBlock ≠ some q → w'.heap[q]? = wr.heap[q]?) → K (a.put o.dst (.slice (some ⟨g, 0, none⟩) (pre.length + 1) cap)) w') :
    if Region.wanted o (yielded ops a.tmps) = true then Oper.wp Try.prog o a (wr.alloc (.cells #[.string r.1, .string r.2] 97)) K Q else E := by
  obtain ⟨i0, hi, hz0, hz1, hz2⟩ := info_parts Try.info97
  refine step_append_lies _ hgd s x 32 ho B 97 i0 _ 2 32 Try.underlying32 hi hz0 hz1 hz2 rfl (by decide) v pre.length (rs pre) hs (hown.alloc _) ⟨wr.heap.size, 0, none⟩ 1 1 [.string r.1, .string r.2] hx rfl (World.news_of_block (cs := #[.string r.1, .string r.2]) (t := 97) (fr := (0, 0)) (heap_alloc_new wr _)) ?_ (by omega) ?_ ?_ ?_ (wr.heap.size + 1) (by simp) ?_
  · intro u hu; simp at hu; rcases hu with rfl | rfl <;> rfl
  · unfold maxLen; omega
  · omega
  · simp; omega
  · intro g cap w' h1 h2 h3 h4
    have hb' : Below B w0 w' := (hbel.alloc hB _).grown h2 (by simp; omega) (fun k hk => (hown.lt k hk).1)
    refine h g cap w' ?_ hb' (Nat.le_trans hB (by have := h2.size; simp at this; omega)) (fun q hq hne => ?_)
    · rw [rs_snoc]; simpa using h1
    · rw [h2.block q (by simp; omega) (fun e => hne e.symm), Below.heap_alloc _ _ _ hq]
end
end Go.Proofs.Ytmanlnlhpgdbpaa
/- concat: what the program's text returns. -/
namespace Go.Proofs.Ytmanlnlhpgdbpaa
open Go.RowKit

def joinL (ss : List ByteArray) : List UInt8 := ss.flatMap (fun s => s.data.toList)
def joinS (ss : List ByteArray) : ByteArray := ⟨(joinL ss).toArray⟩
theorem joinL_snoc (ss : List ByteArray) (s : ByteArray) : joinL (ss ++ [s]) = joinL ss ++ s.data.toList := by simp [joinL]
theorem joinL_split (ss : List ByteArray) (k : Nat) : joinL ss = joinL (ss.take k) ++ joinL (ss.drop k) := by
  have h := List.take_append_drop k ss
  unfold joinL
  rw [← List.flatMap_append, h]
theorem joinL_take_le (ss : List ByteArray) (k : Nat) : (joinL (ss.take k)).length ≤ (joinL ss).length := by
  rw [joinL_split ss k]; simp
theorem joinL_take_succ (ss : List ByteArray) (k : Nat) (h : k < ss.length) : joinL (ss.take (k + 1)) = joinL (ss.take k) ++ (ss[k]).data.toList := by
  rw [List.take_succ_eq_append_getElem h, joinL_snoc]
theorem modify_push {α : Type} (A : Array α) (x : α) (f : α → α) : (A.push x).modify A.size f = A.push (f x) := by
  apply Array.ext_getElem?
  intro i
  rw [Array.getElem?_modify, Array.getElem?_push, Array.getElem?_push]
  by_cases h : A.size = i
  · subst h; simp
  · rw [if_neg h, if_neg (fun e => h e.symm), if_neg (fun e => h e.symm)]
theorem setRow_alloc (w : World) (C X : Array Value) : (w.alloc (.cells C 5)).setRow w.heap.size X = w.alloc (.cells X 5) := by
  unfold World.setRow World.alloc
  simp only [modify_push]
theorem info5size : (Try.prog.info? 5).map (·.size) = some 1 := by kernel_rfl

/-- out[at:] and the copy of s into it -/
theorem cut_copy (w : World) (C : Array Value) (n k : Nat) (s : ByteArray) (hC : C.size = n) (hk : k + s.size ≤ n) :
    ∃ A : Addr, (∀ W : World, (Instr.slice 30 (.slice (some ⟨w.heap.size, 0, none⟩) n n) (some (.int .i64 (k : Int))) none none).run Try.prog W = .ok (.slice (some A) (n - k) (n - k)) W) ∧
      (Builtin.copy_ #[30, 9] 3 #[.slice (some A) (n - k) (n - k), .string s]).run Try.prog (w.alloc (.cells C 5)) =
        .ok (.int .i64 (s.size : Int)) (w.alloc (.cells (C.toList.take k ++ bs s.data.toList ++ C.toList.drop (k + s.size)).toArray 5)) := by
  refine ⟨if n = k then ⟨w.heap.size, 0, none⟩ else ⟨w.heap.size, k, none⟩, fun W => ?_, ?_⟩
  · rw [run_slice_l W 30 (some ⟨w.heap.size, 0, none⟩) n n (by rw [Try.elem30]; exact Try.underlying30) .i64 (k : Int) (by omega) (by omega), Try.elem30, Try.size5]
    simp [Result.andThen, sliced]
    split <;> simp [add_plain]
  · by_cases e : n = k
    · have hs0 : s.size = 0 := by omega
      rw [if_pos e, Lib.run_copy_empty_string _ 30 9 3 5 _ _ _ s Try.underlying30 (by rw [info5size]; rfl) hs0]
      have hl : s.data.toList = [] := List.eq_nil_of_length_eq_zero (by rw [size_len]; exact hs0)
      rw [hl, hs0]
      have hL : C.toList.length = n := by simpa using hC
      simp [bs, goInt]
    · rw [if_neg e, Lib.run_copy_row_string _ 30 9 3 5 w.heap.size k (n - k) (n - k) s C 5 Try.underlying30 info5size (heap_alloc_new w _) (by omega) (by omega), setRow_alloc]
      rfl

/-- what the copied row holds -/
theorem copied (C : Array Value) (n k : Nat) (l m : List UInt8) (hC : C.size = n) (hl : l.length = k) (hk : k + m.length ≤ n) (hp : C.toList.take k = bs l) :
    (C.toList.take k ++ bs m ++ C.toList.drop (k + m.length)).toArray.size = n ∧
      (C.toList.take k ++ bs m ++ C.toList.drop (k + m.length)).toArray.toList.take (k + m.length) = bs (l ++ m) := by
  have hL : C.toList.length = n := by simpa using hC
  refine ⟨by simp [bs_length]; omega, ?_⟩
  rw [hp]
  have : bs (l ++ m) = bs l ++ bs m := by simp [bs]
  have hlen : (bs l ++ bs m).length = k + m.length := by simp [bs_length, hl]
  rw [this, ← hlen]
  exact List.take_left

theorem cut_copied (w : World) (C : Array Value) (n : Nat) (l : List UInt8) (s : ByteArray) (hC : C.size = n) (hk : l.length + s.size ≤ n) (hp : C.toList.take l.length = bs l) :
    ∃ (A : Addr) (X : Array Value), (X.size = n ∧ X.toList.take (l.length + s.size) = bs (l ++ s.data.toList)) ∧
      (∀ W : World, (Instr.slice 30 (.slice (some ⟨w.heap.size, 0, none⟩) n n) (some (.int .i64 (l.length : Int))) none none).run Try.prog W = .ok (.slice (some A) (n - l.length) (n - l.length)) W) ∧
      (Builtin.copy_ #[30, 9] 3 #[.slice (some A) (n - l.length) (n - l.length), .string s]).run Try.prog (w.alloc (.cells C 5)) = .ok (.int .i64 (s.size : Int)) (w.alloc (.cells X 5)) := by
  obtain ⟨A, h1, h2⟩ := cut_copy w C n l.length s hC hk
  have h3 := copied C n l.length l s.data.toList hC rfl (by rw [size_len]; exact hk) hp
  rw [size_len] at h3
  exact ⟨A, _, h3, h1, h2⟩

set_option maxRecDepth 100000 in
set_option maxHeartbeats 400000 in
theorem concat_any (b off cap : Nat) (ss : List ByteArray) (w : World) (hm : ss.length ≤ 1000000) (hb : b < w.heap.size) (hlen : (joinL ss).length ≤ 1000000000)
    (hcell : ∀ i (hi : i < ss.length), w.cell? ⟨b, off + i, none⟩ = some (.string ss[i])) :
    Calls Try.prog 75 #[.slice (some ⟨b, off, none⟩) ss.length cap] w fun e w' => e = .returned (.string (joinS ss)) ∧ Below w.heap.size w w' := by
  have Hc := Lib.hid hcell; clear hcell
  have hmk := fun (n : Nat) (h : n ≤ 1000000000) => run_make_row' (P := Try.prog) 30 5 (.int .u8 0) 1 Try.underlying30 Try.info5 rfl .i64 .i64 n (by omega) (by omega)
  have Hmk := Lib.hid hmk; clear hmk
  go_enter Try.func75, Try.ntmps75
  go_wp2
  go_loop [3, 12] (fun t i => ∃ k : Nat, k ≤ ss.length ∧ i = .int .i64 k ∧ t = .int .i64 ((joinL (ss.take k)).length : Nat)) (fun _ i => ss.length - (intOf i).toNat)
  case atStart => exact ⟨0, Nat.zero_le _, rfl, rfl⟩
  case round =>
    obtain ⟨k, hk, rfl, rfl⟩ := hrel
    have hle := joinL_take_le ss k
    by_cases hlt : k < ss.length
    · have hck := Hc.out k hlt
      have hs2 := joinL_take_le ss (k + 1)
      have HS := Lib.hid (joinL_take_succ ss k hlt)
      rw [HS.out, List.length_append, size_len] at hs2
      generalize hq : (joinL (ss.take k)).length = q at *
      have Hq := Lib.hid hq; clear hq
      go_wp2
      go_round
      case rel => exact ⟨k + 1, by omega, by go_num, by rw [HS.out, List.length_append, Hq.out, size_len]; go_num⟩
      case measure => simp [intOf]; omega
    · have e : ss.take k = ss := List.take_of_length_le (by omega)
      rw [e]
      clear e hle
      have hM := Hmk.out _ hlen w
      generalize hn : (joinL ss).length = n at *
      have Hn := Lib.hid hn; clear hn
      have hMz : (madeCells #[Value.int IntKind.u8 0] n).size = n := size_madeCells _ _
      generalize madeCells #[Value.int IntKind.u8 0] n = M at *
      have HM := Lib.hid hMz; clear hMz
      go_wp2
      go_loopw [7, 25] (fun t i wr => ∃ (j : Nat) (C : Array Value), j ≤ ss.length ∧ i = .int .i64 j ∧ t = .int .i64 ((joinL (ss.take j)).length : Nat) ∧ C.size = n ∧ C.toList.take (joinL (ss.take j)).length = bs (joinL (ss.take j)) ∧ wr = w.alloc (.cells C 5)) (fun _ i _ => ss.length - (intOf i).toNat)
      case atStart => exact ⟨0, M, Nat.zero_le _, rfl, rfl, HM.out, by simp [joinL, bs], rfl⟩
      case round =>
        clear hM HM
        obtain ⟨j, C, hj, rfl, rfl, hC, hp, rfl⟩ := hrel
        have HC := Lib.hid hC; clear hC
        have Hp := Lib.hid hp; clear hp
        by_cases hjlt : j < ss.length
        · have hck : (w.alloc (.cells C 5)).cell? ⟨b, off + j, none⟩ = some (.string ss[j]) := by
            rw [(Below.refl w.heap.size w |>.alloc (Nat.le_refl _) (.cells C 5)).cell hb]; exact Hc.out j hjlt
          have hs2 := joinL_take_le ss (j + 1)
          have HS := Lib.hid (joinL_take_succ ss j hjlt)
          rw [HS.out, List.length_append, size_len, Hn.out] at hs2
          obtain ⟨A, X, hX, hsl, hcp⟩ := cut_copied w C n (joinL (ss.take j)) ss[j] HC.out hs2 Hp.out
          have HX := Lib.hid hX; clear hX
          generalize hq : (joinL (ss.take j)).length = q at *
          have Hq := Lib.hid hq; clear hq
          go_wp2
          go_roundw
          case rel =>
            refine ⟨j + 1, X, by omega, by go_num, ?_, HX.out.1, ?_, rfl⟩
            · rw [HS.out, List.length_append, Hq.out, size_len]; go_num
            · rw [HS.out, List.length_append, Hq.out, size_len]; exact HX.out.2
          case measure => simp [intOf]; omega
        · have e : ss.take j = ss := List.take_of_length_le (by omega)
          have h1 := Hp.out
          rw [e, Hn.out] at h1
          rw [e, Hn.out]
          have hstr := str22 (w.alloc (.cells C 5)) ⟨w.heap.size, 0, none⟩ n (joinL ss) n Hn.out (fun i hi => by
            rw [add_plain, World.cell?_alloc_mark]
            have h2 : C.toList[i]? = (bs (joinL ss))[i]? := by rw [← h1, List.getElem?_take_of_lt (by rw [← Hn.out]; exact hi)]
            rw [← Array.getElem?_toList, h2]
            simp [bs, List.getElem?_eq_getElem hi])
          clear e h1
          go_wp2
          go_ret
          exact ⟨rfl, (Below.refl _ _).alloc (Nat.le_refl _) _⟩
theorem joinS_one (a : ByteArray) : joinS [a] = a := by
  apply ByteArray.ext
  simp [joinS, joinL]
theorem joinS_two (a b : ByteArray) : joinS [a, b] = a ++ b := by
  apply ByteArray.ext
  simp [joinS, joinL]
theorem concat_one (a : ByteArray) (w : World) (h : a.size ≤ 1000000) :
    Calls Try.prog 75 #[.slice (some ⟨w.heap.size, 0, none⟩) 1 1] (w.alloc (.cells #[.string a] 9)) fun e w' => e = .returned (.string a) ∧ Below w.heap.size w w' := by
  have := concat_any w.heap.size 0 1 [a] (w.alloc (.cells #[.string a] 9)) (by simp) (by simp) (by simp [joinL]; omega) (fun i hi => by
    match i, hi with
    | 0, _ => simp)
  rw [joinS_one] at this
  exact this.mono fun e w' ⟨he, hb⟩ => ⟨he, ((Below.refl _ _).alloc (Nat.le_refl _) _).trans (hb.mono (by simp))⟩
end Go.Proofs.Ytmanlnlhpgdbpaa
/- joinRdns: what the program's text returns. -/
namespace Go.Proofs.Ytmanlnlhpgdbpaa
open Go.RowKit
attribute [local go_sem ↓] Go.wp_at_zero Go.wp_at_succ

theorem more {w0 W : World} (h : Below w0.heap.size w0 W) (o : Obj) : Below w0.heap.size w0 (W.alloc o) := h.alloc h.size o
/-- a copy of a string -/
theorem concat_at (w0 : World) (B : Nat) (a : ByteArray) (w : World) (ha : a.size ≤ 1048576) (hB : B < w.heap.size) (hc : w.cell? ⟨B, 0, none⟩ = some (.string a)) (hb : Below w0.heap.size w0 w) :
    Calls Try.prog 75 #[.slice (some ⟨B, 0, none⟩) 1 1] w fun e w' => e = .returned (.string a) ∧ Below w0.heap.size w0 w' ∧ Below w.heap.size w w' := by
  have := concat_any B 0 1 [a] w (by simp) hB (by simp [joinL]; omega) (fun i hi => by
    match i, hi with
    | 0, _ => exact hc)
  rw [joinS_one] at this
  exact this.mono fun e w' ⟨he, h⟩ => ⟨he, hb.trans (h.mono hb.size), h⟩
theorem wp_world {P : Program} {c : Code} {Q : Exit → Act → World → Prop} {a : Act} {w : World} (R : World → Prop) (h : R w) (k : ∀ W, R W → c.wp P Q a W) : c.wp P Q a w := k w h
theorem keep_two {W w2 : World} {R : Nat} {A V : Value} (hb : Below W.heap.size W w2) (h : W.cell? ⟨R, 0, none⟩ = some A ∧ W.cell? ⟨R, 1, none⟩ = some V) : w2.cell? ⟨R, 0, none⟩ = some A ∧ w2.cell? ⟨R, 1, none⟩ = some V :=
  ⟨(hb.cell (p := ⟨R, 0, none⟩) (World.block_lt_of_cell? _ _ h.1)).trans h.1, (hb.cell (p := ⟨R, 1, none⟩) (World.block_lt_of_cell? _ _ h.2)).trans h.2⟩
theorem keep_far {W w2 : World} {R : Nat} {A V : Value} {row : Option Nat} (hg : W.grownBy w2 row) (hne : row ≠ some R) (h : W.cell? ⟨R, 0, none⟩ = some A ∧ W.cell? ⟨R, 1, none⟩ = some V) : w2.cell? ⟨R, 0, none⟩ = some A ∧ w2.cell? ⟨R, 1, none⟩ = some V :=
  ⟨(hg.cell_far ⟨R, 0, none⟩ (World.block_lt_of_cell? _ _ h.1) (Ne.symm hne)).trans h.1, (hg.cell_far ⟨R, 1, none⟩ (World.block_lt_of_cell? _ _ h.2) (Ne.symm hne)).trans h.2⟩
section
variable {ops : Array Oper} {o : Oper} {a : Act} {Q : Exit → Act → World → Prop} {K : Act → World → Prop} {E : Prop} {w0 wr : World}
theorem step_rdn2 (B : Nat) (hgd : o.guard = none) (s x : Operand)
    (ho : o.op = .call { callee := .builtin .append, args := #[s, x], argTypes := #[32, 32] }) (v : Value) (pre : RdnL) (hs : a.eval s = v) (hown : wr.ownsRow B 97 2 v pre.length (rs pre))
    (A V : ByteArray) (hx : a.eval x = .slice (some ⟨wr.heap.size, 0, none⟩) 1 1) (hlen : pre.length ≤ 1000000000) (hB : B ≤ wr.heap.size) (hbel : Below B w0 wr)
    (h : ∀ g cap w', w'.ownsRow B 97 2 (.slice (some ⟨g, 0, none⟩) (pre.length + 1) cap) (pre ++ [(A, V)]).length (rs (pre ++ [(A, V)])) → Below B w0 w' → (wr.alloc (.cells #[.string A, .string V] 97)).grownBy w' v.ownBlock → K (a.put o.dst (.slice (some ⟨g, 0, none⟩) (pre.length + 1) cap)) w') :
    if Region.wanted o (yielded ops a.tmps) = true then Oper.wp Try.prog o a (wr.alloc (.cells #[.string A, .string V] 97)) K Q else E := by
  obtain ⟨i0, hi, hz0, hz1, hz2⟩ := info_parts Try.info97
  refine step_append_lies _ hgd s x 32 ho B 97 i0 _ 2 32 Try.underlying32 hi hz0 hz1 hz2 rfl (by decide) v pre.length (rs pre) hs (hown.alloc _) ⟨wr.heap.size, 0, none⟩ 1 1 [.string A, .string V] hx rfl (World.news_of_block (cs := #[.string A, .string V]) (t := 97) (fr := (0, 0)) (heap_alloc_new wr _)) ?_ (by omega) ?_ ?_ ?_ (wr.heap.size + 1) (by simp) ?_
  · intro u hu; simp at hu; rcases hu with rfl | rfl <;> rfl
  · unfold maxLen; omega
  · omega
  · simp; omega
  · intro g cap w' h1 h2 h3 h4
    have hb' : Below B w0 w' := (hbel.alloc hB _).grown h2 (by simp; omega) (fun k hk => (hown.lt k hk).1)
    refine h g cap w' ?_ hb' h2
    rw [rs_snoc]; simpa using h1
end
/-- lists of names, as slices -/
def PartsAt (w : World) (pb po : Nat) (ps : List (Option Addr × Nat × RdnL)) : Prop :=
  pb < w.heap.size ∧ ∀ i (h : i < ps.length), w.cell? ⟨pb, po + i, none⟩ = some (.slice ps[i].1 ps[i].2.2.length ps[i].2.1) ∧ DnAt w ps[i].1 ps[i].2.2 ∧ Fits ps[i].2.2
theorem PartsAt.below {w w' : World} {pb po : Nat} {ps : List (Option Addr × Nat × RdnL)} (h : PartsAt w pb po ps) (hb : Below w.heap.size w w') : PartsAt w' pb po ps :=
  ⟨Nat.lt_of_lt_of_le h.1 hb.size, fun i hi => ⟨(hb.cell (p := ⟨pb, _, none⟩) h.1).trans (h.2 i hi).1, (h.2 i hi).2.1.below hb, (h.2 i hi).2.2⟩⟩
def flat (ps : List (Option Addr × Nat × RdnL)) : RdnL := ps.flatMap (·.2.2)
theorem flat_succ (ps : List (Option Addr × Nat × RdnL)) (k : Nat) (h : k < ps.length) : flat (ps.take (k + 1)) = flat (ps.take k) ++ ps[k].2.2 := by
  unfold flat; rw [List.take_succ_eq_append_getElem h, List.flatMap_append]; simp

theorem flat_len (ps : List (Option Addr × Nat × RdnL)) (h : ∀ p ∈ ps, p.2.2.length ≤ 1048576) : (flat ps).length ≤ ps.length * 1048576 := by
  induction ps with
  | nil => simp [flat]
  | cons p ps ih =>
    have h1 := ih (fun x hx => h x (List.mem_cons_of_mem _ hx))
    have h2 := h p (List.mem_cons_self ..)
    have e : flat (p :: ps) = p.2.2 ++ flat ps := by unfold flat; simp
    rw [e, List.length_append, List.length_cons, Nat.add_mul]; omega
theorem PartsAt.len {w : World} {pb po : Nat} {ps : List (Option Addr × Nat × RdnL)} (h : PartsAt w pb po ps) (hm : ps.length ≤ 10) (k : Nat) : (flat (ps.take k)).length ≤ 100000000 := by
  have := flat_len (ps.take k) (fun p hp => by
    obtain ⟨i, hi, rfl⟩ := List.getElem_of_mem (List.mem_of_mem_take hp)
    exact (h.2 i hi).2.2.1)
  have h2 : (ps.take k).length ≤ 10 := by rw [List.length_take]; omega
  omega
theorem cat (a b : ByteArray) (h : a.size + b.size ≤ 1000000000) (W : World) : (Op.stringOp .add a b).run Try.prog W = .ok (.string (a ++ b)) W := run_string_add_sum W a b (by omega)
theorem sz1 (c : UInt8) : (⟨#[c]⟩ : ByteArray).size = 1 := rfl
end Go.Proofs.Ytmanlnlhpgdbpaa
/- Normalized pairs, keys, sameness: what the texts return. -/
namespace Go.Proofs.Ytmanlnlhpgdbpaa
open Go.RowKit
attribute [local go_sem ↓] Go.wp_at_zero Go.wp_at_succ

/-- two blocks of two cells, over a call -/
theorem keep22 {w W w1 : World} {a b x y : Value} {T U : TypeId} (hb : Below W.heap.size W w1) (hW : W.heap = ((w.alloc (.cells #[a, b] T)).alloc (.cells #[x, y] U)).heap) :
    (w1.cell? ⟨w.heap.size, 0, none⟩ = some a ∧ w1.cell? ⟨w.heap.size, 1, none⟩ = some b ∧ w1.cell? ⟨w.heap.size + 1, 0, none⟩ = some x ∧ w1.cell? ⟨w.heap.size + 1, 1, none⟩ = some y) ∧
    (w1.frozen? ⟨w.heap.size, 0, none⟩ = false ∧ w1.frozen? ⟨w.heap.size, 1, none⟩ = false ∧ w1.frozen? ⟨w.heap.size + 1, 0, none⟩ = false ∧ w1.frozen? ⟨w.heap.size + 1, 1, none⟩ = false) ∧ w.heap.size + 1 < w1.heap.size := by
  have hs : w.heap.size + 1 < W.heap.size := by rw [hW]; simp
  have hblk : w1.heap[w.heap.size]? = some (.cells #[a, b] T) := by
    rw [hb.block _ (by omega), hW, Below.heap_alloc _ _ _ (by simp)]; exact heap_alloc_new w _
  have hblk2 : w1.heap[w.heap.size + 1]? = some (.cells #[x, y] U) := by
    rw [hb.block _ hs, hW]
    have := heap_alloc_new (w.alloc (.cells #[a, b] T)) (.cells #[x, y] U)
    simpa using this
  refine ⟨⟨?_, ?_, ?_, ?_⟩, ⟨?_, ?_, ?_, ?_⟩, Nat.lt_of_lt_of_le hs hb.size⟩
  all_goals first | (unfold World.cell?; rw [hblk]; rfl) | (unfold World.frozen?; rw [hblk]; rfl) | (unfold World.cell?; rw [hblk2]; rfl) | (unfold World.frozen?; rw [hblk2]; rfl)
theorem below_past2 {w W w1 : World} {o o' : Obj} (hb : Below W.heap.size W w1) (h1 : W.heap = ((w.alloc o).alloc o').heap) (h2 : W.os = w.os) (h3 : W.tape = w.tape) (h4 : W.output = w.output) : Below w.heap.size w w1 := by
  have hs : W.heap.size = w.heap.size + 2 := by rw [h1]; simp
  refine ⟨hb.os.trans h2, hb.tape.trans h3, hb.output.trans h4, by have := hb.size; omega, fun k hk => ?_⟩
  rw [hb.block k (by omega), h1, Below.heap_alloc _ _ _ (by simp; omega), Below.heap_alloc w o k hk]

set_option maxRecDepth 100000 in
set_option maxHeartbeats 1000000 in
theorem normRdn_any (a v : ByteArray) (w : World) (hv : v.size ≤ maxLen) :
    Calls Try.prog 151 #[.agg #[.string a, .string v]] w fun e w' => e = .returned (.agg #[.string a, .string (normS v)]) ∧ Below w.heap.size w w' := by
  go_enter Try.func151, Try.ntmps151
  go_wp2_with fail
  go_region_with (first | (go_at_call 144; refine (Norm_any _ _ hv).mono ?_; rintro e w2 ⟨rfl, hb2⟩; obtain ⟨⟨c0, c1, c2, c3⟩, ⟨f0, f1, f2, f3⟩, hz⟩ := keep22 (w := w) hb2 rfl; have HB := Lib.hid (below_past2 (w := w) hb2 rfl rfl rfl rfl); clear hb2))
  all_goals go_wp2
  all_goals refine bodyPost_ret (v := .agg #[.string a, .string (normS v)]) (by simp [results, Try.results151, go_sem, c2, c3]) rfl ⟨rfl, ?_⟩
  all_goals exact (HB.out.setCell (by simp) _).setCell (by simp) _
end Go.Proofs.Ytmanlnlhpgdbpaa
/- Keys of names: the plain mathematics. -/
namespace Go.Proofs.Ytmanlnlhpgdbpaa
open Go.RowKit

/-- what is compared of a pair -/
def nrm (r : ByteArray × ByteArray) : List UInt8 × List UInt8 := (r.1.data.toList, normL r.2.data.toList)
def sameB (a b : RdnL) : Bool := decide (a.map nrm = b.map nrm)
/-- one pair of a key -/
def rkL (r : ByteArray × ByteArray) : List UInt8 := 1 :: (r.1.data.toList ++ 61 :: normL r.2.data.toList)
def keyL (d : RdnL) : List UInt8 := d.reverse.flatMap rkL
def keyS (d : RdnL) : ByteArray := ⟨(keyL d).toArray⟩

theorem pair_eq (a v a' v' : ByteArray) : ((a.toList == a'.toList) && ((normS v).toList == (normS v').toList)) = decide (nrm (a, v) = nrm (a', v')) := by
  rw [Lib.toList_data, Lib.toList_data, Lib.toList_data, Lib.toList_data, Bool.eq_iff_iff]
  simp [nrm, normS]
theorem Try.fields97 : Try.prog.underlying 97 = some (.struct (Try.prog.fieldsOf 97)) := by kernel_rfl
theorem Try.held97 : Try.prog.stoodInHeld 97 = false := by kernel_rfl
theorem neq39 (a v a' v' : ByteArray) (W : World) : (binOp .neq 97 (.agg #[.string a, .string v]) (.agg #[.string a', .string v'])).run Try.prog W = .ok (.bool (!((a.toList == a'.toList) && (v.toList == v'.toList)))) W := by
  rw [run_neq_struct, run_equalIn_agg W 9999 97 _ _ Try.fields97 Try.held97]
  simp [go_sem]
  by_cases h1 : a.toList = a'.toList
  · by_cases h2 : v.toList = v'.toList
    · rw [if_pos h1, if_pos h2]; simp [h1, h2]
    · rw [if_pos h1, if_neg h2]; simp [h2]
  · rw [if_neg h1]; simp [h1]
theorem neqNorm (a v a' v' : ByteArray) (W : World) : (binOp .neq 97 (.agg #[.string a, .string (normS v)]) (.agg #[.string a', .string (normS v')])).run Try.prog W = .ok (.bool (!decide (nrm (a, v) = nrm (a', v')))) W := by
  rw [neq39, pair_eq]

/-- bytes of a name, and of a normalized value -/
def cleanR (p : List UInt8 × List UInt8) : Prop := (1 ∉ p.1 ∧ 61 ∉ p.1) ∧ 1 ∉ p.2
theorem name_clean {s : ByteArray} (h : nmL s = true) : 1 ∉ s.data.toList ∧ 61 ∉ s.data.toList := by
  have h1 : allB s.data.toList = true := by unfold nmL at h; simp at h; exact h.2
  unfold allB at h1
  rw [List.all_eq_true] at h1
  constructor
  · intro hm; have := h1 _ hm; revert this; decide
  · intro hm; have := h1 _ hm; revert this; decide
theorem nstep_mem {o : List UInt8} {c x : UInt8} (h : x ∈ nstep o c) : x ∈ o ∨ x = low c := by
  unfold nstep at h
  split at h
  · exact .inl h
  · simpa using h
theorem nfold_mem {l : List UInt8} {x : UInt8} (h : x ∈ nfold l) : ∃ c ∈ l, x = low c := by
  have : ∀ (l o : List UInt8), x ∈ l.foldl nstep o → x ∈ o ∨ ∃ c ∈ l, x = low c := by
    intro l
    induction l with
    | nil => intro o h; exact .inl h
    | cons c l ih =>
      intro o h
      rcases ih _ h with h1 | ⟨d, hd, hx⟩
      · rcases nstep_mem h1 with h2 | h2
        · exact .inl h2
        · exact .inr ⟨c, List.mem_cons_self .., h2⟩
      · exact .inr ⟨d, List.mem_cons_of_mem _ hd, hx⟩
  rcases this l [] h with h1 | h1
  · simp at h1
  · exact h1
theorem chop_mem {o : List UInt8} {x : UInt8} (h : x ∈ chop o) : x ∈ o := by
  unfold chop at h
  split at h
  · exact List.dropLast_subset _ h
  · exact h
/-- the bytes of a normalized text are printable -/
theorem norm_plain (l : List UInt8) : ∀ x ∈ normL l, 32 ≤ x.toNat ∧ x.toNat ≤ 126 := by
  intro x hx
  unfold normL at hx
  split at hx
  · rename_i h
    obtain ⟨c, hc, rfl⟩ := nfold_mem (chop_mem hx)
    have hp := h.2
    unfold plainB at hp
    rw [List.all_eq_true] at hp
    have hp := hp c hc
    simp at hp
    by_cases hcap : 65 ≤ c.toNat ∧ c.toNat ≤ 90
    · have := low_in c hcap; omega
    · rw [low_out c hcap]; omega
  · simp at hx
theorem norm_clean (l : List UInt8) : 1 ∉ normL l := by
  intro h
  have := norm_plain l _ h
  revert this; decide
theorem clean_of {d : RdnL} (h : d.all rdnB = true) : ∀ p ∈ d.map nrm, cleanR p := by
  intro p hp
  obtain ⟨r, hr, rfl⟩ := List.mem_map.1 hp
  rw [List.all_eq_true] at h
  have := h r hr
  unfold rdnB at this
  simp at this
  exact ⟨name_clean this.1, norm_clean _⟩
def rkP (p : List UInt8 × List UInt8) : List UInt8 := 1 :: (p.1 ++ 61 :: p.2)
theorem split_at {c : UInt8} : ∀ {a b x y : List UInt8}, c ∉ a → c ∉ b → a ++ c :: x = b ++ c :: y → a = b ∧ x = y
  | [], [], _, _, _, _, h => ⟨rfl, by simpa using h⟩
  | [], b0 :: b, _, _, _, hb, h => by
    simp at h; exact absurd h.1.symm (fun e => hb (by simp [e]))
  | a0 :: a, [], _, _, ha, _, h => by
    simp at h; exact absurd h.1 (fun e => ha (by simp [e]))
  | a0 :: a, b0 :: b, x, y, ha, hb, h => by
    simp at h
    obtain ⟨h1, h2⟩ := h
    have := split_at (c := c) (fun e => ha (by simp [e])) (fun e => hb (by simp [e])) h2
    exact ⟨by rw [h1, this.1], this.2⟩
/-- of two lists of pairs with one key -/
theorem key_inj : ∀ (a b : List (List UInt8 × List UInt8)), (∀ p ∈ a, cleanR p) → (∀ p ∈ b, cleanR p) → a.flatMap rkP = b.flatMap rkP → a = b
  | [], [], _, _, _ => rfl
  | [], q :: b, _, _, h => by simp [rkP] at h
  | p :: a, [], _, _, h => by simp [rkP] at h
  | p :: a, q :: b, ha, hb, h => by
    have hp := ha p (List.mem_cons_self ..)
    have hq := hb q (List.mem_cons_self ..)
    have ha' : ∀ x ∈ a, cleanR x := fun x hx => ha x (List.mem_cons_of_mem _ hx)
    have hb' : ∀ x ∈ b, cleanR x := fun x hx => hb x (List.mem_cons_of_mem _ hx)
    simp only [List.flatMap_cons, rkP, List.cons_append, List.cons.injEq, true_and, List.append_assoc] at h
    obtain ⟨e1, h2⟩ := split_at (c := 61) hp.1.2 hq.1.2 h
    have tail : ∀ (l : List (List UInt8 × List UInt8)), l.flatMap rkP = [] ∨ ∃ t, l.flatMap rkP = 1 :: t := by
      intro l
      cases l with
      | nil => exact .inl rfl
      | cons r l => exact .inr ⟨_, rfl⟩
    have h3 : p.2 = q.2 ∧ a.flatMap rkP = b.flatMap rkP := by
      have h2' : p.2 ++ a.flatMap rkP = q.2 ++ b.flatMap rkP := h2
      rcases tail a with ea | ⟨s, ea⟩ <;> rcases tail b with eb | ⟨t, eb⟩
      · rw [ea, eb] at h2' ⊢; simpa using h2'
      · rw [ea, eb] at h2'
        exact absurd (show (1 : UInt8) ∈ p.2 by rw [show p.2 = q.2 ++ 1 :: t by simpa using h2']; simp) hp.2
      · rw [ea, eb] at h2'
        exact absurd (show (1 : UInt8) ∈ q.2 by rw [show q.2 = p.2 ++ 1 :: s by simpa using h2'.symm]; simp) hq.2
      · rw [ea, eb] at h2' ⊢
        obtain ⟨x, y⟩ := split_at (c := 1) hp.2 hq.2 h2'
        exact ⟨x, by rw [y]⟩
    have := key_inj a b ha' hb' h3.2
    rw [this, Prod.ext e1 h3.1]
theorem keyL_map (d : RdnL) : keyL d = (d.map nrm).reverse.flatMap rkP := by
  unfold keyL
  rw [← List.map_reverse, List.flatMap_map]; rfl
theorem key_same {a b : RdnL} (ha : a.all rdnB = true) (hb : b.all rdnB = true) : ((keyS a).toList == (keyS b).toList) = sameB a b := by
  rw [Lib.toList_data, Lib.toList_data, Bool.eq_iff_iff]
  simp only [beq_iff_eq, sameB, decide_eq_true_eq]
  show keyL a = keyL b ↔ _
  constructor
  · intro h
    rw [keyL_map, keyL_map] at h
    have := key_inj _ _ (fun p hp => clean_of ha p (by simpa using hp)) (fun p hp => clean_of hb p (by simpa using hp)) h
    simpa using this
  · intro h; rw [keyL_map, keyL_map, h]
theorem keyL_take (d : RdnL) (k : Nat) (h : k < d.length) : keyL (d.take (k + 1)) = rkL d[k] ++ keyL (d.take k) := by
  unfold keyL
  rw [List.take_succ_eq_append_getElem h, List.reverse_append, List.flatMap_append]; simp
theorem keyL_drop (d : RdnL) (k : Nat) (h : k < d.length) : keyL (d.drop k) = keyL (d.drop (k + 1)) ++ rkL d[k] := by
  unfold keyL
  rw [List.drop_eq_getElem_cons h, List.reverse_cons, List.flatMap_append]; simp
theorem rk_len (r : ByteArray × ByteArray) (h : r.1.size ≤ 1048576) : (rkL r).length ≤ 1048678 := by
  have := normL_len r.2.data.toList
  unfold rkL
  simp only [List.length_cons, List.length_append, size_len]; omega
theorem keyL_len (d : RdnL) (h : ∀ r ∈ d, r.1.size ≤ 1048576) : (keyL d).length ≤ d.length * 1048678 := by
  induction d with
  | nil => simp [keyL]
  | cons r d ih =>
    have h1 := ih (fun x hx => h x (List.mem_cons_of_mem _ hx))
    have h2 := rk_len r (h r (List.mem_cons_self ..))
    have e : keyL (r :: d) = keyL d ++ rkL r := by unfold keyL; simp
    rw [e, List.length_append, List.length_cons, Nat.add_mul]; omega
theorem keyS_small (d : RdnL) (h : Fits d) (h6 : d.length ≤ 6) : (keyS d).size ≤ 7000000 := by
  have := keyL_len d (fun r hr => (h.2 r hr).1)
  have e : (keyS d).size = (keyL d).length := rfl
  rw [e]; omega
theorem Fits.small {d : RdnL} (h : Fits d) {k : Nat} (hk : k < d.length) : d[k].1.size ≤ 1048576 ∧ d[k].2.size ≤ 1048576 := h.2 _ (List.getElem_mem hk)
theorem Fits.take {d : RdnL} (h : Fits d) (k : Nat) : Fits (d.take k) := ⟨by have := h.1; simp; omega, fun r hr => h.2 r (List.mem_of_mem_take hr)⟩
theorem Fits.drop {d : RdnL} (h : Fits d) (k : Nat) : Fits (d.drop k) := ⟨by have := h.1; simp; omega, fun r hr => h.2 r (List.mem_of_mem_drop hr)⟩
theorem normS_size (s : ByteArray) : (normS s).size ≤ 100 := by have := normL_len s.data.toList; exact this
end Go.Proofs.Ytmanlnlhpgdbpaa
/- Sameness and keys of names: what the texts return. -/
namespace Go.Proofs.Ytmanlnlhpgdbpaa
open Go.RowKit
attribute [local go_sem ↓] Go.wp_at_zero Go.wp_at_succ

theorem normRdn_from (w0 : World) (a v : ByteArray) (w : World) (hv : v.size ≤ maxLen) (hB : Below w0.heap.size w0 w) :
    Calls Try.prog 151 #[.agg #[.string a, .string v]] w fun e w' => e = .returned (.agg #[.string a, .string (normS v)]) ∧ Below w0.heap.size w0 w' :=
  (normRdn_any a v w hv).mono fun _ _ ⟨he, hb⟩ => ⟨he, hB.trans (hb.mono hB.size)⟩
theorem map_take_succ {α β : Type} (f : α → β) (l : List α) (k : Nat) (h : k < l.length) : (l.take (k + 1)).map f = (l.take k).map f ++ [f l[k]] := by
  rw [List.take_succ_eq_append_getElem h, List.map_append]; rfl
theorem same_len {a b : RdnL} (h : a.length ≠ b.length) : sameB a b = false := by
  unfold sameB
  rw [decide_eq_false_iff_not]
  intro e
  have := congrArg List.length e
  simp at this; exact h this
theorem same_bad {a b : RdnL} {k : Nat} (ha : k < a.length) (hb : k < b.length) (h : nrm a[k] ≠ nrm b[k]) : sameB a b = false := by
  unfold sameB
  rw [decide_eq_false_iff_not]
  intro e
  apply h
  have : (a.map nrm)[k]? = (b.map nrm)[k]? := by rw [e]
  rw [List.getElem?_map, List.getElem?_map, List.getElem?_eq_getElem ha, List.getElem?_eq_getElem hb] at this
  simpa using this

set_option maxRecDepth 100000 in
set_option maxHeartbeats 1000000 in
theorem sameRdns_any (ao bo : Option Addr) (a b : RdnL) (ca cb : Nat) (w : World) (hda : DnAt w ao a) (hdb : DnAt w bo b) (hfa : Fits a) (hfb : Fits b) :
    Calls Try.prog 146 #[.slice ao a.length ca, .slice bo b.length cb] w fun e w' => e = .returned (.bool (sameB a b)) ∧ Below w.heap.size w w' := by
  have hla := hfa.1
  have hlb := hfb.1
  have HA := Lib.hid hda; have HB := Lib.hid hdb; have FA := Lib.hid hfa; have FB := Lib.hid hfb; clear hda hdb hfa hfb
  by_cases hl : a.length = b.length
  · have Hl := Lib.hid hl
    have hne : ((a.length : Int) != (b.length : Int)) = false := by rw [hl]; simp
    go_enter Try.func146, Try.ntmps146
    clear hl
    go_wp2
    go_loopw [13] (fun i wr => ∃ k : Nat, k ≤ a.length ∧ i = .int .i64 k ∧ (a.take k).map nrm = (b.take k).map nrm ∧ Below w.heap.size w wr) (fun i _ => a.length - (intOf i).toNat)
    case atStart => exact ⟨0, Nat.zero_le _, rfl, rfl, Below.refl _ _⟩
    case round =>
      obtain ⟨k, hk, rfl, hs, hbel⟩ := hrel
      have HS := Lib.hid hs; clear hs
      have hsz := hbel.size
      by_cases hlt : k < a.length
      · have hltb : k < b.length := by have := Hl.out; omega
        obtain ⟨p, off, rfl, hp0, hd1, hd2⟩ := HA.out.at hlt
        obtain ⟨q, off', rfl, hq0, he1, he2⟩ := HB.out.at hltb
        have hz1 := (FA.out.at hlt).2
        have hz2 := (FB.out.at hltb).2
        have hnq := neqNorm a[k].1 a[k].2 b[k].1 b[k].2
        have HBd := Lib.hid (fun h => same_bad (a := a) (b := b) hlt hltb h)
        have HT : Hid (nrm a[k] = nrm b[k] → (a.take (k + 1)).map nrm = (b.take (k + 1)).map nrm) := Lib.hid (fun h => by rw [map_take_succ nrm a k hlt, map_take_succ nrm b k hltb, HS.out, h])
        have HD : Hid (nrm (a[k].1, a[k].2) = nrm a[k] ∧ nrm (b[k].1, b[k].2) = nrm b[k]) := Lib.hid ⟨rfl, rfl⟩
        generalize a[k].1 = A at *
        generalize a[k].2 = V at *
        generalize b[k].1 = A' at *
        generalize b[k].2 = V' at *
        have SK : Hid (∀ W : World, Below w.heap.size w W → (Below w.heap.size w W ∧ W.cell? ⟨p, off + k * 2, none⟩ = some (.string A) ∧ W.cell? ⟨p, off + k * 2 + 1, none⟩ = some (.string V) ∧ W.cell? ⟨q, off' + k * 2, none⟩ = some (.string A') ∧ W.cell? ⟨q, off' + k * 2 + 1, none⟩ = some (.string V'))) :=
          Lib.hid (fun W h => ⟨h, (h.cell (p := ⟨p, _, none⟩) hp0).trans hd1, (h.cell (p := ⟨p, _, none⟩) hp0).trans hd2, (h.cell (p := ⟨q, _, none⟩) hq0).trans he1, (h.cell (p := ⟨q, _, none⟩) hq0).trans he2⟩)
        have hbd := hbel.drew
        clear hd1 hd2 he1 he2
        have g1 : (0 : Int) ≤ (k : Int) := by omega
        have g2 : (k : Int) < (a.length : Int) := by omega
        have g3 : (k : Int) < (b.length : Int) := by omega
        cases hdec : decide (nrm (A, V) = nrm (A', V'))
        · have HX := Lib.hid (HBd.out (by rw [← HD.out.1, ← HD.out.2]; exact of_decide_eq_false hdec))
          rw [hdec] at hnq
          go_wp2_with fail
          go_region_held3 (fun W => Below w.heap.size w W ∧ W.cell? ⟨p, off + k * 2, none⟩ = some (.string A) ∧ W.cell? ⟨p, off + k * 2 + 1, none⟩ = some (.string V) ∧ W.cell? ⟨q, off' + k * 2, none⟩ = some (.string A') ∧ W.cell? ⟨q, off' + k * 2 + 1, none⟩ = some (.string V'))
            (exact SK.out _ (by assumption))
            (first | (go_at_call 151; refine (normRdn_from w _ _ _ (by assumption) (by assumption)).mono ?_; rintro e w2 ⟨rfl, hb2⟩))
          all_goals
            go_wp2
            go_ret
            exact ⟨ret_bool HX.out.symm, hb2⟩
        · have HX := Lib.hid (HT.out (by rw [← HD.out.1, ← HD.out.2]; exact of_decide_eq_true hdec))
          rw [hdec] at hnq
          go_wp2_with fail
          go_region_held3 (fun W => Below w.heap.size w W ∧ W.cell? ⟨p, off + k * 2, none⟩ = some (.string A) ∧ W.cell? ⟨p, off + k * 2 + 1, none⟩ = some (.string V) ∧ W.cell? ⟨q, off' + k * 2, none⟩ = some (.string A') ∧ W.cell? ⟨q, off' + k * 2 + 1, none⟩ = some (.string V'))
            (exact SK.out _ (by assumption))
            (first | (go_at_call 151; refine (normRdn_from w _ _ _ (by assumption) (by assumption)).mono ?_; rintro e w2 ⟨rfl, hb2⟩))
          all_goals
            go_wp2
            go_roundw
            case rel => exact ⟨k + 1, by omega, by go_num, HX.out, hb2⟩
            case measure => simp [intOf]; omega
      · have HE : Hid (sameB a b = true) := Lib.hid (by
          have h := HS.out
          have := Hl.out
          rw [List.take_of_length_le (by omega), List.take_of_length_le (by omega)] at h
          unfold sameB; exact decide_eq_true h)
        go_wp2
        go_ret
        exact ⟨ret_bool HE.out.symm, hbel⟩
  · have hne : ((a.length : Int) != (b.length : Int)) = true := by rw [bne_iff_ne]; omega
    have HE := Lib.hid (same_len hl)
    clear hl
    go_enter Try.func146, Try.ntmps146
    go_wp2
    go_ret
    exact ⟨ret_bool HE.out.symm, Below.refl _ _⟩

def dnSameB (a b : RdnL) : Bool := dnB a && dnB b && sameB a b
end Go.Proofs.Ytmanlnlhpgdbpaa
