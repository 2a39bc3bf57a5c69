/- Norm: what the specification's text returns. -/
import Derived.Test.YtjajpdghamecoaaNorm
namespace Go.Proofs.Ytjajpdghamecoaa
open Go.RowKit

theorem last_some {pre : List UInt8} (h : pre ≠ []) : ∃ c, pre.getLast? = some c := ⟨pre.getLast h, List.getLast?_eq_some_getLast h⟩
theorem Try.elem22 : Try.prog.elem 22 = 5 := by kernel_rfl
/-- the row without its last byte -/
theorem cut_last (W : World) (g n cap : Nat) (hn : 0 < n) (hc : n ≤ cap) :
    (Instr.slice 22 (.slice (some ⟨g, 0, none⟩) n cap) none (some (.int .i64 ((n : Int) - 1))) none).run Try.prog W = .ok (.slice (some ⟨g, 0, none⟩) (n - 1) cap) W := by
  rw [run_slice_h W 22 (some ⟨g, 0, none⟩) n cap (by rw [Try.elem22]; exact Try.underlying22) .i64 ((n : Int) - 1) (by omega) (by omega), Try.elem22, Try.size5]
  have e : ((n : Int) - 1).toNat = n - 1 := by omega
  simp [Result.andThen, sliced, e]
  intro _; exact add_plain g 0
theorem own_cap {w : World} {B e z n m cap : Nat} {ao : Option Addr} {xs : List Value} (h : w.ownsRow B e z (.slice ao m cap) n xs) : n ≤ cap := by
  rcases h.2 with ⟨h, h'⟩ | ⟨_, _, _, h, _, _, h', _⟩
  · omega
  · injection h with _ _ h; omega
/-- what is known at the head of a round of Norm -/
def NormAt (s : ByteArray) (w : World) (v i : Value) (wr : World) (k : Nat) : Prop :=
  k ≤ s.size ∧ i = .int .i64 k ∧ wr.ownsRow w.heap.size 5 1 v (nfold (s.data.toList.take k)).length (bs (nfold (s.data.toList.take k))) ∧ Below w.heap.size w wr
theorem nat_of_u8 {c : UInt8} {n : Nat} (h : (c.toNat : Int) = n) (hn : n < 256) : c = UInt8.ofNat n := by
  apply UInt8.toNat_inj.1
  simp; omega
theorem nfold_take (s : ByteArray) (k : Nat) (h : k < s.size) : nfold (s.data.toList.take (k + 1)) = nstep (nfold (s.data.toList.take k)) s[k] := by rw [take_snoc s k h, nfold_snoc]
theorem nfold_take_len (s : ByteArray) (k : Nat) (hs : s.size ≤ 100) : (nfold (s.data.toList.take k)).length ≤ 100 := by
  refine Nat.le_trans (nfold_len _) ?_
  rw [List.length_take, size_len]; omega

set_option maxRecDepth 100000 in
set_option maxHeartbeats 1000000 in
theorem SpecNorm_in (s : ByteArray) (w : World) (hs : s.size ≤ 100) (hp : plainB s.data.toList = true) :
    Calls Try.prog 93 #[.string s] w fun e w' => e = .returned (.string (normS s)) ∧ Below w.heap.size w w' := by
  have HP := Lib.hid hp
  have hm : s.size ≤ maxLen := by unfold maxLen; omega
  go_enter Try.func93, Try.ntmps93
  go_wp2_with (first | (go_at_call 124; refine (l02Plain_any _ _ hm).mono ?_; rintro e w' ⟨rfl, rfl⟩))
  clear hp
  go_loopw [3, 4] (fun v i wr => ∃ k : Nat, NormAt s w v i wr k) (fun _ i _ => s.size - (intOf i).toNat)
  case atStart => exact ⟨0, Nat.zero_le _, rfl, World.ownsRow_made _ _ 0 (Nat.le_refl _) (by unfold maxLen; omega) rfl, (Below.refl _ _).alloc (Nat.le_refl _) _⟩
  case round =>
    obtain ⟨k, hk, rfl, hown, hbel⟩ := hrel
    have hlen := nfold_take_len s k hs
    obtain ⟨ao, cap, rfl⟩ := own_slice hown
    have hsz := hbel.size
    by_cases hlt : k < s.size
    · have HN := Lib.hid (nfold_take s k hlt)
      generalize nfold (s.data.toList.take k) = pre at *
      by_cases hcap : 65 ≤ (s[k].toNat : Int) ∧ (s[k].toNat : Int) ≤ 90
      · obtain ⟨c1, c2⟩ := hcap
        have hlow := low_in s[k] (by omega)
        have HE : Hid (nfold (s.data.toList.take (k + 1)) = pre ++ [low s[k]]) := Lib.hid (by
          rw [HN.out]; exact nstep_add (fun h => by have := congrArg UInt8.toNat h.1; simp at this; omega))
        have HL := Lib.hid hlow.symm; clear hlow
        go_wp2_with (first | (at_builtin; refine append_byte w.heap.size rfl _ _ rfl _ pre rfl hown (low s[k]) _ HL.out rfl (by omega) hsz hbel ?_; intro v' w1 hown' hbel' hsz'))
        go_roundw
        case rel => exact ⟨k + 1, by omega, by go_num, by rw [HE.out]; exact hown', hbel'⟩
        case measure => simp [intOf]; omega
      · have HL := Lib.hid (low_out s[k] (by omega))
        by_cases hsp : (s[k].toNat : Int) = 32
        · have hb1 : ((s[k].toNat : Int) == 32) = true := by rw [hsp]; rfl
          have hb2 : ¬ 65 ≤ (s[k].toNat : Int) := by omega
          have HS := Lib.hid (nat_of_u8 (n := 32) hsp (by omega))
          clear hcap hsp
          by_cases hne : pre = []
          · subst hne
            have HE : Hid (nfold (s.data.toList.take (k + 1)) = []) := Lib.hid (by rw [HN.out]; exact nstep_skip HS.out (.inl rfl))
            have hb3 : (([] : List UInt8).length : Int) = 0 := rfl
            rw [List.length_nil] at hown ⊢
            go_wp2
            go_roundw
            case rel => exact ⟨k + 1, by omega, by go_num, by rw [HE.out]; exact hown, hbel⟩
            case measure => simp [intOf]; omega
          · have h0 : 0 < pre.length := List.length_pos_iff.2 hne
            obtain ⟨d, hd⟩ := last_some hne
            obtain ⟨g, rfl, hcell⟩ := own_last hown rfl hd
            have HD := Lib.hid hd
            have hb3 : ((pre.length : Int) == 0) = false := by rw [beq_eq_false_iff_ne]; omega
            by_cases hds : (d.toNat : Int) = 32
            · have hb4 : ((d.toNat : Int) == 32) = true := by rw [hds]; rfl
              have HE : Hid (nfold (s.data.toList.take (k + 1)) = pre) := Lib.hid (by rw [HN.out]; exact nstep_skip HS.out (.inr (by rw [HD.out, nat_of_u8 (n := 32) hds (by omega)]; rfl)))
              clear hd hds hne
              go_wp2
              go_roundw
              case rel => exact ⟨k + 1, by omega, by go_num, by rw [HE.out]; exact hown, hbel⟩
              case measure => simp [intOf]; omega
            · have hb4 : ((d.toNat : Int) == 32) = false := by rw [beq_eq_false_iff_ne]; exact hds
              have HE : Hid (nfold (s.data.toList.take (k + 1)) = pre ++ [s[k]]) := Lib.hid (by
                rw [HN.out, nstep_add, HL.out]
                rintro ⟨_, h | h⟩
                · exact hne h
                · rw [HD.out] at h; have := Option.some.inj h; subst this; exact hds rfl)
              clear hd hds hne
              go_wp2_with (first | (at_builtin; refine append_byte w.heap.size rfl _ _ rfl _ pre rfl hown s[k] _ rfl rfl (by omega) hsz hbel ?_; intro v' w1 hown' hbel' hsz'))
              go_roundw
              case rel => exact ⟨k + 1, by omega, by go_num, by rw [HE.out]; exact hown', hbel'⟩
              case measure => simp [intOf]; omega
        · have hb1 : ((s[k].toNat : Int) == 32) = false := by rw [beq_eq_false_iff_ne]; exact hsp
          have HE : Hid (nfold (s.data.toList.take (k + 1)) = pre ++ [s[k]]) := Lib.hid (by
            rw [HN.out, nstep_add, HL.out]
            rintro ⟨h, _⟩
            rw [h] at hsp; exact hsp rfl)
          by_cases c1 : 65 ≤ (s[k].toNat : Int)
          · have c2 : ¬ (s[k].toNat : Int) ≤ 90 := by omega
            clear hcap hsp
            go_wp2_with (first | (at_builtin; refine append_byte w.heap.size rfl _ _ rfl _ pre rfl hown s[k] _ rfl rfl (by omega) hsz hbel ?_; intro v' w1 hown' hbel' hsz'))
            go_roundw
            case rel => exact ⟨k + 1, by omega, by go_num, by rw [HE.out]; exact hown', hbel'⟩
            case measure => simp [intOf]; omega
          · clear hcap hsp
            go_wp2_with (first | (at_builtin; refine append_byte w.heap.size rfl _ _ rfl _ pre rfl hown s[k] _ rfl rfl (by omega) hsz hbel ?_; intro v' w1 hown' hbel' hsz'))
            go_roundw
            case rel => exact ⟨k + 1, by omega, by go_num, by rw [HE.out]; exact hown', hbel'⟩
            case measure => simp [intOf]; omega
    · have e : s.data.toList.take k = s.data.toList := List.take_of_length_le (by simp; omega)
      rw [e] at hown hlen ⊢
      have HR : Hid (normS s = ⟨(chop (nfold s.data.toList)).toArray⟩) := Lib.hid (by unfold normS; rw [normL_in (by simpa using hs) HP.out])
      clear e
      generalize nfold s.data.toList = pre at *
      by_cases hne : pre = []
      · subst hne
        have hcv := str_own _ _ _ [] hown
        have HC : Hid (chop [] = []) := Lib.hid rfl
        rw [List.length_nil] at hown hcv ⊢
        go_wp2
        go_ret
        exact ⟨ret_str (by rw [HR.out, HC.out]), hbel⟩
      · have h0 : 0 < pre.length := List.length_pos_iff.2 hne
        obtain ⟨d, hd⟩ := last_some hne
        obtain ⟨g, rfl, hcell⟩ := own_last hown rfl hd
        have HD := Lib.hid hd
        by_cases hds : (d.toNat : Int) = 32
        · have hb4 : ((d.toNat : Int) == 32) = true := by rw [hds]; rfl
          have HC : Hid (chop pre = pre.dropLast) := Lib.hid (by unfold chop; rw [if_pos]; rw [HD.out, nat_of_u8 (n := 32) hds (by omega)]; rfl)
          have hcut := fun W => cut_last W g pre.length cap h0 (own_cap hown)
          have hcv := str22 wr ⟨g, 0, none⟩ cap pre.dropLast (pre.length - 1) (by simp) (fun j hj => by
            rw [List.length_dropLast] at hj
            rw [List.getElem_dropLast]
            exact hown.cells (g := g) rfl j _ (by simp [bs, List.getElem?_eq_getElem (show j < pre.length by omega)]))
          clear hd hds hne
          go_wp2
          go_ret
          exact ⟨ret_str (by rw [HR.out, HC.out]), hbel⟩
        · have hb4 : ((d.toNat : Int) == 32) = false := by rw [beq_eq_false_iff_ne]; exact hds
          have HC : Hid (chop pre = pre) := Lib.hid (by unfold chop; rw [if_neg]; intro h; rw [HD.out] at h; have := Option.some.inj h; subst this; exact hds rfl)
          have hcv := str_own _ _ _ pre hown
          clear hd hds hne
          go_wp2
          go_ret
          exact ⟨ret_str (by rw [HR.out, HC.out]), hbel⟩
end Go.Proofs.Ytjajpdghamecoaa
