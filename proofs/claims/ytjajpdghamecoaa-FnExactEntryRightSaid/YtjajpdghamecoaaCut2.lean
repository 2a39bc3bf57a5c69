/- Reading names: l02Cut of the specification. -/
import Derived.Test.YtjajpdghamecoaaCut
namespace Go.Proofs.Ytjajpdghamecoaa
open Go.RowKit
attribute [local go_sem ↓] Go.wp_at_zero Go.wp_at_succ

theorem wpl_world {P : Program} {ops : Array Oper} {Q : Exit → Act → World → Prop} {l : List Oper} {a : Act} {w : World} (R : World → Prop) (h : R w) (k : ∀ W, R W → wpList P ops Q l a W) : wpList P ops Q l a w := k w h
theorem made2 (w : World) : ((w.alloc (.cells #[] 9)).alloc (.cells #[] 5)).ownsRow w.heap.size 5 1 (.slice (some ⟨w.heap.size + 1, 0, none⟩) 0 0) 0 (bs []) := by
  have h := World.ownsRow_made (base := w.heap.size) (e := 5) (size := 1) (w.alloc (.cells #[] 9)) #[] 0 (by simp) (by unfold maxLen; omega) rfl
  rw [World.size_alloc] at h; exact h
set_option maxRecDepth 100000 in
set_option maxHeartbeats 2000000 in
theorem l02Cut_any (s : ByteArray) (w : World) (hs : s.size ≤ 8000) :
    Calls Try.prog 97 #[.string s] w fun e w' => (∃ v, e = .returned v ∧ w'.ownsRow w.heap.size 9 1 v (tss (cutF [] s.data.toList)).length (ss (tss (cutF [] s.data.toList)))) ∧ Below w.heap.size w w' := by
  go_enter Try.func97, Try.ntmps97
  go_wp2
  go_loopw [3, 4, 5] (fun v u i wr => ∃ (k : Nat) (outs : List (List UInt8)) (b : List UInt8), k ≤ s.size ∧ i = .int .i64 k ∧ CutS s outs b k ∧ wr.ownsRow w.heap.size 9 1 v (tss outs).length (ss (tss outs)) ∧ wr.ownsRow w.heap.size 5 1 u b.length (bs b) ∧ Below w.heap.size w wr) (fun _ _ i _ => s.size - (intOf i).toNat)
  case atStart => exact ⟨0, [], [], Nat.zero_le _, rfl, ⟨by simp, by simp, by simp⟩, (World.ownsRow_made _ _ 0 (Nat.le_refl _) (by unfold maxLen; omega) rfl).alloc _, made2 w, more (more (Below.refl _ _) _) _⟩
  case round =>
    obtain ⟨k, outs, b, hk, rfl, hC, hv, hu, hbel⟩ := hrel
    have hlo : (tss outs).length ≤ 8000 := by have := hC.2.1; rw [tss_len]; omega
    have hlb : b.length ≤ 8000 := by have := hC.2.2; omega
    have HC := Lib.hid hC; have HV := Lib.hid hv; have HU := Lib.hid hu
    have HA := Lib.hid (own_apart hv hu (by decide))
    have HA' := Lib.hid (own_apart hu hv (by decide))
    clear hC hv hu
    have hsz := hbel.size
    by_cases hlt : k < s.size
    · by_cases h92 : (s[k].toNat : Int) = 92
      · have hb1 : ((s[k].toNat : Int) == 92) = true := by rw [h92]; rfl
        have hb2 : ((s[k].toNat : Int) == 44) = false := by rw [h92]; rfl
        have E92 := Lib.hid (nat_of_u8 (n := 92) h92 (by omega))
        clear h92
        by_cases hl2 : k + 1 < s.size
        · have HN := Lib.hid (HC.out.two hlt hl2 E92.out)
          have g0 : (0 : Int) ≤ (k : Int) := by omega
          have g1 : (k : Int) < (s.size : Int) := by omega
          have g2 : (0 : Int) ≤ (k : Int) + 1 := by omega
          have g3 : (k : Int) + 1 < (s.size : Int) := by omega
          have g4 : ((k : Int) + 1).toNat = k + 1 := by omega
          go_wp2_with fail
          have g5 : IntKind.i64.wrap ((k : Int) + 1) = (k : Int) + 1 := IntWalk.i64_in _ (by omega)
          go_region_held3 (fun _ => True) (trivial)
            (first | (refine step_two w.heap.size (by rfl) _ _ (by rfl) _ b (by rfl) HU.out _ _ (by rfl) (Nat.le_trans hlb (by omega)) hsz hbel ?_; intro g cp w1 hown1 hbel1 hg1) | (fail "none"))
          all_goals
            have HV1 := Lib.hid ((HV.out.alloc (.cells #[.int .u8 (s[k].toNat : Int), .int .u8 (s[k + 1].toNat : Int)] 5)).kept hg1 HA'.out)
            have HU1 := Lib.hid hown1
            clear hown1 hg1 g5
            go_wp2
            go_roundw
            case rel => exact ⟨k + 2, outs, b ++ [s[k], s[k + 1]], by omega, by go_num, HN.out, HV1.out, HU1.out, hbel1⟩
            case measure => simp [intOf]; omega
        · have HN := Lib.hid (HC.out.one hlt (by rw [E92.out]; decide) (.inr (by omega)))
          go_wp2_with (first | (at_builtin; refine append_byte2 w.heap.size rfl _ _ rfl _ b rfl HU.out s[k] _ rfl rfl (by omega) hsz hbel ?_; intro v' w1 hown1 hbel1 hg1; have HV1 := Lib.hid ((HV.out.alloc _).kept hg1 HA'.out); have HU1 := Lib.hid hown1; clear hown1 hg1) | (fail "none"))
          go_roundw
          case rel => exact ⟨k + 1, outs, b ++ [s[k]], by omega, by go_num, HN.out, HV1.out, HU1.out, hbel1⟩
          case measure => simp [intOf]; omega
      · have hb1 : ((s[k].toNat : Int) == 92) = false := by rw [beq_eq_false_iff_ne]; exact h92
        have N92 : Hid (s[k] ≠ 92) := Lib.hid (fun e => h92 (by rw [e]; rfl))
        clear h92
        by_cases h44 : (s[k].toNat : Int) = 44
        · have hb2 : ((s[k].toNat : Int) == 44) = true := by rw [h44]; rfl
          have HN := Lib.hid (HC.out.comma hlt (nat_of_u8 (n := 44) h44 (by omega)))
          clear h44
          have hcv := fun (W : World) (h : W.ownsRow w.heap.size 5 1 u4 b.length (bs b)) => str_own W _ _ _ h
          have hcv0 := hcv wr HU.out
          clear hcv
          go_wp2_with (first | (at_builtin; refine append_str w.heap.size rfl _ _ rfl _ (tss outs) rfl HV.out _ rfl (by omega) hsz hbel ?_; intro v' w1 hown1 hbel1 hsz1 hat1 hg1; have HV1 := Lib.hid hown1; clear hown1 hg1 hat1) | (fail "none"))
          go_roundw
          case rel => exact ⟨k + 1, outs ++ [b], [], by omega, by go_num, HN.out, by rw [tss_snoc]; exact HV1.out.alloc _, World.ownsRow_made _ _ 0 hsz1 (by unfold maxLen; omega) rfl, more hbel1 _⟩
          case measure => simp [intOf]; omega
        · have hb2 : ((s[k].toNat : Int) == 44) = false := by rw [beq_eq_false_iff_ne]; exact h44
          have HN := Lib.hid (HC.out.one hlt (fun e => h44 (by rw [e]; rfl)) (.inl N92.out))
          clear h44
          go_wp2_with (first | (at_builtin; refine append_byte2 w.heap.size rfl _ _ rfl _ b rfl HU.out s[k] _ rfl rfl (by omega) hsz hbel ?_; intro v' w1 hown1 hbel1 hg1; have HV1 := Lib.hid ((HV.out.alloc _).kept hg1 HA'.out); have HU1 := Lib.hid hown1; clear hown1 hg1) | (fail "none"))
          go_roundw
          case rel => exact ⟨k + 1, outs, b ++ [s[k]], by omega, by go_num, HN.out, HV1.out, HU1.out, hbel1⟩
          case measure => simp [intOf]; omega
    · have HE := Lib.hid (HC.out.last hlt)
      have hcv0 := str_own wr _ _ _ HU.out
      go_wp2_with (first | (at_builtin; refine append_str w.heap.size rfl _ _ rfl _ (tss outs) rfl HV.out _ rfl (by omega) hsz hbel ?_; intro v' w1 hown1 hbel1 hsz1 hat1 hg1; have HV1 := Lib.hid hown1; clear hown1 hg1 hat1) | (fail "none"))
      go_ret
      exact ⟨⟨_, rfl, by rw [HE.out, tss_snoc]; exact HV1.out⟩, hbel1⟩
end Go.Proofs.Ytjajpdghamecoaa
