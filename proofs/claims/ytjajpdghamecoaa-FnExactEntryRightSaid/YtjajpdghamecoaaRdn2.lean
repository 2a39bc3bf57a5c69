/- Reading names: l02Rdn of the specification. -/
import Derived.Test.YtjajpdghamecoaaCut2
namespace Go.Proofs.Ytjajpdghamecoaa
open Go.RowKit
attribute [local go_sem ↓] Go.wp_at_zero Go.wp_at_succ

theorem unesc2_one (c : UInt8) : unesc2 [c] = [c] := by rw [unesc2]
theorem unesc2_two (c d : UInt8) (l : List UInt8) : unesc2 (c :: d :: l) = if c = 92 then d :: unesc2 l else c :: unesc2 (d :: l) := by rw [unesc2]
def No61 (s : ByteArray) (k : Nat) : Prop := ∀ c ∈ s.data.toList.take k, c ≠ 61
theorem No61.step {s : ByteArray} {k : Nat} (h : No61 s k) (hk : k < s.size) (hc : s[k] ≠ 61) : No61 s (k + 1) := by
  intro c hm
  rw [take_snoc s k hk, List.mem_append] at hm
  rcases hm with hm | hm
  · exact h c hm
  · simp at hm; subst hm; exact hc
theorem No61.none {s : ByteArray} {k : Nat} (h : No61 s k) (hk : ¬ k < s.size) : rdn2 s.data.toList = (toS [], toS []) := by
  unfold rdn2
  rw [if_neg]
  intro hm
  have : s.data.toList.take k = s.data.toList := List.take_of_length_le (by rw [size_len]; omega)
  exact h 61 (by rw [this]; exact hm) rfl
theorem No61.some {s : ByteArray} {k : Nat} (h : No61 s k) (hk : k < s.size) (hc : s[k] = 61) : rdn2 s.data.toList = (toS (s.data.toList.take k), toS (unesc2 (s.data.toList.drop (k + 1)))) := by
  have e : s.data.toList = s.data.toList.take k ++ 61 :: s.data.toList.drop (k + 1) := by
    conv => lhs; rw [← List.take_append_drop k s.data.toList]
    rw [drop_at s k hk, hc]
  obtain ⟨h1, h2⟩ := takeWhile_name (l := s.data.toList.take k) (t := s.data.toList.drop (k + 1)) h
  unfold rdn2
  rw [if_pos (by rw [e]; simp)]
  rw [← e] at h1 h2
  rw [h1, h2]; simp
def UnB (s : ByteArray) (k : Nat) (pre : List UInt8) (j : Nat) : Prop := unesc2 (s.data.toList.drop (k + 1)) = pre ++ unesc2 (s.data.toList.drop j) ∧ pre.length ≤ j
theorem UnB.one {s : ByteArray} {k j : Nat} {pre : List UInt8} (h : UnB s k pre j) (hj : j < s.size) (hc : s[j] ≠ 92 ∨ j + 1 = s.size) : UnB s k (pre ++ [s[j]]) (j + 1) := by
  refine ⟨?_, by have := h.2; simp; omega⟩
  rw [h.1, drop_at s j hj]
  rcases he : s.data.toList.drop (j + 1) with _ | ⟨d, l⟩
  · rw [unesc2_one]; simp [unesc2]
  · have hne : s[j] ≠ 92 := by
      rcases hc with h | h
      · exact h
      · rw [List.drop_eq_nil_of_le (by rw [size_len]; omega)] at he; cases he
    rw [unesc2_two, if_neg hne]; simp
theorem UnB.two {s : ByteArray} {k j : Nat} {pre : List UInt8} (h : UnB s k pre j) (hj : j < s.size) (hj1 : j + 1 < s.size) (hc : s[j] = 92) : UnB s k (pre ++ [s[j + 1]]) (j + 2) := by
  refine ⟨?_, by have := h.2; simp; omega⟩
  rw [h.1, drop_at s j hj, drop_at s (j + 1) hj1, unesc2_two, if_pos hc]; simp
theorem UnB.last {s : ByteArray} {k j : Nat} {pre : List UInt8} (h : UnB s k pre j) (hj : ¬ j < s.size) : unesc2 (s.data.toList.drop (k + 1)) = pre := by
  rw [h.1, List.drop_eq_nil_of_le (by rw [size_len]; omega)]; simp [unesc2]
/-- two cells of block R that may be written -/
theorem two_new {w wr : World} {a b : Value} {T : TypeId} (hb : Below (w.heap.size + 1) (w.alloc (.cells #[a, b] T)) wr) :
    (wr.cell? ⟨w.heap.size, 0, none⟩ = some a ∧ wr.cell? ⟨w.heap.size, 1, none⟩ = some b) ∧ wr.frozen? ⟨w.heap.size, 0, none⟩ = false ∧ wr.frozen? ⟨w.heap.size, 1, none⟩ = false := by
  have hblk : wr.heap[w.heap.size]? = some (.cells #[a, b] T) := by rw [hb.block _ (by omega)]; exact heap_alloc_new w _
  refine ⟨⟨?_, ?_⟩, ?_, ?_⟩
  all_goals first | (unfold World.cell?; rw [hblk]; rfl) | (unfold World.frozen?; rw [hblk]; rfl)
theorem below_one {w wr : World} {o : Obj} (hb : Below (w.heap.size + 1) (w.alloc o) wr) : Below w.heap.size w wr := (more (Below.refl _ _) o).trans (hb.mono (by omega))
theorem made3 (w : World) (o : Obj) : ((w.alloc o).alloc (.cells #[] 5)).ownsRow (w.heap.size + 1) 5 1 (.slice (some ⟨w.heap.size + 1, 0, none⟩) 0 0) 0 (bs []) := by
  have h := World.ownsRow_made (base := w.heap.size + 1) (e := 5) (size := 1) (w.alloc o) #[] 0 (by simp) (by unfold maxLen; omega) rfl
  rw [World.size_alloc] at h; exact h
set_option maxRecDepth 100000 in
set_option maxHeartbeats 2000000 in
theorem l02Rdn_any (s : ByteArray) (w : World) (hs : s.size ≤ 8000) :
    Calls Try.prog 98 #[.string s] w fun e w' => e = .returned (.agg #[.string (rdn2 s.data.toList).1, .string (rdn2 s.data.toList).2]) ∧ Below w.heap.size w w' := by
  go_enter Try.func98, Try.ntmps98
  go_wp2
  go_loop [3] (fun i => ∃ k : Nat, k ≤ s.size ∧ i = .int .i64 k ∧ No61 s k) (fun i => s.size - (intOf i).toNat)
  case atStart => exact ⟨0, Nat.zero_le _, rfl, by unfold No61; simp⟩
  case round =>
    obtain ⟨k, hk, rfl, hN⟩ := hrel
    have HN := Lib.hid hN; clear hN
    by_cases hlt : k < s.size
    · by_cases h61 : (s[k].toNat : Int) = 61
      · have hb1 : ((s[k].toNat : Int) != 61) = false := by rw [h61]; rfl
        have HR := Lib.hid (HN.out.some hlt (nat_of_u8 (n := 61) h61 (by omega)))
        have hb2 : ((k : Int) == (s.size : Int)) = false := by rw [beq_eq_false_iff_ne]; omega
        clear h61
        go_wp2
        go_loopw [4, 5] (fun v i wr => ∃ (j : Nat) (pre : List UInt8), j ≤ s.size ∧ i = .int .i64 j ∧ UnB s k pre j ∧ wr.ownsRow (w.heap.size + 1) 5 1 v pre.length (bs pre) ∧ Below (w.heap.size + 1) (w.alloc (.cells #[.string ByteArray.empty, .string ByteArray.empty] 61)) wr) (fun _ i _ => s.size - (intOf i).toNat)
        case atStart => exact ⟨k + 1, [], by omega, by go_num, ⟨by simp, by simp⟩, made3 w _, (Below.refl _ _).alloc (by simp) _⟩
        case round =>
          obtain ⟨j, pre, hj, rfl, hU, hown, hbel⟩ := hrel
          have hpl := hU.2
          have HU := Lib.hid hU; clear hU
          have hsz : w.heap.size + 1 ≤ wr.heap.size := by have := hbel.size; simpa using this
          by_cases hjl : j < s.size
          · by_cases h92 : (s[j].toNat : Int) = 92
            · have hb3 : ((s[j].toNat : Int) == 92) = true := by rw [h92]; rfl
              have E92 := Lib.hid (nat_of_u8 (n := 92) h92 (by omega))
              clear h92
              by_cases hj1 : j + 1 < s.size
              · have HM := Lib.hid (HU.out.two hjl hj1 E92.out)
                go_wp2_with (first | (at_builtin; refine append_byte (w.heap.size + 1) rfl _ _ rfl _ pre rfl hown s[j + 1] _ rfl rfl (by omega) hsz hbel ?_; intro v' w1 hown1 hbel1 hsz1) | (fail "none"))
                go_roundw
                case rel => exact ⟨j + 2, _, by omega, by go_num, HM.out, hown1, hbel1⟩
                case measure => simp [intOf]; omega
              · have HM := Lib.hid (HU.out.one hjl (.inr (by omega)))
                go_wp2_with (first | (at_builtin; refine append_byte (w.heap.size + 1) rfl _ _ rfl _ pre rfl hown s[j] _ rfl rfl (by omega) hsz hbel ?_; intro v' w1 hown1 hbel1 hsz1) | (fail "none"))
                go_roundw
                case rel => exact ⟨j + 1, _, by omega, by go_num, HM.out, hown1, hbel1⟩
                case measure => simp [intOf]; omega
            · have hb3 : ((s[j].toNat : Int) == 92) = false := by rw [beq_eq_false_iff_ne]; exact h92
              have HM := Lib.hid (HU.out.one hjl (.inl (fun e => h92 (by rw [e]; rfl))))
              clear h92
              go_wp2_with (first | (at_builtin; refine append_byte (w.heap.size + 1) rfl _ _ rfl _ pre rfl hown s[j] _ rfl rfl (by omega) hsz hbel ?_; intro v' w1 hown1 hbel1 hsz1) | (fail "none"))
              go_roundw
              case rel => exact ⟨j + 1, _, by omega, by go_num, HM.out, hown1, hbel1⟩
              case measure => simp [intOf]; omega
          · have HL := Lib.hid (HU.out.last hjl)
            have hcv := str_own wr.drew _ _ _ hown.drew
            obtain ⟨⟨c0, c1⟩, f0, f1⟩ := two_new hbel
            have HX := Lib.hid (ext_take s k)
            have HB := Lib.hid hbel
            clear hbel hown
            go_wp2_with fail
            go_region
            go_wp2
            have e1 : (rdn2 s.data.toList).1 = s.extract 0 k := by rw [HR.out, HX.out]
            have e2 : (rdn2 s.data.toList).2 = ⟨pre.toArray⟩ := by rw [HR.out, HL.out]; rfl
            rw [e1, e2]
            refine bodyPost_ret (v := .agg #[.string (s.extract 0 k), .string ⟨pre.toArray⟩]) (by simp [results, Try.results98, go_sem, c0, c1]) rfl ⟨rfl, ?_⟩
            exact (((below_one HB.out).setCell (Nat.le_refl _) _).setCell (Nat.le_refl _) _).drew
      · have hb1 : ((s[k].toNat : Int) != 61) = true := by rw [bne_iff_ne]; exact h61
        have HM := Lib.hid (HN.out.step hlt (fun e => h61 (by rw [e]; rfl)))
        clear h61
        go_wp2
        go_round
        case rel => exact ⟨k + 1, by omega, by go_num, HM.out⟩
        case measure => simp [intOf]; omega
    · have HR := Lib.hid (HN.out.none hlt)
      have hb2 : ((k : Int) == (s.size : Int)) = true := by rw [beq_iff_eq]; omega
      go_wp2
      refine bodyPost_ret (v := .agg #[.string (rdn2 s.data.toList).1, .string (rdn2 s.data.toList).2]) (by rw [HR.out]; simp [results, Try.results98, go_sem]; rfl) rfl ⟨rfl, ?_⟩
      exact (Below.refl _ _).alloc (Nat.le_refl _) _
end Go.Proofs.Ytjajpdghamecoaa
