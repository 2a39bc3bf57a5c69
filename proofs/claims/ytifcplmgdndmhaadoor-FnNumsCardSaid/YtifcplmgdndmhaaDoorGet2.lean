/- GetNum: the other ways, and the specification's text. -/
import Derived.Test.YtifcplmgdndmhaaDoorGet
namespace Go.Proofs.YtifcplmgdndmhaaDoor
open Go.RowKit

/-- a block of three cells that was laid ahead of a call is as it was behind it -/
theorem keep3 {w W w1 : World} {a b c : Value} {T : TypeId} (hb : Below W.heap.size W w1) (hW : W.heap = (w.alloc (.cells #[a, b, c] T)).heap) :
    (w1.cell? ⟨w.heap.size, 0, none⟩ = some a ∧ w1.cell? ⟨w.heap.size, 1, none⟩ = some b ∧ w1.cell? ⟨w.heap.size, 2, none⟩ = some c) ∧
    (w1.frozen? ⟨w.heap.size, 0, none⟩ = false ∧ w1.frozen? ⟨w.heap.size, 1, none⟩ = false ∧ w1.frozen? ⟨w.heap.size, 2, none⟩ = false) ∧ w.heap.size < w1.heap.size := by
  have hs : w.heap.size < W.heap.size := by rw [hW]; simp
  have hblk : w1.heap[w.heap.size]? = some (.cells #[a, b, c] T) := by rw [hb.block _ hs, hW]; exact heap_alloc_new w _
  refine ⟨⟨?_, ?_, ?_⟩, ⟨?_, ?_, ?_⟩, Nat.lt_of_lt_of_le hs hb.size⟩
  all_goals first | (unfold World.cell?; rw [hblk]; rfl) | (unfold World.frozen?; rw [hblk]; rfl)
theorem below_past {w W w1 : World} {o : Obj} (hb : Below W.heap.size W w1) (h1 : W.heap = (w.alloc o).heap) (h2 : W.os = w.os) (h3 : W.tape = w.tape) (h4 : W.output = w.output) : Below w.heap.size w w1 := by
  have hs : W.heap.size = w.heap.size + 1 := by rw [h1]; simp
  refine ⟨hb.os.trans h2, hb.tape.trans h3, hb.output.trans h4, by have := hb.size; omega, fun k hk => ?_⟩
  rw [hb.block k (by omega), h1, Below.heap_alloc w o k hk]

set_option maxRecDepth 100000 in
set_option maxHeartbeats 1000000 in
theorem GetNum_bad (s : ByteArray) (p : Nat) (w : World) (hg : Handle w) (hs : s.size ≤ 8000) (hp : p ≤ 9223372036854775807) (c : Nat) (hv : scanV s p = (c, 0, 0)) (h0 : 0 < c) :
    Calls Tryd.prog 9 #[.string s, .int .i64 p] w fun r w' => r = .returned (.agg #[.int .i64 0, .int .i64 0, .int .i64 c]) ∧ Below w.heap.size w w' := by
  have A := fun w => scanNum_any s p w hs hp
  rw [scanRet_bad s p c hv h0] at A
  have HA := Lib.hid A; clear A hv
  have HG := Lib.hid (hg.alloc (.cells #[.int .i64 0, .int .i64 0, .int .i64 0] 26)); clear hg
  go_enter Tryd.func9, Tryd.ntmps9
  go_wp2_with (first | (go_at_call 21; refine (HA.out _).mono ?_; rintro e w' ⟨rfl, rfl⟩) | (go_at_call 22; refine (malformedCode_any _ _ HG.out).mono ?_; rintro e w1 ⟨rfl, hb1⟩; obtain ⟨⟨c0, c1, c2⟩, ⟨f0, f1, f2⟩, hz1⟩ := keep3 hb1 rfl; have HB := Lib.hid (below_past hb1 rfl rfl rfl rfl); clear hb1))
  refine bodyPost_ret (v := .agg #[.int .i64 0, .int .i64 0, .int .i64 c]) (by simp [results, Tryd.results9, go_sem, c0, c1, c2]) rfl ⟨rfl, ?_⟩
  exact ((HB.out.setCell (Nat.le_refl _) _).setCell (Nat.le_refl _) _).setCell (Nat.le_refl _) _
set_option maxHeartbeats 400000 in
theorem GetNum_neg (s : ByteArray) (x : Int) (w : World) (hs : s.size ≤ 8000) (hx : x < 0) :
    Calls Tryd.prog 9 #[.string s, .int .i64 x] w fun r w' => r = .returned (.agg #[.int .i64 0, .int .i64 0, .int .i64 1]) ∧ Below w.heap.size w w' := by
  go_enter Tryd.func9, Tryd.ntmps9
  go_wp2
  exact bodyPost_ret (v := .agg #[.int .i64 0, .int .i64 0, .int .i64 1]) (by simp [results, Tryd.results9, go_sem]) rfl ⟨rfl, (Below.refl _ _).alloc (Nat.le_refl _) _⟩
set_option maxHeartbeats 400000 in
theorem GetNum_long (s : ByteArray) (x : Int) (w : World) (hm : s.size ≤ maxLen) (hs : 8000 < s.size) :
    Calls Tryd.prog 9 #[.string s, .int .i64 x] w fun r w' => r = .returned (.agg #[.int .i64 0, .int .i64 0, .int .i64 2]) ∧ Below w.heap.size w w' := by
  unfold maxLen at hm
  go_enter Tryd.func9, Tryd.ntmps9
  go_wp2
  exact bodyPost_ret (v := .agg #[.int .i64 0, .int .i64 0, .int .i64 2]) (by simp [results, Tryd.results9, go_sem]) rfl ⟨rfl, (Below.refl _ _).alloc (Nat.le_refl _) _⟩
theorem GetNum_any (s : ByteArray) (x : Int) (w : World) (hg : Handle w) (hm : s.size ≤ maxLen) (hx : x ≤ 9223372036854775807) :
    Calls Tryd.prog 9 #[.string s, .int .i64 x] w fun r w' => r = .returned (.agg #[.int .i64 (numN s x), .int .i64 (numA s x), .int .i64 (numC s x)]) ∧ Below w.heap.size w w' := by
  by_cases hs : 8000 < s.size
  · obtain ⟨a, b, c⟩ := num_long s x hs
    rw [a, b, c]; exact GetNum_long s x w hm hs
  · by_cases h0 : x < 0
    · obtain ⟨a, b, c⟩ := num_neg s x hs h0
      rw [a, b, c]; exact GetNum_neg s x w (by omega) h0
    · obtain ⟨p, rfl⟩ := Int.eq_ofNat_of_zero_le (show 0 ≤ x by omega)
      rcases scanG_form s p 10 0 0 with ⟨k, hk, hv⟩ | ⟨u, e, hv⟩
      · obtain ⟨a, b, c⟩ := num_bad s p hs k hv hk
        rw [a, b, c]; exact GetNum_bad s p w hg (by omega) (by omega) k hv hk
      · obtain ⟨a, b, c⟩ := num_ok s p hs u e hv
        rw [a, b, c]; exact GetNum_ok s p w (by omega) (by omega) u e hv

theorem add_step (u c i : Nat) (hf : u + c % 128 * 2 ^ (7 * i) < 18446744073709551616) :
    IntKind.u64.wrap ((u : Int) + IntKind.u64.wrap ((c : Int) % 128 * 2 ^ (7 * i))) = ((u + c % 128 * 2 ^ (7 * i) : Nat) : Int) := by
  have e2 : ((c : Int) % 128) * 2 ^ (7 * i) = ((c % 128 * 2 ^ (7 * i) : Nat) : Int) := by simp
  rw [e2, IntKind.wrap_u64, IntKind.wrap_u64]
  generalize c % 128 * 2 ^ (7 * i) = d at *
  omega
theorem half_odd (U : Nat) (h : U < 18446744073709551616) (ho : U % 2 = 1) : wrap64 (wrap64 (-wrap64 (IntKind.u64.wrap ((U : Int) / 2))) - 1) = unzig U := by
  have e : (U : Int) / 2 = ((U / 2 : Nat) : Int) := by omega
  rw [e, IntKind.wrap_u64]
  unfold unzig wrap64
  rw [if_pos ho]
  omega
theorem half_even (U : Nat) (h : U < 18446744073709551616) (ho : ¬ U % 2 = 1) : wrap64 (IntKind.u64.wrap ((U : Int) / 2)) = unzig U := by
  have e : (U : Int) / 2 = ((U / 2 : Nat) : Int) := by omega
  rw [e, IntKind.wrap_u64]
  unfold unzig wrap64
  rw [if_neg ho]
  omega
theorem tmod_two (U : Nat) : (U : Int) % 2 = ((U % 2 : Nat) : Int) := by omega

set_option maxRecDepth 100000 in
set_option maxHeartbeats 4000000 in
theorem SpecGetNum_in (s : ByteArray) (p : Nat) (w : World) (hs : s.size ≤ 8000) (hp : p ≤ 9223372036854775807) :
    Calls Tryd.prog 14 #[.string s, .int .i64 p] w fun r w' => r = .returned (.agg #[.int .i64 (numN s p), .int .i64 (numA s p), .int .i64 (numC s p)]) ∧ Below w.heap.size w w' := by
  have hs' : ¬ 8000 < s.size := by omega
  have HBad := Lib.hid (fun c hv h0 => num_bad s p hs' c hv h0)
  have HOk := Lib.hid (fun u e hv => num_ok s p hs' u e hv)
  clear hs'
  go_enter Tryd.func14, Tryd.ntmps14
  go_wp2
  go_loop [5, 6] (fun t i => ∃ k u : Nat, Scan s p k u ∧ i = .int .i64 k ∧ t = .int .u64 u) (fun _ i => 10 - (intOf i).toNat)
  case atStart => exact ⟨0, 0, scan_start s p, rfl, rfl⟩
  case round =>
    obtain ⟨i, u, hS, rfl, rfl⟩ := hrel
    have hi9 := hS.1
    have HS := Lib.hid hS; clear hS
    by_cases hlt : p + i < s.size
    · have hlt' : (p : Int) + (i : Int) < (s.size : Int) := by omega
      have hc256 : s[p + i].toNat < 256 := s[p + i].toNat_lt
      by_cases h9 : i = 9 ∧ 1 < s[p + i].toNat
      · have HV := Lib.hid (scan_tenth HS.out hlt h9.1 h9.2)
        have HG := Lib.hid (HBad.out 3 HV.out (by decide))
        have b9 : ((i : Int) == 9) = true := by simp; omega
        have hc1 : (1 : Int) < (s[p + i].toNat : Int) := by omega
        clear h9
        go_wp2
        exact bodyPost_ret (v := .agg #[.int .i64 0, .int .i64 0, .int .i64 3]) (by simp [results, Tryd.results14, go_sem]) rfl ⟨by obtain ⟨g1, g2, g3⟩ := HG.out; rw [g1, g2, g3]; rfl, (Below.refl _ _).alloc (Nat.le_refl _) _⟩
      · have Hfit := Lib.hid (scan_fits HS.out hlt h9)
        have H9 := Lib.hid h9
        have hadd := add_step u s[p + i].toNat i Hfit.out
        by_cases hc : s[p + i].toNat < 128
        · by_cases hz : s[p + i].toNat = 0 ∧ 0 < i
          · have HV := Lib.hid (scan_over HS.out hlt h9 hc hz)
            have HG := Lib.hid (HBad.out 3 HV.out (by decide))
            have bz : ((s[p + i].toNat : Int) == 0) = true := by simp; omega
            have hi0 : (0 : Int) < (i : Int) := by omega
            have hc1 : (s[p + i].toNat : Int) ≤ 1 := by omega
            clear h9 hz hadd
            go_wp2
            all_goals exact bodyPost_ret (v := .agg #[.int .i64 0, .int .i64 0, .int .i64 3]) (by simp [results, Tryd.results14, go_sem]) rfl ⟨by obtain ⟨g1, g2, g3⟩ := HG.out; rw [g1, g2, g3]; rfl, (Below.refl _ _).alloc (Nat.le_refl _) _⟩
          · have HV := Lib.hid (scan_last HS.out hlt h9 hc hz)
            have HG := Lib.hid (HOk.out _ _ HV.out)
            clear HV
            generalize hU : u + s[p + i].toNat % 128 * 2 ^ (7 * i) = U at *
            have ht := tmod_two U
            clear hU
            have hp8 : p + i < 8000 := by omega
            by_cases ho : U % 2 = 1
            · have ht' : ((U : Int) % 2 == 1) = true := by rw [ht, ho]; rfl
              have HF := Lib.hid (half_odd U Hfit.out ho)
              clear ht ho
              by_cases z : s[p + i].toNat = 0
              all_goals by_cases n : i = 9
              all_goals try (exfalso; omega)
              all_goals
                first | (have bz : ((s[p + i].toNat : Int) == 0) = true := by simp [z]) | (have bz : ((s[p + i].toNat : Int) == 0) = false := by simp [z])
                first | (have b9 : ((i : Int) == 9) = true := by simp [n]) | (have b9 : ((i : Int) == 9) = false := by rw [beq_eq_false_iff_ne]; omega)
                have hc1 : i = 9 → (s[p + i].toNat : Int) ≤ 1 := fun e => by omega
                have hi0 : s[p + i].toNat = 0 → ¬ (0 : Int) < (i : Int) := fun e => by omega
                try (have hc1' := hc1 n)
                try (have hi0' := hi0 z)
                clear hc1 hi0 h9 hz z n
                go_wp2
                rw [HF.out]
                exact bodyPost_ret (v := .agg #[.int .i64 (unzig U), .int .i64 ((p : Int) + (i : Int) + 1), .int .i64 0]) (by simp [results, Tryd.results14, go_sem]) rfl ⟨by obtain ⟨g1, g2, g3⟩ := HG.out; rw [g1, g2, g3]; rfl, (Below.refl _ _).alloc (Nat.le_refl _) _⟩
            · have h0 : U % 2 = 0 := by omega
              have ht' : ((U : Int) % 2 == 1) = false := by rw [ht, h0]; rfl
              have HF := Lib.hid (half_even U Hfit.out ho)
              clear ht ho h0
              by_cases z : s[p + i].toNat = 0
              all_goals by_cases n : i = 9
              all_goals try (exfalso; omega)
              all_goals
                first | (have bz : ((s[p + i].toNat : Int) == 0) = true := by simp [z]) | (have bz : ((s[p + i].toNat : Int) == 0) = false := by simp [z])
                first | (have b9 : ((i : Int) == 9) = true := by simp [n]) | (have b9 : ((i : Int) == 9) = false := by rw [beq_eq_false_iff_ne]; omega)
                have hc1 : i = 9 → (s[p + i].toNat : Int) ≤ 1 := fun e => by omega
                have hi0 : s[p + i].toNat = 0 → ¬ (0 : Int) < (i : Int) := fun e => by omega
                try (have hc1' := hc1 n)
                try (have hi0' := hi0 z)
                clear hc1 hi0 h9 hz z n
                go_wp2
                rw [HF.out]
                exact bodyPost_ret (v := .agg #[.int .i64 (unzig U), .int .i64 ((p : Int) + (i : Int) + 1), .int .i64 0]) (by simp [results, Tryd.results14, go_sem]) rfl ⟨by obtain ⟨g1, g2, g3⟩ := HG.out; rw [g1, g2, g3]; rfl, (Below.refl _ _).alloc (Nat.le_refl _) _⟩
        · have hn := scan_next HS.out hlt h9 hc
          have HN := Lib.hid hn
          have hi8 := scan_i HS.out hlt h9 hc
          have hc' : (128 : Int) ≤ (s[p + i].toNat : Int) := by omega
          have b9 : ((i : Int) == 9) = false := by rw [beq_eq_false_iff_ne]; omega
          have Hadd := Lib.hid hadd
          clear h9 hn hadd hc
          go_wp2
          go_round
          case rel => exact ⟨i + 1, _, HN.out, by go_num, by rw [Hadd.out]⟩
          case measure => simp [intOf]; omega
    · have HV := Lib.hid (scan_short HS.out hlt)
      have HG := Lib.hid (HBad.out 4 HV.out (by decide))
      have hge : (s.size : Int) - (i : Int) ≤ (p : Int) := by omega
      go_wp2
      exact bodyPost_ret (v := .agg #[.int .i64 0, .int .i64 0, .int .i64 4]) (by simp [results, Tryd.results14, go_sem]) rfl ⟨by obtain ⟨g1, g2, g3⟩ := HG.out; rw [g1, g2, g3]; rfl, (Below.refl _ _).alloc (Nat.le_refl _) _⟩

set_option maxHeartbeats 400000 in
theorem SpecGetNum_neg (s : ByteArray) (x : Int) (w : World) (hs : s.size ≤ 8000) (hx : x < 0) :
    Calls Tryd.prog 14 #[.string s, .int .i64 x] w fun r w' => r = .returned (.agg #[.int .i64 0, .int .i64 0, .int .i64 1]) ∧ Below w.heap.size w w' := by
  go_enter Tryd.func14, Tryd.ntmps14
  go_wp2
  exact bodyPost_ret (v := .agg #[.int .i64 0, .int .i64 0, .int .i64 1]) (by simp [results, Tryd.results14, go_sem]) rfl ⟨rfl, (Below.refl _ _).alloc (Nat.le_refl _) _⟩
set_option maxHeartbeats 400000 in
theorem SpecGetNum_long (s : ByteArray) (x : Int) (w : World) (hm : s.size ≤ maxLen) (hs : 8000 < s.size) :
    Calls Tryd.prog 14 #[.string s, .int .i64 x] w fun r w' => r = .returned (.agg #[.int .i64 0, .int .i64 0, .int .i64 2]) ∧ Below w.heap.size w w' := by
  unfold maxLen at hm
  go_enter Tryd.func14, Tryd.ntmps14
  go_wp2
  exact bodyPost_ret (v := .agg #[.int .i64 0, .int .i64 0, .int .i64 2]) (by simp [results, Tryd.results14, go_sem]) rfl ⟨rfl, (Below.refl _ _).alloc (Nat.le_refl _) _⟩
theorem SpecGetNum_any (s : ByteArray) (x : Int) (w : World) (hm : s.size ≤ maxLen) (hx : x ≤ 9223372036854775807) :
    Calls Tryd.prog 14 #[.string s, .int .i64 x] w fun r w' => r = .returned (.agg #[.int .i64 (numN s x), .int .i64 (numA s x), .int .i64 (numC s x)]) ∧ Below w.heap.size w w' := by
  by_cases hs : 8000 < s.size
  · obtain ⟨a, b, c⟩ := num_long s x hs
    rw [a, b, c]; exact SpecGetNum_long s x w hm hs
  · by_cases h0 : x < 0
    · obtain ⟨a, b, c⟩ := num_neg s x hs h0
      rw [a, b, c]; exact SpecGetNum_neg s x w (by omega) h0
    · obtain ⟨p, rfl⟩ := Int.eq_ofNat_of_zero_le (show 0 ≤ x by omega)
      exact SpecGetNum_in s p w (by omega) (by omega)
set_option maxHeartbeats 400000 in
theorem eqNumOut_same (n a c : Int) (w : World) :
    Calls Tryd.prog 15 #[.agg #[.int .i64 n, .int .i64 a, .int .i64 c], .agg #[.int .i64 n, .int .i64 a, .int .i64 c]] w fun e w' => e = .returned (.bool true) ∧ Below w.heap.size w w' := by
  go_enter Tryd.func15, Tryd.ntmps15
  go_wp2
  go_ret
  exact ⟨rfl, ((Below.refl _ _).alloc (Nat.le_refl _) _).alloc (by simp) _⟩
end Go.Proofs.YtifcplmgdndmhaaDoor
