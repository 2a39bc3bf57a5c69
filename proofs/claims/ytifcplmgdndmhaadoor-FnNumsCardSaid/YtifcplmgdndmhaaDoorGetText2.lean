/- GetText: what the specification's text returns. -/
import Derived.Test.YtifcplmgdndmhaaDoorGetText
import Derived.Deep.RegionWith
import Derived.BigRegion
import Derived.StillTailTactics
import Derived.IntWalk
namespace Go.Proofs.YtifcplmgdndmhaaDoor
open Go.RowKit

set_option maxRecDepth 100000 in
set_option maxHeartbeats 1000000 in
theorem SpecGetText_code (s : ByteArray) (x N A C : Int) (w : World) (B : ∀ w, Calls Tryd.prog 14 #[.string s, .int .i64 x] w fun r w' => r = .returned (.agg #[.int .i64 N, .int .i64 A, .int .i64 C]) ∧ Below w.heap.size w w')
    (h : (C != 0) = true) :
    Calls Tryd.prog 16 #[.string s, .int .i64 x] w fun r w' => r = .returned (.agg #[.string ByteArray.empty, .int .i64 0, .int .i64 C]) ∧ Below w.heap.size w w' := by
  have HB := Lib.hid B; clear B
  go_enter Tryd.func16, Tryd.ntmps16
  go_wp2_with (first | (go_at_call 14; refine (HB.out _).mono ?_; rintro e w1 ⟨rfl, hb1⟩; obtain ⟨⟨c0, c1, c2⟩, ⟨f0, f1, f2⟩, hz1⟩ := keep3 hb1 rfl; have HB1 := Lib.hid (below_past hb1 rfl rfl rfl rfl); clear hb1))
  refine bodyPost_ret (v := .agg #[.string ByteArray.empty, .int .i64 0, .int .i64 C]) (by simp [results, Tryd.results16, go_sem, hz1, c0, c1, c2]; rfl) rfl ⟨rfl, ?_⟩
  exact (((HB1.out.setCell (Nat.le_refl _) _).setCell (Nat.le_refl _) _).setCell (Nat.le_refl _) _).alloc (by simp; omega) _

set_option maxRecDepth 100000 in
set_option maxHeartbeats 1000000 in
theorem SpecGetText_neg (s : ByteArray) (x N A : Int) (w : World) (B : ∀ w, Calls Tryd.prog 14 #[.string s, .int .i64 x] w fun r w' => r = .returned (.agg #[.int .i64 N, .int .i64 A, .int .i64 0]) ∧ Below w.heap.size w w')
    (h : N < 0) :
    Calls Tryd.prog 16 #[.string s, .int .i64 x] w fun r w' => r = .returned (.agg #[.string ByteArray.empty, .int .i64 0, .int .i64 3]) ∧ Below w.heap.size w w' := by
  have HB := Lib.hid B; clear B
  go_enter Tryd.func16, Tryd.ntmps16
  go_wp2_with (first | (go_at_call 14; refine (HB.out _).mono ?_; rintro e w1 ⟨rfl, hb1⟩; obtain ⟨⟨c0, c1, c2⟩, ⟨f0, f1, f2⟩, hz1⟩ := keep3 hb1 rfl; have HB1 := Lib.hid (below_past hb1 rfl rfl rfl rfl); clear hb1))
  refine bodyPost_ret (v := .agg #[.string ByteArray.empty, .int .i64 0, .int .i64 3]) (by simp [results, Tryd.results16, go_sem, hz1, c0, c1, c2]; rfl) rfl ⟨rfl, ?_⟩
  exact (((HB1.out.setCell (Nat.le_refl _) _).setCell (Nat.le_refl _) _).setCell (Nat.le_refl _) _).alloc (by simp; omega) _

set_option maxRecDepth 100000 in
set_option maxHeartbeats 1000000 in
theorem SpecGetText_much (s : ByteArray) (x N A : Int) (w : World) (B : ∀ w, Calls Tryd.prog 14 #[.string s, .int .i64 x] w fun r w' => r = .returned (.agg #[.int .i64 N, .int .i64 A, .int .i64 0]) ∧ Below w.heap.size w w')
    (h0 : ¬ N < 0) (h : 8000 < N) :
    Calls Tryd.prog 16 #[.string s, .int .i64 x] w fun r w' => r = .returned (.agg #[.string ByteArray.empty, .int .i64 0, .int .i64 3]) ∧ Below w.heap.size w w' := by
  have HB := Lib.hid B; clear B
  go_enter Tryd.func16, Tryd.ntmps16
  go_wp2_with (first | (go_at_call 14; refine (HB.out _).mono ?_; rintro e w1 ⟨rfl, hb1⟩; obtain ⟨⟨c0, c1, c2⟩, ⟨f0, f1, f2⟩, hz1⟩ := keep3 hb1 rfl; have HB1 := Lib.hid (below_past hb1 rfl rfl rfl rfl); clear hb1))
  refine bodyPost_ret (v := .agg #[.string ByteArray.empty, .int .i64 0, .int .i64 3]) (by simp [results, Tryd.results16, go_sem, hz1, c0, c1, c2]; rfl) rfl ⟨rfl, ?_⟩
  exact (((HB1.out.setCell (Nat.le_refl _) _).setCell (Nat.le_refl _) _).setCell (Nat.le_refl _) _).alloc (by simp; omega) _

set_option maxRecDepth 100000 in
set_option maxHeartbeats 1000000 in
theorem SpecGetText_short (s : ByteArray) (x N A : Int) (w : World) (B : ∀ w, Calls Tryd.prog 14 #[.string s, .int .i64 x] w fun r w' => r = .returned (.agg #[.int .i64 N, .int .i64 A, .int .i64 0]) ∧ Below w.heap.size w w')
    (hA0 : 0 ≤ A) (hA : A ≤ 8000) (h0 : 0 ≤ N) (h1 : N ≤ 8000) (hs : s.size ≤ 8000) (h : (s.size : Int) - N < A) :
    Calls Tryd.prog 16 #[.string s, .int .i64 x] w fun r w' => r = .returned (.agg #[.string ByteArray.empty, .int .i64 0, .int .i64 4]) ∧ Below w.heap.size w w' := by
  have HB := Lib.hid B; clear B
  go_enter Tryd.func16, Tryd.ntmps16
  go_wp2_with (first | (go_at_call 14; refine (HB.out _).mono ?_; rintro e w1 ⟨rfl, hb1⟩; obtain ⟨⟨c0, c1, c2⟩, ⟨f0, f1, f2⟩, hz1⟩ := keep3 hb1 rfl; have HB1 := Lib.hid (below_past hb1 rfl rfl rfl rfl); clear hb1))
  refine bodyPost_ret (v := .agg #[.string ByteArray.empty, .int .i64 0, .int .i64 4]) (by simp [results, Tryd.results16, go_sem, hz1, c0, c1, c2]; rfl) rfl ⟨rfl, ?_⟩
  exact (((HB1.out.setCell (Nat.le_refl _) _).setCell (Nat.le_refl _) _).setCell (Nat.le_refl _) _).alloc (by simp; omega) _

set_option maxRecDepth 100000 in
set_option maxHeartbeats 1000000 in
theorem SpecGetText_ok (s : ByteArray) (x : Int) (n a : Nat) (w : World) (B : ∀ w, Calls Tryd.prog 14 #[.string s, .int .i64 x] w fun r w' => r = .returned (.agg #[.int .i64 n, .int .i64 a, .int .i64 0]) ∧ Below w.heap.size w w')
    (hs : s.size ≤ 8000) (h : a + n ≤ s.size) :
    Calls Tryd.prog 16 #[.string s, .int .i64 x] w fun r w' => r = .returned (.agg #[.string (s.extract a (a + n)), .int .i64 ((a : Int) + (n : Int)), .int .i64 0]) ∧ Below w.heap.size w w' := by
  have HB := Lib.hid B; clear B
  have hle : (a : Int) ≤ (s.size : Int) - (n : Int) := by omega
  go_enter Tryd.func16, Tryd.ntmps16
  go_wp2_with (first | (go_at_call 14; refine (HB.out _).mono ?_; rintro e w1 ⟨rfl, hb1⟩; obtain ⟨⟨c0, c1, c2⟩, ⟨f0, f1, f2⟩, hz1⟩ := keep3 hb1 rfl; have HB1 := Lib.hid (below_past hb1 rfl rfl rfl rfl); clear hb1))
  have g1 : (0 : Int) ≤ (a : Int) + (n : Int) := by omega
  have g2 : (a : Int) ≤ (a : Int) + (n : Int) := by omega
  have g3 : (a : Int) + (n : Int) ≤ (s.size : Int) := by omega
  have g4 : ((a : Int) + (n : Int)).toNat = a + n := by omega
  have g5 : IntKind.i64.wrap ((a : Int) + (n : Int)) = (a : Int) + (n : Int) := IntWalk.i64_in _ (by omega)
  go_region
  clear g1 g2 g3 g4 g5
  go_wp2
  refine bodyPost_ret (v := .agg #[.string (s.extract a (a + n)), .int .i64 ((a : Int) + (n : Int)), .int .i64 0]) (by simp [results, Tryd.results16, go_sem, hz1, c0, c1, c2]) rfl ⟨rfl, ?_⟩
  exact ((((HB1.out.setCell (Nat.le_refl _) _).setCell (Nat.le_refl _) _).setCell (Nat.le_refl _) _).alloc (by simp; omega) _).drew

theorem SpecGetText_any (s : ByteArray) (x : Int) (w : World) (hm : s.size ≤ maxLen) (hx : x ≤ 9223372036854775807) :
    Calls Tryd.prog 16 #[.string s, .int .i64 x] w fun r w' => r = .returned (.agg #[.string (txtT s x), .int .i64 (txtA s x), .int .i64 (txtC s x)]) ∧ Below w.heap.size w w' := by
  have B := fun w => SpecGetNum_any s x w hm hx
  by_cases hc : numC s x = 0
  · obtain ⟨hs, h0, e, hA, he, hxe⟩ := num_zero s x hc
    rw [hc, hA] at B
    by_cases hn : numN s x < 0
    · have h3 : txtC s x = 3 := by unfold txtC; rw [if_neg (fun h => h hc), if_pos (.inl hn)]
      obtain ⟨t1, t2⟩ := txt_bad s x 3 h3 (by decide)
      rw [t1, t2, h3]; exact SpecGetText_neg s x _ _ w B hn
    · by_cases hn2 : 8000 < numN s x
      · have h3 : txtC s x = 3 := by unfold txtC; rw [if_neg (fun h => h hc), if_pos (.inr hn2)]
        obtain ⟨t1, t2⟩ := txt_bad s x 3 h3 (by decide)
        rw [t1, t2, h3]; exact SpecGetText_much s x _ _ w B hn hn2
      · by_cases hl : (s.size : Int) < numA s x + numN s x
        · have h3 : txtC s x = 4 := by unfold txtC; rw [if_neg (fun h => h hc), if_neg (by omega), if_pos hl]
          obtain ⟨t1, t2⟩ := txt_bad s x 4 h3 (by decide)
          rw [t1, t2, h3]; exact SpecGetText_short s x _ _ w B (by omega) (by omega) (by omega) (by omega) hs (by omega)
        · have h3 : txtC s x = 0 := by unfold txtC; rw [if_neg (fun h => h hc), if_neg (by omega), if_neg hl]
          obtain ⟨n, hN⟩ := Int.eq_ofNat_of_zero_le (show 0 ≤ numN s x by omega)
          have t1 : txtT s x = s.extract e (e + n) := by
            unfold txtT; rw [if_pos h3, hA, hN]
            have q : ((e : Int) + (n : Int)).toNat = e + n := by omega
            rw [q, Int.toNat_natCast]
          have t2 : txtA s x = (e : Int) + (n : Int) := by unfold txtA; rw [if_pos h3, hA, hN]
          rw [hN] at B
          rw [t1, t2, h3]; exact SpecGetText_ok s x n e w B hs (by omega)
  · have h3 : txtC s x = numC s x := by unfold txtC; rw [if_pos hc]
    obtain ⟨t1, t2⟩ := txt_bad s x _ h3 hc
    rw [t1, t2, h3]; exact SpecGetText_code s x _ _ _ w B (by simpa using hc)

set_option maxHeartbeats 400000 in
theorem eqTextOut_same (t : ByteArray) (n c : Int) (w : World) :
    Calls Tryd.prog 17 #[.agg #[.string t, .int .i64 n, .int .i64 c], .agg #[.string t, .int .i64 n, .int .i64 c]] w fun e w' => e = .returned (.bool true) ∧ Below w.heap.size w w' := by
  go_enter Tryd.func17, Tryd.ntmps17
  go_wp2
  go_ret
  exact ⟨rfl, ((Below.refl _ _).alloc (Nat.le_refl _) _).alloc (by simp) _⟩
end Go.Proofs.YtifcplmgdndmhaaDoor
