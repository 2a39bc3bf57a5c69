/- GetText: what the program's text returns. -/
import Derived.Test.YtifcplmgdndmhaaDoorGet2
import Derived.Test.YtifcplmgdndmhaaDoorText
namespace Go.Proofs.YtifcplmgdndmhaaDoor
open Go.RowKit

theorem num_zero (s : ByteArray) (x : Int) (h : numC s x = 0) : s.size ≤ 8000 ∧ 0 ≤ x ∧ ∃ e : Nat, numA s x = (e : Int) ∧ e ≤ s.size ∧ x < (e : Int) := by
  by_cases hs : 8000 < s.size
  · have := (num_long s x hs).2.2; omega
  · by_cases h0 : x < 0
    · have := (num_neg s x hs h0).2.2; omega
    · obtain ⟨p, rfl⟩ := Int.eq_ofNat_of_zero_le (show 0 ≤ x by omega)
      rcases scanG_form s p 10 0 0 with ⟨k, hk, hv⟩ | ⟨u, e, hv⟩
      · have := (num_bad s p hs k hv hk).2.2; omega
      · have ho := scanV_ok s p (by unfold scanV; rw [hv])
        have hv' : scanV s p = (0, u, e) := hv
        rw [hv'] at ho
        simp only at ho
        exact ⟨by omega, by omega, e, (num_ok s p hs u e hv).2.1, ho.2.2, by have := ho.2.1; omega⟩

theorem concat_one_at (a : ByteArray) (w : World) (B : Nat) (hB : B = w.heap.size) (h : a.size ≤ 1000000) :
    Calls Tryd.prog 26 #[.slice (some ⟨B, 0, none⟩) 1 1] (w.alloc (.cells #[.string a] 9)) fun e w' => e = .returned (.string a) ∧ Below w.heap.size w w' := by
  subst hB; exact concat_one a w h
theorem carry3 {w1 w2 : World} {B : Nat} {a b c : Value} (hb : Below w1.heap.size w1 w2) (hz : B < w1.heap.size)
    (c0 : w1.cell? ⟨B, 0, none⟩ = some a) (c1 : w1.cell? ⟨B, 1, none⟩ = some b) (c2 : w1.cell? ⟨B, 2, none⟩ = some c)
    (f0 : w1.frozen? ⟨B, 0, none⟩ = false) (f1 : w1.frozen? ⟨B, 1, none⟩ = false) (f2 : w1.frozen? ⟨B, 2, none⟩ = false) :
    (w2.cell? ⟨B, 0, none⟩ = some a ∧ w2.cell? ⟨B, 1, none⟩ = some b ∧ w2.cell? ⟨B, 2, none⟩ = some c) ∧
    (w2.frozen? ⟨B, 0, none⟩ = false ∧ w2.frozen? ⟨B, 1, none⟩ = false ∧ w2.frozen? ⟨B, 2, none⟩ = false) ∧ B < w2.heap.size :=
  ⟨⟨(hb.cell (p := ⟨B, 0, none⟩) hz).trans c0, (hb.cell (p := ⟨B, 1, none⟩) hz).trans c1, (hb.cell (p := ⟨B, 2, none⟩) hz).trans c2⟩,
   ⟨(hb.frozen (p := ⟨B, 0, none⟩) hz).trans f0, (hb.frozen (p := ⟨B, 1, none⟩) hz).trans f1, (hb.frozen (p := ⟨B, 2, none⟩) hz).trans f2⟩, Nat.lt_of_lt_of_le hz hb.size⟩
/-- the code of GetText, and whether the text is there -/
def txtC (s : ByteArray) (x : Int) : Int :=
  if ¬ numC s x = 0 then numC s x else if numN s x < 0 ∨ 8000 < numN s x then 3 else if (s.size : Int) < numA s x + numN s x then 4 else 0
def txtT (s : ByteArray) (x : Int) : ByteArray := if txtC s x = 0 then s.extract (numA s x).toNat (numA s x + numN s x).toNat else ByteArray.empty
def txtA (s : ByteArray) (x : Int) : Int := if txtC s x = 0 then numA s x + numN s x else 0
theorem txt_bad (s : ByteArray) (x : Int) (c : Int) (h : txtC s x = c) (h0 : ¬ c = 0) : txtT s x = ByteArray.empty ∧ txtA s x = 0 := by
  unfold txtT txtA; rw [h, if_neg h0, if_neg h0]; exact ⟨rfl, rfl⟩

set_option maxRecDepth 100000 in
set_option maxHeartbeats 1000000 in
theorem GetText_code (s : ByteArray) (x N A C : Int) (w : World) (hg : Handle w) (B : ∀ w, Handle w → Calls Tryd.prog 9 #[.string s, .int .i64 x] w fun r w' => r = .returned (.agg #[.int .i64 N, .int .i64 A, .int .i64 C]) ∧ Below w.heap.size w w')
    (h : (C != 0) = true) :
    Calls Tryd.prog 13 #[.string s, .int .i64 x] w fun r w' => r = .returned (.agg #[.string ByteArray.empty, .int .i64 0, .int .i64 C]) ∧ Below w.heap.size w w' := by
  have HG := Lib.hid hg; clear hg
  have HB := Lib.hid B; clear B
  go_enter Tryd.func13, Tryd.ntmps13
  go_wp2_with (first | (go_at_call 9; refine (HB.out _ (HG.out.alloc _)).mono ?_; rintro e w1 ⟨rfl, hb1⟩; obtain ⟨⟨c0, c1, c2⟩, ⟨f0, f1, f2⟩, hz1⟩ := keep3 hb1 rfl; have HB1 := Lib.hid (below_past hb1 rfl rfl rfl rfl); clear hb1))
  refine bodyPost_ret (v := .agg #[.string ByteArray.empty, .int .i64 0, .int .i64 C]) (by simp [results, Tryd.results13, go_sem, hz1, c0, c1, c2]; rfl) rfl ⟨rfl, ?_⟩
  exact (((HB1.out.setCell (Nat.le_refl _) _).setCell (Nat.le_refl _) _).setCell (Nat.le_refl _) _).alloc (by simp; omega) _

set_option maxRecDepth 100000 in
set_option maxHeartbeats 1000000 in
theorem GetText_neg (s : ByteArray) (x N A : Int) (w : World) (hg : Handle w) (B : ∀ w, Handle w → Calls Tryd.prog 9 #[.string s, .int .i64 x] w fun r w' => r = .returned (.agg #[.int .i64 N, .int .i64 A, .int .i64 0]) ∧ Below w.heap.size w w')
    (h : N < 0) :
    Calls Tryd.prog 13 #[.string s, .int .i64 x] w fun r w' => r = .returned (.agg #[.string ByteArray.empty, .int .i64 0, .int .i64 3]) ∧ Below w.heap.size w w' := by
  have HG := Lib.hid hg; clear hg
  have HB := Lib.hid B; clear B
  go_enter Tryd.func13, Tryd.ntmps13
  go_wp2_with (first | (go_at_call 9; refine (HB.out _ (HG.out.alloc _)).mono ?_; rintro e w1 ⟨rfl, hb1⟩; obtain ⟨⟨c0, c1, c2⟩, ⟨f0, f1, f2⟩, hz1⟩ := keep3 hb1 rfl; have HB1 := Lib.hid (below_past hb1 rfl rfl rfl rfl); clear hb1))
  refine bodyPost_ret (v := .agg #[.string ByteArray.empty, .int .i64 0, .int .i64 3]) (by simp [results, Tryd.results13, go_sem, hz1, c0, c1, c2]; rfl) rfl ⟨rfl, ?_⟩
  exact (((HB1.out.setCell (Nat.le_refl _) _).setCell (Nat.le_refl _) _).setCell (Nat.le_refl _) _).alloc (by simp; omega) _

set_option maxRecDepth 100000 in
set_option maxHeartbeats 1000000 in
theorem GetText_much (s : ByteArray) (x N A : Int) (w : World) (hg : Handle w) (B : ∀ w, Handle w → Calls Tryd.prog 9 #[.string s, .int .i64 x] w fun r w' => r = .returned (.agg #[.int .i64 N, .int .i64 A, .int .i64 0]) ∧ Below w.heap.size w w')
    (h0 : ¬ N < 0) (h : 8000 < N) :
    Calls Tryd.prog 13 #[.string s, .int .i64 x] w fun r w' => r = .returned (.agg #[.string ByteArray.empty, .int .i64 0, .int .i64 3]) ∧ Below w.heap.size w w' := by
  have HG := Lib.hid hg; clear hg
  have HB := Lib.hid B; clear B
  go_enter Tryd.func13, Tryd.ntmps13
  go_wp2_with (first | (go_at_call 9; refine (HB.out _ (HG.out.alloc _)).mono ?_; rintro e w1 ⟨rfl, hb1⟩; obtain ⟨⟨c0, c1, c2⟩, ⟨f0, f1, f2⟩, hz1⟩ := keep3 hb1 rfl; have HB1 := Lib.hid (below_past hb1 rfl rfl rfl rfl); clear hb1))
  refine bodyPost_ret (v := .agg #[.string ByteArray.empty, .int .i64 0, .int .i64 3]) (by simp [results, Tryd.results13, go_sem, hz1, c0, c1, c2]; rfl) rfl ⟨rfl, ?_⟩
  exact (((HB1.out.setCell (Nat.le_refl _) _).setCell (Nat.le_refl _) _).setCell (Nat.le_refl _) _).alloc (by simp; omega) _

set_option maxRecDepth 100000 in
set_option maxHeartbeats 1000000 in
theorem GetText_short (s : ByteArray) (x N A : Int) (w : World) (hg : Handle w) (B : ∀ w, Handle w → Calls Tryd.prog 9 #[.string s, .int .i64 x] w fun r w' => r = .returned (.agg #[.int .i64 N, .int .i64 A, .int .i64 0]) ∧ Below w.heap.size w w')
    (hA0 : 0 ≤ A) (hA : A ≤ 8000) (h0 : 0 ≤ N) (h1 : N ≤ 8000) (hs : s.size ≤ 8000) (h : (s.size : Int) < A + N) :
    Calls Tryd.prog 13 #[.string s, .int .i64 x] w fun r w' => r = .returned (.agg #[.string ByteArray.empty, .int .i64 0, .int .i64 4]) ∧ Below w.heap.size w w' := by
  have HG := Lib.hid hg; clear hg
  have HB := Lib.hid B; clear B
  go_enter Tryd.func13, Tryd.ntmps13
  go_wp2_with (first | (go_at_call 9; refine (HB.out _ (HG.out.alloc _)).mono ?_; rintro e w1 ⟨rfl, hb1⟩; obtain ⟨⟨c0, c1, c2⟩, ⟨f0, f1, f2⟩, hz1⟩ := keep3 hb1 rfl; have HB1 := Lib.hid (below_past hb1 rfl rfl rfl rfl); clear hb1))
  refine bodyPost_ret (v := .agg #[.string ByteArray.empty, .int .i64 0, .int .i64 4]) (by simp [results, Tryd.results13, go_sem, hz1, c0, c1, c2]; rfl) rfl ⟨rfl, ?_⟩
  exact (((HB1.out.setCell (Nat.le_refl _) _).setCell (Nat.le_refl _) _).setCell (Nat.le_refl _) _).alloc (by simp; omega) _

set_option maxRecDepth 100000 in
set_option maxHeartbeats 1000000 in
theorem GetText_ok (s : ByteArray) (x : Int) (n a : Nat) (w : World) (hg : Handle w) (B : ∀ w, Handle w → Calls Tryd.prog 9 #[.string s, .int .i64 x] w fun r w' => r = .returned (.agg #[.int .i64 n, .int .i64 a, .int .i64 0]) ∧ Below w.heap.size w w')
    (hs : s.size ≤ 8000) (h : a + n ≤ s.size) :
    Calls Tryd.prog 13 #[.string s, .int .i64 x] w fun r w' => r = .returned (.agg #[.string (s.extract a (a + n)), .int .i64 ((a : Int) + (n : Int)), .int .i64 0]) ∧ Below w.heap.size w w' := by
  have HG := Lib.hid hg; clear hg
  have HB := Lib.hid B; clear B
  have Hz : Hid ((s.extract a (a + n)).size ≤ 1000000) := Lib.hid (by simp; omega)
  go_enter Tryd.func13, Tryd.ntmps13
  go_wp2_with (first | (go_at_call 9; refine (HB.out _ (HG.out.alloc _)).mono ?_; rintro e w1 ⟨rfl, hb1⟩; obtain ⟨⟨c0, c1, c2⟩, ⟨f0, f1, f2⟩, hz1⟩ := keep3 hb1 rfl; have HB1 := Lib.hid (below_past hb1 rfl rfl rfl rfl); clear hb1) | (go_at_call 26; refine (concat_one_at _ _ _ (by simp) Hz.out).mono ?_; rintro e w2 ⟨rfl, hb2⟩; have hb3 := below_past hb2 rfl rfl rfl rfl; obtain ⟨⟨d0, d1, d2⟩, ⟨e0, e1, e2⟩, hz2⟩ := carry3 hb3 hz1 c0 c1 c2 f0 f1 f2; have HB3 := Lib.hid hb3; clear hb2 hb3 c0 c1 c2 f0 f1 f2))
  refine bodyPost_ret (v := .agg #[.string (s.extract a (a + n)), .int .i64 ((a : Int) + (n : Int)), .int .i64 0]) (by simp [results, Tryd.results13, go_sem, d0, d1, d2]) rfl ⟨rfl, ?_⟩
  exact (((HB1.out.trans (HB3.out.mono (by omega))).setCell (Nat.le_refl _) _).setCell (Nat.le_refl _) _).setCell (Nat.le_refl _) _

theorem GetText_any (s : ByteArray) (x : Int) (w : World) (hg : Handle w) (hm : s.size ≤ maxLen) (hx : x ≤ 9223372036854775807) :
    Calls Tryd.prog 13 #[.string s, .int .i64 x] w fun r w' => r = .returned (.agg #[.string (txtT s x), .int .i64 (txtA s x), .int .i64 (txtC s x)]) ∧ Below w.heap.size w w' := by
  have B := fun w hg => GetNum_any s x w hg hm hx
  by_cases hc : numC s x = 0
  · obtain ⟨hs, h0, e, hA, he, hxe⟩ := num_zero s x hc
    rw [hc, hA] at B
    by_cases hn : numN s x < 0
    · have h3 : txtC s x = 3 := by unfold txtC; rw [if_neg (fun h => h hc), if_pos (.inl hn)]
      obtain ⟨t1, t2⟩ := txt_bad s x 3 h3 (by decide)
      rw [t1, t2, h3]; exact GetText_neg s x _ _ w hg B hn
    · by_cases hn2 : 8000 < numN s x
      · have h3 : txtC s x = 3 := by unfold txtC; rw [if_neg (fun h => h hc), if_pos (.inr hn2)]
        obtain ⟨t1, t2⟩ := txt_bad s x 3 h3 (by decide)
        rw [t1, t2, h3]; exact GetText_much s x _ _ w hg B hn hn2
      · by_cases hl : (s.size : Int) < numA s x + numN s x
        · have h3 : txtC s x = 4 := by unfold txtC; rw [if_neg (fun h => h hc), if_neg (by omega), if_pos hl]
          obtain ⟨t1, t2⟩ := txt_bad s x 4 h3 (by decide)
          rw [t1, t2, h3]; exact GetText_short s x _ _ w hg B (by omega) (by omega) (by omega) (by omega) hs (by omega)
        · have h3 : txtC s x = 0 := by unfold txtC; rw [if_neg (fun h => h hc), if_neg (by omega), if_neg hl]
          obtain ⟨n, hN⟩ := Int.eq_ofNat_of_zero_le (show 0 ≤ numN s x by omega)
          have t1 : txtT s x = s.extract e (e + n) := by
            unfold txtT; rw [if_pos h3, hA, hN]
            have q : ((e : Int) + (n : Int)).toNat = e + n := by omega
            rw [q, Int.toNat_natCast]
          have t2 : txtA s x = (e : Int) + (n : Int) := by unfold txtA; rw [if_pos h3, hA, hN]
          rw [hN] at B
          rw [t1, t2, h3]; exact GetText_ok s x n e w hg B hs (by omega)
  · have h3 : txtC s x = numC s x := by unfold txtC; rw [if_pos hc]
    obtain ⟨t1, t2⟩ := txt_bad s x _ h3 hc
    rw [t1, t2, h3]; exact GetText_code s x _ _ _ w hg B (by simpa using hc)
end Go.Proofs.YtifcplmgdndmhaaDoor
