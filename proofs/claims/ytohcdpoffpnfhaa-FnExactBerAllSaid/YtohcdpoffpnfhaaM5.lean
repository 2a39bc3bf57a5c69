/- Merged texts: BerK, BerB, BerC, MemL, MemE, Key, KeyMath, Key2, Key3, Under, Parent, Law1, Law2, Mark, Mark2, markTlv. -/
import Derived.Test.YtohcdpoffpnfhaaM4
import Derived.Test.YtohcdpoffpnfhaaM2
import Derived.Deep.RegionHeld
import Derived.Test.YtohcdpoffpnfhaaM3
import Derived.Deep.RegionWith
import Derived.BigRegion
import Derived.Laws.StructEq
import Derived.Laws.AppendOwnNone
import Derived.Laws.MakeOwn
/- BER: BerGet: what the specification returns. -/
namespace Go.Proofs.Ytohcdpoffpnfhaa
open Go.RowKit
attribute [local go_sem ↓] Go.wp_at_zero Go.wp_at_succ


set_option maxRecDepth 100000 in
set_option maxHeartbeats 2000000 in
theorem getS_end (t : ByteArray) (k : Nat) (w : World) (h : t.size ≤ 8000) (hk : ¬ k < t.size) :
    Calls Try.prog 36 #[.string t, .int .i64 (k : Int)] w fun e w' => e = gotAgg (noGot 4) ∧ Below w.heap.size w w' := by
  have h2 : (t.size : Int) ≤ (k : Int) := by omega
  clear hk
  go_enter Try.func36, Try.ntmps36
  go_wp2
  exact bodyPost_ret (v := .agg #[.int .i64 0, .string ⟨#[]⟩, .int .i64 0, .int .i64 4]) (by simp [results, Try.results36, go_sem]) rfl ⟨rfl, by first | exact more' (more' (more' (Below.refl _ _) _) _) _ | exact (more' (more' (more' (Below.refl _ _) _) _) _).setCell (Nat.le_refl _) _ | exact (((((more' (more' (more' (Below.refl _ _) _) _) _).setCell (Nat.le_refl _) _).setCell (Nat.le_refl _) _).setCell (Nat.le_refl _) _).setCell (Nat.le_refl _) _)⟩

set_option maxRecDepth 100000 in
set_option maxHeartbeats 2000000 in
theorem getS_tag (t : ByteArray) (k : Nat) (w : World) (h : t.size ≤ 8000) (hk : k < t.size) (ht : ¬ tagOk (t[k].toNat : Int)) :
    Calls Try.prog 36 #[.string t, .int .i64 (k : Int)] w fun e w' => e = gotAgg (noGot 3) ∧ Below w.heap.size w w' := by
  have c1 := t[k].toNat_lt
  have g2 : (k : Int) < (t.size : Int) := by omega
  have HT : Hid (decide (tagOk (t[k].toNat : Int)) = false) := Lib.hid (decide_eq_false ht)
  clear ht
  go_enter Try.func36, Try.ntmps36
  go_wp2_with fail
  refine (l09Tag_any (t[k].toNat : Int) _).mono ?_
  rintro e w1 ⟨rfl, rfl⟩
  rw [HT.out]
  go_wp2
  exact bodyPost_ret (v := .agg #[.int .i64 0, .string ⟨#[]⟩, .int .i64 0, .int .i64 3]) (by simp [results, Try.results36, go_sem]) rfl ⟨rfl, by first | exact more' (more' (more' (Below.refl _ _) _) _) _ | exact (more' (more' (more' (Below.refl _ _) _) _) _).setCell (Nat.le_refl _) _ | exact (((((more' (more' (more' (Below.refl _ _) _) _) _).setCell (Nat.le_refl _) _).setCell (Nat.le_refl _) _).setCell (Nat.le_refl _) _).setCell (Nat.le_refl _) _)⟩

set_option maxRecDepth 100000 in
set_option maxHeartbeats 2000000 in
theorem getS_end1 (t : ByteArray) (k : Nat) (w : World) (h : t.size ≤ 8000) (hk : k < t.size) (ht : tagOk (t[k].toNat : Int)) (h1 : ¬ k + 1 < t.size) :
    Calls Try.prog 36 #[.string t, .int .i64 (k : Int)] w fun e w' => e = gotAgg (noGot 4) ∧ Below w.heap.size w w' := by
  have c1 := t[k].toNat_lt
  have g2 : (k : Int) < (t.size : Int) := by omega
  have HT : Hid (decide (tagOk (t[k].toNat : Int)) = true) := Lib.hid (decide_eq_true ht)
  have g3 : (t.size : Int) ≤ (k : Int) + 1 := by omega
  clear ht h1
  go_enter Try.func36, Try.ntmps36
  go_wp2_with fail
  refine (l09Tag_any (t[k].toNat : Int) _).mono ?_
  rintro e w1 ⟨rfl, rfl⟩
  rw [HT.out]
  go_wp2
  exact bodyPost_ret (v := .agg #[.int .i64 0, .string ⟨#[]⟩, .int .i64 0, .int .i64 4]) (by simp [results, Try.results36, go_sem]) rfl ⟨rfl, by first | exact more' (more' (more' (Below.refl _ _) _) _) _ | exact (more' (more' (more' (Below.refl _ _) _) _) _).setCell (Nat.le_refl _) _ | exact (((((more' (more' (more' (Below.refl _ _) _) _) _).setCell (Nat.le_refl _) _).setCell (Nat.le_refl _) _).setCell (Nat.le_refl _) _).setCell (Nat.le_refl _) _)⟩

set_option maxRecDepth 100000 in
set_option maxHeartbeats 2000000 in
theorem getS_1short (t : ByteArray) (k : Nat) (w : World) (h : t.size ≤ 8000) (hk : k < t.size) (ht : tagOk (t[k].toNat : Int)) (h1 : k + 1 < t.size) (h2 : t[k + 1].toNat < 128) (h3 : ¬ k + 2 + t[k + 1].toNat ≤ t.size) :
    Calls Try.prog 36 #[.string t, .int .i64 (k : Int)] w fun e w' => e = gotAgg (noGot 4) ∧ Below w.heap.size w w' := by
  have c1 := t[k].toNat_lt
  have g2 : (k : Int) < (t.size : Int) := by omega
  have HT : Hid (decide (tagOk (t[k].toNat : Int)) = true) := Lib.hid (decide_eq_true ht)
  have c2 := t[k + 1].toNat_lt
  have g3 : ¬ (t.size : Int) ≤ (k : Int) + 1 := by omega
  have g4 : (k : Int) + 1 < (t.size : Int) := by omega
  have g4b : (0 : Int) ≤ (k : Int) + 1 := by omega
  have g5 : ¬ (128 : Int) ≤ (t[k + 1].toNat : Int) := by omega
  have g6 : decide ((4000 : Int) < (t[k + 1].toNat : Int)) = false := decide_eq_false (by omega)
  have g7 : (t.size : Int) < (k : Int) + 2 + (t[k + 1].toNat : Int) := by omega
  clear ht h2 h3
  go_enter Try.func36, Try.ntmps36
  go_wp2_with fail
  refine (l09Tag_any (t[k].toNat : Int) _).mono ?_
  rintro e w1 ⟨rfl, rfl⟩
  rw [HT.out]
  go_wp2
  exact bodyPost_ret (v := .agg #[.int .i64 0, .string ⟨#[]⟩, .int .i64 0, .int .i64 4]) (by simp [results, Try.results36, go_sem]) rfl ⟨rfl, by first | exact more' (more' (more' (Below.refl _ _) _) _) _ | exact (more' (more' (more' (Below.refl _ _) _) _) _).setCell (Nat.le_refl _) _ | exact (((((more' (more' (more' (Below.refl _ _) _) _) _).setCell (Nat.le_refl _) _).setCell (Nat.le_refl _) _).setCell (Nat.le_refl _) _).setCell (Nat.le_refl _) _)⟩

set_option maxRecDepth 100000 in
set_option maxHeartbeats 2000000 in
theorem getS_1ok (t : ByteArray) (k : Nat) (w : World) (h : t.size ≤ 8000) (hk : k < t.size) (ht : tagOk (t[k].toNat : Int)) (h1 : k + 1 < t.size) (h2 : t[k + 1].toNat < 128) (h3 : k + 2 + t[k + 1].toNat ≤ t.size) :
    Calls Try.prog 36 #[.string t, .int .i64 (k : Int)] w fun e w' => e = gotAgg (((t[k].toNat : Int), t.extract (k + 2) (k + 2 + t[k + 1].toNat)), (k : Int) + 2 + ((t[k + 1].toNat : Nat) : Int), 0) ∧ Below w.heap.size w w' := by
  have c1 := t[k].toNat_lt
  have g2 : (k : Int) < (t.size : Int) := by omega
  have HT : Hid (decide (tagOk (t[k].toNat : Int)) = true) := Lib.hid (decide_eq_true ht)
  have c2 := t[k + 1].toNat_lt
  have g3 : ¬ (t.size : Int) ≤ (k : Int) + 1 := by omega
  have g4 : (k : Int) + 1 < (t.size : Int) := by omega
  have g4b : (0 : Int) ≤ (k : Int) + 1 := by omega
  have g5 : ¬ (128 : Int) ≤ (t[k + 1].toNat : Int) := by omega
  have g6 : decide ((4000 : Int) < (t[k + 1].toNat : Int)) = false := decide_eq_false (by omega)
  have g7 : ¬ (t.size : Int) < (k : Int) + 2 + (t[k + 1].toNat : Int) := by omega
  have s1 : (0 : Int) ≤ (k : Int) + 2 + (t[k + 1].toNat : Int) := by omega
  have s2 : (k : Int) + 2 ≤ (k : Int) + 2 + (t[k + 1].toNat : Int) := by omega
  have s3 : (k : Int) + 2 + (t[k + 1].toNat : Int) ≤ (t.size : Int) := by omega
  have s0 : (0 : Int) ≤ (k : Int) + 2 := by omega
  clear ht h2 h3
  go_enter Try.func36, Try.ntmps36
  go_wp2_with fail
  refine (l09Tag_any (t[k].toNat : Int) _).mono ?_
  rintro e w1 ⟨rfl, rfl⟩
  rw [HT.out]
  go_wp2
  exact bodyPost_ret (v := .agg #[.int .i64 (t[k].toNat : Int), .string (t.extract (k + 2) (k + 2 + t[k + 1].toNat)), .int .i64 ((k : Int) + 2 + (t[k + 1].toNat : Int)), .int .i64 0]) (by simp [results, Try.results36, go_sem]) rfl ⟨rfl, by first | exact more' (more' (more' (Below.refl _ _) _) _) _ | exact (more' (more' (more' (Below.refl _ _) _) _) _).setCell (Nat.le_refl _) _ | exact (((((more' (more' (more' (Below.refl _ _) _) _) _).setCell (Nat.le_refl _) _).setCell (Nat.le_refl _) _).setCell (Nat.le_refl _) _).setCell (Nat.le_refl _) _)⟩

set_option maxRecDepth 100000 in
set_option maxHeartbeats 2000000 in
theorem getS_no (t : ByteArray) (k : Nat) (w : World) (h : t.size ≤ 8000) (hk : k < t.size) (ht : tagOk (t[k].toNat : Int)) (h1 : k + 1 < t.size) (h2 : 128 ≤ t[k + 1].toNat) (h3 : t[k + 1].toNat ≠ 129) (h4 : t[k + 1].toNat ≠ 130) :
    Calls Try.prog 36 #[.string t, .int .i64 (k : Int)] w fun e w' => e = gotAgg (noGot 3) ∧ Below w.heap.size w w' := by
  have c1 := t[k].toNat_lt
  have g2 : (k : Int) < (t.size : Int) := by omega
  have HT : Hid (decide (tagOk (t[k].toNat : Int)) = true) := Lib.hid (decide_eq_true ht)
  have c2 := t[k + 1].toNat_lt
  have g3 : ¬ (t.size : Int) ≤ (k : Int) + 1 := by omega
  have g4 : (k : Int) + 1 < (t.size : Int) := by omega
  have g4b : (0 : Int) ≤ (k : Int) + 1 := by omega
  have g5 : (128 : Int) ≤ (t[k + 1].toNat : Int) := by omega
  have g6 : ((t[k + 1].toNat : Int) - 128 == 1) = false := by rw [beq_eq_false_iff_ne]; omega
  have gc : ((t[k + 1].toNat : Int) - 128 != 1) = true := by rw [bne, g6]; rfl
  have g7 : ((t[k + 1].toNat : Int) - 128 == 2) = false := by rw [beq_eq_false_iff_ne]; omega
  have gd : ((t[k + 1].toNat : Int) - 128 != 2) = true := by rw [bne, g7]; rfl
  have g8 : ¬ (t[k + 1].toNat : Int) = 129 := by omega
  have g9 : ¬ (t[k + 1].toNat : Int) = 130 := by omega
  have ga : ¬ (t[k + 1].toNat : Int) - 128 = 1 := by omega
  have gb : ¬ (t[k + 1].toNat : Int) - 128 = 2 := by omega
  clear ht h2
  go_enter Try.func36, Try.ntmps36
  go_wp2_with fail
  refine (l09Tag_any (t[k].toNat : Int) _).mono ?_
  rintro e w1 ⟨rfl, rfl⟩
  rw [HT.out]
  go_wp2
  exact bodyPost_ret (v := .agg #[.int .i64 0, .string ⟨#[]⟩, .int .i64 0, .int .i64 3]) (by simp [results, Try.results36, go_sem]) rfl ⟨rfl, by first | exact more' (more' (more' (Below.refl _ _) _) _) _ | exact (more' (more' (more' (Below.refl _ _) _) _) _).setCell (Nat.le_refl _) _ | exact (((((more' (more' (more' (Below.refl _ _) _) _) _).setCell (Nat.le_refl _) _).setCell (Nat.le_refl _) _).setCell (Nat.le_refl _) _).setCell (Nat.le_refl _) _)⟩

set_option maxRecDepth 100000 in
set_option maxHeartbeats 2000000 in
theorem getS_2end (t : ByteArray) (k : Nat) (w : World) (h : t.size ≤ 8000) (hk : k < t.size) (ht : tagOk (t[k].toNat : Int)) (h1 : k + 1 < t.size) (h2 : t[k + 1].toNat = 129) (h3 : ¬ k + 2 < t.size) :
    Calls Try.prog 36 #[.string t, .int .i64 (k : Int)] w fun e w' => e = gotAgg (noGot 4) ∧ Below w.heap.size w w' := by
  have c1 := t[k].toNat_lt
  have g2 : (k : Int) < (t.size : Int) := by omega
  have HT : Hid (decide (tagOk (t[k].toNat : Int)) = true) := Lib.hid (decide_eq_true ht)
  have c2 := t[k + 1].toNat_lt
  have g3 : ¬ (t.size : Int) ≤ (k : Int) + 1 := by omega
  have g4 : (k : Int) + 1 < (t.size : Int) := by omega
  have g4b : (0 : Int) ≤ (k : Int) + 1 := by omega
  have v1 : (t[k + 1].toNat : Int) = 129 := by omega
  have g5 : (t.size : Int) < (k : Int) + 2 + 1 := by omega
  clear ht h2 h3
  go_enter Try.func36, Try.ntmps36
  go_wp2_with fail
  refine (l09Tag_any (t[k].toNat : Int) _).mono ?_
  rintro e w1 ⟨rfl, rfl⟩
  rw [HT.out]
  go_wp2
  exact bodyPost_ret (v := .agg #[.int .i64 0, .string ⟨#[]⟩, .int .i64 0, .int .i64 4]) (by simp [results, Try.results36, go_sem]) rfl ⟨rfl, by first | exact more' (more' (more' (Below.refl _ _) _) _) _ | exact (more' (more' (more' (Below.refl _ _) _) _) _).setCell (Nat.le_refl _) _ | exact (((((more' (more' (more' (Below.refl _ _) _) _) _).setCell (Nat.le_refl _) _).setCell (Nat.le_refl _) _).setCell (Nat.le_refl _) _).setCell (Nat.le_refl _) _)⟩

set_option maxRecDepth 100000 in
set_option maxHeartbeats 2000000 in
theorem getS_2bad (t : ByteArray) (k : Nat) (w : World) (h : t.size ≤ 8000) (hk : k < t.size) (ht : tagOk (t[k].toNat : Int)) (h1 : k + 1 < t.size) (h2 : t[k + 1].toNat = 129) (h3 : k + 2 < t.size) (h4 : t[k + 2].toNat < 128) :
    Calls Try.prog 36 #[.string t, .int .i64 (k : Int)] w fun e w' => e = gotAgg (noGot 3) ∧ Below w.heap.size w w' := by
  have c1 := t[k].toNat_lt
  have g2 : (k : Int) < (t.size : Int) := by omega
  have HT : Hid (decide (tagOk (t[k].toNat : Int)) = true) := Lib.hid (decide_eq_true ht)
  have c2 := t[k + 1].toNat_lt
  have g3 : ¬ (t.size : Int) ≤ (k : Int) + 1 := by omega
  have g4 : (k : Int) + 1 < (t.size : Int) := by omega
  have g4b : (0 : Int) ≤ (k : Int) + 1 := by omega
  have v1 : (t[k + 1].toNat : Int) = 129 := by omega
  have g5 : ¬ (t.size : Int) < (k : Int) + 2 + 1 := by omega
  have c3 := t[k + 2].toNat_lt
  have g6 : (k : Int) + 2 < (t.size : Int) := by omega
  have g6b : (0 : Int) ≤ (k : Int) + 2 := by omega
  have g7 : decide ((t[k + 2].toNat : Int) < 128) = true := decide_eq_true (by omega)
  clear ht h2 h4
  go_enter Try.func36, Try.ntmps36
  go_wp2_with fail
  refine (l09Tag_any (t[k].toNat : Int) _).mono ?_
  rintro e w1 ⟨rfl, rfl⟩
  rw [HT.out]
  go_wp2_with fail
  go_loop [9, 12] (fun n i => (i = .int .i64 0 ∧ n = .int .i64 0) ∨ (i = .int .i64 1 ∧ n = .int .i64 (t[k + 2].toNat : Int))) (fun _ i => 1 - (intOf i).toNat)
  case atStart => exact .inl ⟨rfl, rfl⟩
  case round =>
    rcases hrel with ⟨rfl, rfl⟩ | ⟨rfl, rfl⟩
    · go_wp2
      go_round
      case rel => exact .inr ⟨by first | rfl | go_num, by first | rfl | go_num⟩
      case measure => simp [intOf]
    · go_wp2
      exact bodyPost_ret (v := .agg #[.int .i64 0, .string ⟨#[]⟩, .int .i64 0, .int .i64 3]) (by simp [results, Try.results36, go_sem]) rfl ⟨rfl, by first | exact more' (more' (more' (Below.refl _ _) _) _) _ | exact (more' (more' (more' (Below.refl _ _) _) _) _).setCell (Nat.le_refl _) _ | exact (((((more' (more' (more' (Below.refl _ _) _) _) _).setCell (Nat.le_refl _) _).setCell (Nat.le_refl _) _).setCell (Nat.le_refl _) _).setCell (Nat.le_refl _) _)⟩

set_option maxRecDepth 100000 in
set_option maxHeartbeats 2000000 in
theorem getS_2short (t : ByteArray) (k : Nat) (w : World) (h : t.size ≤ 8000) (hk : k < t.size) (ht : tagOk (t[k].toNat : Int)) (h1 : k + 1 < t.size) (h2 : t[k + 1].toNat = 129) (h3 : k + 2 < t.size) (h4 : ¬ t[k + 2].toNat < 128) (h5 : ¬ k + 3 + t[k + 2].toNat ≤ t.size) :
    Calls Try.prog 36 #[.string t, .int .i64 (k : Int)] w fun e w' => e = gotAgg (noGot 4) ∧ Below w.heap.size w w' := by
  have c1 := t[k].toNat_lt
  have g2 : (k : Int) < (t.size : Int) := by omega
  have HT : Hid (decide (tagOk (t[k].toNat : Int)) = true) := Lib.hid (decide_eq_true ht)
  have c2 := t[k + 1].toNat_lt
  have g3 : ¬ (t.size : Int) ≤ (k : Int) + 1 := by omega
  have g4 : (k : Int) + 1 < (t.size : Int) := by omega
  have g4b : (0 : Int) ≤ (k : Int) + 1 := by omega
  have v1 : (t[k + 1].toNat : Int) = 129 := by omega
  have g5 : ¬ (t.size : Int) < (k : Int) + 2 + 1 := by omega
  have c3 := t[k + 2].toNat_lt
  have g6 : (k : Int) + 2 < (t.size : Int) := by omega
  have g6b : (0 : Int) ≤ (k : Int) + 2 := by omega
  have g7 : decide ((t[k + 2].toNat : Int) < 128) = false := decide_eq_false (by omega)
  have g8 : decide ((4000 : Int) < (t[k + 2].toNat : Int)) = false := decide_eq_false (by omega)
  have g9 : (t.size : Int) < (k : Int) + 2 + 1 + (t[k + 2].toNat : Int) := by omega
  clear ht h2 h4 h5
  go_enter Try.func36, Try.ntmps36
  go_wp2_with fail
  refine (l09Tag_any (t[k].toNat : Int) _).mono ?_
  rintro e w1 ⟨rfl, rfl⟩
  rw [HT.out]
  go_wp2_with fail
  go_loop [9, 12] (fun n i => (i = .int .i64 0 ∧ n = .int .i64 0) ∨ (i = .int .i64 1 ∧ n = .int .i64 (t[k + 2].toNat : Int))) (fun _ i => 1 - (intOf i).toNat)
  case atStart => exact .inl ⟨rfl, rfl⟩
  case round =>
    rcases hrel with ⟨rfl, rfl⟩ | ⟨rfl, rfl⟩
    · go_wp2
      go_round
      case rel => exact .inr ⟨by first | rfl | go_num, by first | rfl | go_num⟩
      case measure => simp [intOf]
    · go_wp2
      exact bodyPost_ret (v := .agg #[.int .i64 0, .string ⟨#[]⟩, .int .i64 0, .int .i64 4]) (by simp [results, Try.results36, go_sem]) rfl ⟨rfl, by first | exact more' (more' (more' (Below.refl _ _) _) _) _ | exact (more' (more' (more' (Below.refl _ _) _) _) _).setCell (Nat.le_refl _) _ | exact (((((more' (more' (more' (Below.refl _ _) _) _) _).setCell (Nat.le_refl _) _).setCell (Nat.le_refl _) _).setCell (Nat.le_refl _) _).setCell (Nat.le_refl _) _)⟩

set_option maxRecDepth 100000 in
set_option maxHeartbeats 2000000 in
theorem getS_2ok (t : ByteArray) (k : Nat) (w : World) (h : t.size ≤ 8000) (hk : k < t.size) (ht : tagOk (t[k].toNat : Int)) (h1 : k + 1 < t.size) (h2 : t[k + 1].toNat = 129) (h3 : k + 2 < t.size) (h4 : ¬ t[k + 2].toNat < 128) (h5 : k + 3 + t[k + 2].toNat ≤ t.size) :
    Calls Try.prog 36 #[.string t, .int .i64 (k : Int)] w fun e w' => e = gotAgg (((t[k].toNat : Int), t.extract (k + 3) (k + 3 + t[k + 2].toNat)), (k : Int) + 2 + 1 + ((t[k + 2].toNat : Nat) : Int), 0) ∧ Below w.heap.size w w' := by
  have c1 := t[k].toNat_lt
  have g2 : (k : Int) < (t.size : Int) := by omega
  have HT : Hid (decide (tagOk (t[k].toNat : Int)) = true) := Lib.hid (decide_eq_true ht)
  have c2 := t[k + 1].toNat_lt
  have g3 : ¬ (t.size : Int) ≤ (k : Int) + 1 := by omega
  have g4 : (k : Int) + 1 < (t.size : Int) := by omega
  have g4b : (0 : Int) ≤ (k : Int) + 1 := by omega
  have v1 : (t[k + 1].toNat : Int) = 129 := by omega
  have g5 : ¬ (t.size : Int) < (k : Int) + 2 + 1 := by omega
  have c3 := t[k + 2].toNat_lt
  have g6 : (k : Int) + 2 < (t.size : Int) := by omega
  have g6b : (0 : Int) ≤ (k : Int) + 2 := by omega
  have g7 : decide ((t[k + 2].toNat : Int) < 128) = false := decide_eq_false (by omega)
  have g8 : decide ((4000 : Int) < (t[k + 2].toNat : Int)) = false := decide_eq_false (by omega)
  have g9 : ¬ (t.size : Int) < (k : Int) + 2 + 1 + (t[k + 2].toNat : Int) := by omega
  have s1 : (0 : Int) ≤ (k : Int) + 2 + 1 + (t[k + 2].toNat : Int) := by omega
  have s2 : (k : Int) + 2 + 1 ≤ (k : Int) + 2 + 1 + (t[k + 2].toNat : Int) := by omega
  have s3 : (k : Int) + 2 + 1 + (t[k + 2].toNat : Int) ≤ (t.size : Int) := by omega
  have s0 : (0 : Int) ≤ (k : Int) + 2 + 1 := by omega
  clear ht h2 h4 h5
  go_enter Try.func36, Try.ntmps36
  go_wp2_with fail
  refine (l09Tag_any (t[k].toNat : Int) _).mono ?_
  rintro e w1 ⟨rfl, rfl⟩
  rw [HT.out]
  go_wp2_with fail
  go_loop [9, 12] (fun n i => (i = .int .i64 0 ∧ n = .int .i64 0) ∨ (i = .int .i64 1 ∧ n = .int .i64 (t[k + 2].toNat : Int))) (fun _ i => 1 - (intOf i).toNat)
  case atStart => exact .inl ⟨rfl, rfl⟩
  case round =>
    rcases hrel with ⟨rfl, rfl⟩ | ⟨rfl, rfl⟩
    · go_wp2
      go_round
      case rel => exact .inr ⟨by first | rfl | go_num, by first | rfl | go_num⟩
      case measure => simp [intOf]
    · go_wp2
      exact bodyPost_ret (v := .agg #[.int .i64 (t[k].toNat : Int), .string (t.extract (k + 3) (k + 3 + t[k + 2].toNat)), .int .i64 ((k : Int) + 2 + 1 + (t[k + 2].toNat : Int)), .int .i64 0]) (by simp [results, Try.results36, go_sem]) rfl ⟨rfl, by first | exact more' (more' (more' (Below.refl _ _) _) _) _ | exact (more' (more' (more' (Below.refl _ _) _) _) _).setCell (Nat.le_refl _) _ | exact (((((more' (more' (more' (Below.refl _ _) _) _) _).setCell (Nat.le_refl _) _).setCell (Nat.le_refl _) _).setCell (Nat.le_refl _) _).setCell (Nat.le_refl _) _)⟩

set_option maxRecDepth 100000 in
set_option maxHeartbeats 2000000 in
theorem getS_3end (t : ByteArray) (k : Nat) (w : World) (h : t.size ≤ 8000) (hk : k < t.size) (ht : tagOk (t[k].toNat : Int)) (h1 : k + 1 < t.size) (h2 : t[k + 1].toNat = 130) (h3 : ¬ k + 2 + 1 < t.size) :
    Calls Try.prog 36 #[.string t, .int .i64 (k : Int)] w fun e w' => e = gotAgg (noGot 4) ∧ Below w.heap.size w w' := by
  have c1 := t[k].toNat_lt
  have g2 : (k : Int) < (t.size : Int) := by omega
  have HT : Hid (decide (tagOk (t[k].toNat : Int)) = true) := Lib.hid (decide_eq_true ht)
  have c2 := t[k + 1].toNat_lt
  have g3 : ¬ (t.size : Int) ≤ (k : Int) + 1 := by omega
  have g4 : (k : Int) + 1 < (t.size : Int) := by omega
  have g4b : (0 : Int) ≤ (k : Int) + 1 := by omega
  have v1 : (t[k + 1].toNat : Int) = 130 := by omega
  have g5 : (t.size : Int) < (k : Int) + 2 + 2 := by omega
  clear ht h2 h3
  go_enter Try.func36, Try.ntmps36
  go_wp2_with fail
  refine (l09Tag_any (t[k].toNat : Int) _).mono ?_
  rintro e w1 ⟨rfl, rfl⟩
  rw [HT.out]
  go_wp2
  exact bodyPost_ret (v := .agg #[.int .i64 0, .string ⟨#[]⟩, .int .i64 0, .int .i64 4]) (by simp [results, Try.results36, go_sem]) rfl ⟨rfl, by first | exact more' (more' (more' (Below.refl _ _) _) _) _ | exact (more' (more' (more' (Below.refl _ _) _) _) _).setCell (Nat.le_refl _) _ | exact (((((more' (more' (more' (Below.refl _ _) _) _) _).setCell (Nat.le_refl _) _).setCell (Nat.le_refl _) _).setCell (Nat.le_refl _) _).setCell (Nat.le_refl _) _)⟩

set_option maxRecDepth 100000 in
set_option maxHeartbeats 2000000 in
theorem getS_3small (t : ByteArray) (k : Nat) (w : World) (h : t.size ≤ 8000) (hk : k < t.size) (ht : tagOk (t[k].toNat : Int)) (h1 : k + 1 < t.size) (h2 : t[k + 1].toNat = 130) (h3 : k + 2 + 1 < t.size) (h4 : t[k + 2].toNat * 256 + t[k + 2 + 1].toNat < 256) :
    Calls Try.prog 36 #[.string t, .int .i64 (k : Int)] w fun e w' => e = gotAgg (noGot 3) ∧ Below w.heap.size w w' := by
  have c1 := t[k].toNat_lt
  have g2 : (k : Int) < (t.size : Int) := by omega
  have HT : Hid (decide (tagOk (t[k].toNat : Int)) = true) := Lib.hid (decide_eq_true ht)
  have c2 := t[k + 1].toNat_lt
  have g3 : ¬ (t.size : Int) ≤ (k : Int) + 1 := by omega
  have g4 : (k : Int) + 1 < (t.size : Int) := by omega
  have g4b : (0 : Int) ≤ (k : Int) + 1 := by omega
  have v1 : (t[k + 1].toNat : Int) = 130 := by omega
  have g5 : ¬ (t.size : Int) < (k : Int) + 2 + 2 := by omega
  have c3 := t[k + 2].toNat_lt
  have c4 := t[k + 2 + 1].toNat_lt
  have g6 : (k : Int) + 2 < (t.size : Int) := by omega
  have g6b : (0 : Int) ≤ (k : Int) + 2 := by omega
  have g6c : (k : Int) + 2 + 1 < (t.size : Int) := by omega
  have g6d : (0 : Int) ≤ (k : Int) + 2 + 1 := by omega
  have vn : 256 * (t[k + 2].toNat : Int) + (t[k + 2 + 1].toNat : Int) = ((t[k + 2].toNat * 256 + t[k + 2 + 1].toNat : Nat) : Int) := by omega
  generalize t[k + 2].toNat * 256 + t[k + 2 + 1].toNat = q at *
  have g7 : decide ((q : Int) < 256) = true := decide_eq_true (by omega)
  clear ht h2 h4
  go_enter Try.func36, Try.ntmps36
  go_wp2_with fail
  refine (l09Tag_any (t[k].toNat : Int) _).mono ?_
  rintro e w1 ⟨rfl, rfl⟩
  rw [HT.out]
  go_wp2_with fail
  go_loop [9, 12] (fun n i => (i = .int .i64 0 ∧ n = .int .i64 0) ∨ (i = .int .i64 1 ∧ n = .int .i64 (t[k + 2].toNat : Int)) ∨ (i = .int .i64 2 ∧ n = .int .i64 (q : Int))) (fun _ i => 2 - (intOf i).toNat)
  case atStart => exact .inl ⟨rfl, rfl⟩
  case round =>
    rcases hrel with ⟨rfl, rfl⟩ | ⟨rfl, rfl⟩ | ⟨rfl, rfl⟩
    · go_wp2
      go_round
      case rel => exact .inr (.inl ⟨by first | rfl | go_num, by first | rfl | go_num⟩)
      case measure => simp [intOf]
    · go_wp2
      go_round
      case rel => exact .inr (.inr ⟨by first | rfl | go_num, by first | rfl | go_num⟩)
      case measure => simp [intOf]
    · go_wp2
      exact bodyPost_ret (v := .agg #[.int .i64 0, .string ⟨#[]⟩, .int .i64 0, .int .i64 3]) (by simp [results, Try.results36, go_sem]) rfl ⟨rfl, by first | exact more' (more' (more' (Below.refl _ _) _) _) _ | exact (more' (more' (more' (Below.refl _ _) _) _) _).setCell (Nat.le_refl _) _ | exact (((((more' (more' (more' (Below.refl _ _) _) _) _).setCell (Nat.le_refl _) _).setCell (Nat.le_refl _) _).setCell (Nat.le_refl _) _).setCell (Nat.le_refl _) _)⟩

set_option maxRecDepth 100000 in
set_option maxHeartbeats 2000000 in
theorem getS_3big (t : ByteArray) (k : Nat) (w : World) (h : t.size ≤ 8000) (hk : k < t.size) (ht : tagOk (t[k].toNat : Int)) (h1 : k + 1 < t.size) (h2 : t[k + 1].toNat = 130) (h3 : k + 2 + 1 < t.size) (h4 : 4000 < t[k + 2].toNat * 256 + t[k + 2 + 1].toNat) :
    Calls Try.prog 36 #[.string t, .int .i64 (k : Int)] w fun e w' => e = gotAgg (noGot 3) ∧ Below w.heap.size w w' := by
  have c1 := t[k].toNat_lt
  have g2 : (k : Int) < (t.size : Int) := by omega
  have HT : Hid (decide (tagOk (t[k].toNat : Int)) = true) := Lib.hid (decide_eq_true ht)
  have c2 := t[k + 1].toNat_lt
  have g3 : ¬ (t.size : Int) ≤ (k : Int) + 1 := by omega
  have g4 : (k : Int) + 1 < (t.size : Int) := by omega
  have g4b : (0 : Int) ≤ (k : Int) + 1 := by omega
  have v1 : (t[k + 1].toNat : Int) = 130 := by omega
  have g5 : ¬ (t.size : Int) < (k : Int) + 2 + 2 := by omega
  have c3 := t[k + 2].toNat_lt
  have c4 := t[k + 2 + 1].toNat_lt
  have g6 : (k : Int) + 2 < (t.size : Int) := by omega
  have g6b : (0 : Int) ≤ (k : Int) + 2 := by omega
  have g6c : (k : Int) + 2 + 1 < (t.size : Int) := by omega
  have g6d : (0 : Int) ≤ (k : Int) + 2 + 1 := by omega
  have vn : 256 * (t[k + 2].toNat : Int) + (t[k + 2 + 1].toNat : Int) = ((t[k + 2].toNat * 256 + t[k + 2 + 1].toNat : Nat) : Int) := by omega
  generalize t[k + 2].toNat * 256 + t[k + 2 + 1].toNat = q at *
  have g7 : decide ((q : Int) < 256) = false := decide_eq_false (by omega)
  have g8 : decide ((4000 : Int) < (q : Int)) = true := decide_eq_true (by omega)
  clear ht h2 h4
  go_enter Try.func36, Try.ntmps36
  go_wp2_with fail
  refine (l09Tag_any (t[k].toNat : Int) _).mono ?_
  rintro e w1 ⟨rfl, rfl⟩
  rw [HT.out]
  go_wp2_with fail
  go_loop [9, 12] (fun n i => (i = .int .i64 0 ∧ n = .int .i64 0) ∨ (i = .int .i64 1 ∧ n = .int .i64 (t[k + 2].toNat : Int)) ∨ (i = .int .i64 2 ∧ n = .int .i64 (q : Int))) (fun _ i => 2 - (intOf i).toNat)
  case atStart => exact .inl ⟨rfl, rfl⟩
  case round =>
    rcases hrel with ⟨rfl, rfl⟩ | ⟨rfl, rfl⟩ | ⟨rfl, rfl⟩
    · go_wp2
      go_round
      case rel => exact .inr (.inl ⟨by first | rfl | go_num, by first | rfl | go_num⟩)
      case measure => simp [intOf]
    · go_wp2
      go_round
      case rel => exact .inr (.inr ⟨by first | rfl | go_num, by first | rfl | go_num⟩)
      case measure => simp [intOf]
    · go_wp2
      exact bodyPost_ret (v := .agg #[.int .i64 0, .string ⟨#[]⟩, .int .i64 0, .int .i64 3]) (by simp [results, Try.results36, go_sem]) rfl ⟨rfl, by first | exact more' (more' (more' (Below.refl _ _) _) _) _ | exact (more' (more' (more' (Below.refl _ _) _) _) _).setCell (Nat.le_refl _) _ | exact (((((more' (more' (more' (Below.refl _ _) _) _) _).setCell (Nat.le_refl _) _).setCell (Nat.le_refl _) _).setCell (Nat.le_refl _) _).setCell (Nat.le_refl _) _)⟩

set_option maxRecDepth 100000 in
set_option maxHeartbeats 2000000 in
theorem getS_3short (t : ByteArray) (k : Nat) (w : World) (h : t.size ≤ 8000) (hk : k < t.size) (ht : tagOk (t[k].toNat : Int)) (h1 : k + 1 < t.size) (h2 : t[k + 1].toNat = 130) (h3 : k + 2 + 1 < t.size) (h4 : ¬ t[k + 2].toNat * 256 + t[k + 2 + 1].toNat < 256) (h5 : ¬ 4000 < t[k + 2].toNat * 256 + t[k + 2 + 1].toNat) (h6 : ¬ k + 4 + (t[k + 2].toNat * 256 + t[k + 2 + 1].toNat) ≤ t.size) :
    Calls Try.prog 36 #[.string t, .int .i64 (k : Int)] w fun e w' => e = gotAgg (noGot 4) ∧ Below w.heap.size w w' := by
  have c1 := t[k].toNat_lt
  have g2 : (k : Int) < (t.size : Int) := by omega
  have HT : Hid (decide (tagOk (t[k].toNat : Int)) = true) := Lib.hid (decide_eq_true ht)
  have c2 := t[k + 1].toNat_lt
  have g3 : ¬ (t.size : Int) ≤ (k : Int) + 1 := by omega
  have g4 : (k : Int) + 1 < (t.size : Int) := by omega
  have g4b : (0 : Int) ≤ (k : Int) + 1 := by omega
  have v1 : (t[k + 1].toNat : Int) = 130 := by omega
  have g5 : ¬ (t.size : Int) < (k : Int) + 2 + 2 := by omega
  have c3 := t[k + 2].toNat_lt
  have c4 := t[k + 2 + 1].toNat_lt
  have g6 : (k : Int) + 2 < (t.size : Int) := by omega
  have g6b : (0 : Int) ≤ (k : Int) + 2 := by omega
  have g6c : (k : Int) + 2 + 1 < (t.size : Int) := by omega
  have g6d : (0 : Int) ≤ (k : Int) + 2 + 1 := by omega
  have vn : 256 * (t[k + 2].toNat : Int) + (t[k + 2 + 1].toNat : Int) = ((t[k + 2].toNat * 256 + t[k + 2 + 1].toNat : Nat) : Int) := by omega
  generalize t[k + 2].toNat * 256 + t[k + 2 + 1].toNat = q at *
  have g7 : decide ((q : Int) < 256) = false := decide_eq_false (by omega)
  have g8 : decide ((4000 : Int) < (q : Int)) = false := decide_eq_false (by omega)
  have g9 : (t.size : Int) < (k : Int) + 2 + 2 + (q : Int) := by omega
  clear ht h2 h4 h5 h6
  go_enter Try.func36, Try.ntmps36
  go_wp2_with fail
  refine (l09Tag_any (t[k].toNat : Int) _).mono ?_
  rintro e w1 ⟨rfl, rfl⟩
  rw [HT.out]
  go_wp2_with fail
  go_loop [9, 12] (fun n i => (i = .int .i64 0 ∧ n = .int .i64 0) ∨ (i = .int .i64 1 ∧ n = .int .i64 (t[k + 2].toNat : Int)) ∨ (i = .int .i64 2 ∧ n = .int .i64 (q : Int))) (fun _ i => 2 - (intOf i).toNat)
  case atStart => exact .inl ⟨rfl, rfl⟩
  case round =>
    rcases hrel with ⟨rfl, rfl⟩ | ⟨rfl, rfl⟩ | ⟨rfl, rfl⟩
    · go_wp2
      go_round
      case rel => exact .inr (.inl ⟨by first | rfl | go_num, by first | rfl | go_num⟩)
      case measure => simp [intOf]
    · go_wp2
      go_round
      case rel => exact .inr (.inr ⟨by first | rfl | go_num, by first | rfl | go_num⟩)
      case measure => simp [intOf]
    · go_wp2
      exact bodyPost_ret (v := .agg #[.int .i64 0, .string ⟨#[]⟩, .int .i64 0, .int .i64 4]) (by simp [results, Try.results36, go_sem]) rfl ⟨rfl, by first | exact more' (more' (more' (Below.refl _ _) _) _) _ | exact (more' (more' (more' (Below.refl _ _) _) _) _).setCell (Nat.le_refl _) _ | exact (((((more' (more' (more' (Below.refl _ _) _) _) _).setCell (Nat.le_refl _) _).setCell (Nat.le_refl _) _).setCell (Nat.le_refl _) _).setCell (Nat.le_refl _) _)⟩

set_option maxRecDepth 100000 in
set_option maxHeartbeats 2000000 in
theorem getS_3ok (t : ByteArray) (k : Nat) (w : World) (h : t.size ≤ 8000) (hk : k < t.size) (ht : tagOk (t[k].toNat : Int)) (h1 : k + 1 < t.size) (h2 : t[k + 1].toNat = 130) (h3 : k + 2 + 1 < t.size) (h4 : ¬ t[k + 2].toNat * 256 + t[k + 2 + 1].toNat < 256) (h5 : ¬ 4000 < t[k + 2].toNat * 256 + t[k + 2 + 1].toNat) (h6 : k + 4 + (t[k + 2].toNat * 256 + t[k + 2 + 1].toNat) ≤ t.size) :
    Calls Try.prog 36 #[.string t, .int .i64 (k : Int)] w fun e w' => e = gotAgg (((t[k].toNat : Int), t.extract (k + 4) (k + 4 + (t[k + 2].toNat * 256 + t[k + 2 + 1].toNat))), (k : Int) + 2 + 2 + (((t[k + 2].toNat * 256 + t[k + 2 + 1].toNat) : Nat) : Int), 0) ∧ Below w.heap.size w w' := by
  have c1 := t[k].toNat_lt
  have g2 : (k : Int) < (t.size : Int) := by omega
  have HT : Hid (decide (tagOk (t[k].toNat : Int)) = true) := Lib.hid (decide_eq_true ht)
  have c2 := t[k + 1].toNat_lt
  have g3 : ¬ (t.size : Int) ≤ (k : Int) + 1 := by omega
  have g4 : (k : Int) + 1 < (t.size : Int) := by omega
  have g4b : (0 : Int) ≤ (k : Int) + 1 := by omega
  have v1 : (t[k + 1].toNat : Int) = 130 := by omega
  have g5 : ¬ (t.size : Int) < (k : Int) + 2 + 2 := by omega
  have c3 := t[k + 2].toNat_lt
  have c4 := t[k + 2 + 1].toNat_lt
  have g6 : (k : Int) + 2 < (t.size : Int) := by omega
  have g6b : (0 : Int) ≤ (k : Int) + 2 := by omega
  have g6c : (k : Int) + 2 + 1 < (t.size : Int) := by omega
  have g6d : (0 : Int) ≤ (k : Int) + 2 + 1 := by omega
  have vn : 256 * (t[k + 2].toNat : Int) + (t[k + 2 + 1].toNat : Int) = ((t[k + 2].toNat * 256 + t[k + 2 + 1].toNat : Nat) : Int) := by omega
  generalize t[k + 2].toNat * 256 + t[k + 2 + 1].toNat = q at *
  have g7 : decide ((q : Int) < 256) = false := decide_eq_false (by omega)
  have g8 : decide ((4000 : Int) < (q : Int)) = false := decide_eq_false (by omega)
  have g9 : ¬ (t.size : Int) < (k : Int) + 2 + 2 + (q : Int) := by omega
  have s1 : (0 : Int) ≤ (k : Int) + 2 + 2 + (q : Int) := by omega
  have s2 : (k : Int) + 2 + 2 ≤ (k : Int) + 2 + 2 + (q : Int) := by omega
  have s3 : (k : Int) + 2 + 2 + (q : Int) ≤ (t.size : Int) := by omega
  have s0 : (0 : Int) ≤ (k : Int) + 2 + 2 := by omega
  clear ht h2 h4 h5 h6
  go_enter Try.func36, Try.ntmps36
  go_wp2_with fail
  refine (l09Tag_any (t[k].toNat : Int) _).mono ?_
  rintro e w1 ⟨rfl, rfl⟩
  rw [HT.out]
  go_wp2_with fail
  go_loop [9, 12] (fun n i => (i = .int .i64 0 ∧ n = .int .i64 0) ∨ (i = .int .i64 1 ∧ n = .int .i64 (t[k + 2].toNat : Int)) ∨ (i = .int .i64 2 ∧ n = .int .i64 (q : Int))) (fun _ i => 2 - (intOf i).toNat)
  case atStart => exact .inl ⟨rfl, rfl⟩
  case round =>
    rcases hrel with ⟨rfl, rfl⟩ | ⟨rfl, rfl⟩ | ⟨rfl, rfl⟩
    · go_wp2
      go_round
      case rel => exact .inr (.inl ⟨by first | rfl | go_num, by first | rfl | go_num⟩)
      case measure => simp [intOf]
    · go_wp2
      go_round
      case rel => exact .inr (.inr ⟨by first | rfl | go_num, by first | rfl | go_num⟩)
      case measure => simp [intOf]
    · go_wp2
      exact bodyPost_ret (v := .agg #[.int .i64 (t[k].toNat : Int), .string (t.extract (k + 4) (k + 4 + q)), .int .i64 ((k : Int) + 2 + 2 + (q : Int)), .int .i64 0]) (by simp [results, Try.results36, go_sem]) rfl ⟨rfl, by first | exact more' (more' (more' (Below.refl _ _) _) _) _ | exact (more' (more' (more' (Below.refl _ _) _) _) _).setCell (Nat.le_refl _) _ | exact (((((more' (more' (more' (Below.refl _ _) _) _) _).setCell (Nat.le_refl _) _).setCell (Nat.le_refl _) _).setCell (Nat.le_refl _) _).setCell (Nat.le_refl _) _)⟩
theorem l09Get_any (t : ByteArray) (k : Nat) (w : World) (h : t.size ≤ 8000) :
    Calls Try.prog 36 #[.string t, .int .i64 (k : Int)] w fun e w' => e = gotAgg (getN t k) ∧ Below w.heap.size w w' := by
  by_cases hk : k < t.size
  rotate_left
  · rw [getN_end hk]; exact getS_end t k w h hk
  by_cases ht : tagOk (t[k].toNat : Int)
  rotate_left
  · rw [getN_tag hk ht]; exact getS_tag t k w h hk ht
  by_cases h1 : k + 1 < t.size
  rotate_left
  · rw [getN_len hk ht (.inr rfl) (lenR_end h1)]; exact getS_end1 t k w h hk ht h1
  by_cases h2 : t[k + 1].toNat < 128
  · have hl := lenR_1 h1 h2
    by_cases h3 : k + 2 + t[k + 1].toNat ≤ t.size
    · rw [getN_ok hk ht hl h3]; exact getS_1ok t k w h hk ht h1 h2 h3
    · rw [getN_short hk ht hl h3]; exact getS_1short t k w h hk ht h1 h2 h3
  by_cases h3 : t[k + 1].toNat = 129
  · by_cases h4 : k + 2 < t.size
    · by_cases h5 : t[k + 2].toNat < 128
      · rw [getN_len hk ht (.inl rfl) (lenR_2bad h1 h3 h4 h5)]; exact getS_2bad t k w h hk ht h1 h3 h4 h5
      · have hl := lenR_2ok h1 h3 h4 h5
        by_cases h6 : k + 3 + t[k + 2].toNat ≤ t.size
        · rw [getN_ok hk ht hl h6]
          exact (getS_2ok t k w h hk ht h1 h3 h4 h5 h6).mono fun e w' ⟨he, hb⟩ => ⟨he.trans (by unfold gotAgg; congr 6 <;> omega), hb⟩
        · rw [getN_short hk ht hl h6]; exact getS_2short t k w h hk ht h1 h3 h4 h5 h6
    · rw [getN_len hk ht (.inr rfl) (lenR_2short h1 h3 h4)]; exact getS_2end t k w h hk ht h1 h3 h4
  by_cases h4 : t[k + 1].toNat = 130
  · by_cases h5 : k + 2 + 1 < t.size
    · by_cases h6 : t[k + 2].toNat * 256 + t[k + 2 + 1].toNat < 256
      · rw [getN_len hk ht (.inl rfl) (lenR_3bad h1 h4 h5 (.inl h6))]; exact getS_3small t k w h hk ht h1 h4 h5 h6
      · by_cases h7 : 4000 < t[k + 2].toNat * 256 + t[k + 2 + 1].toNat
        · rw [getN_len hk ht (.inl rfl) (lenR_3bad h1 h4 h5 (.inr h7))]; exact getS_3big t k w h hk ht h1 h4 h5 h7
        · have hl := lenR_3ok h1 h4 h5 (fun x => by rcases x with x | x <;> contradiction)
          by_cases h8 : k + 4 + (t[k + 2].toNat * 256 + t[k + 2 + 1].toNat) ≤ t.size
          · rw [getN_ok hk ht hl h8]
            exact (getS_3ok t k w h hk ht h1 h4 h5 h6 h7 h8).mono fun e w' ⟨he, hb⟩ => ⟨he.trans (by unfold gotAgg; congr 6 <;> omega), hb⟩
          · rw [getN_short hk ht hl h8]; exact getS_3short t k w h hk ht h1 h4 h5 h6 h7 h8
    · rw [getN_len hk ht (.inr rfl) (lenR_3short h1 h4 h5)]; exact getS_3end t k w h hk ht h1 h4 h5
  · rw [getN_len hk ht (.inl rfl) (lenR_no h1 h2 h3 h4)]; exact getS_no t k w h hk ht h1 (by omega) h3 h4
set_option maxHeartbeats 1000000 in
theorem SpecBerGet_any (t : ByteArray) (x : Int) (w : World) (hm : t.size ≤ maxLen) (_hx : -9223372036854775808 ≤ x ∧ x ≤ 9223372036854775807) :
    Calls Try.prog 11 #[.string t, .int .i64 x] w fun e w' => e = gotAgg (getV t x) ∧ Below w.heap.size w w' := by
  by_cases h : 8000 < t.size
  · have HR := Lib.hid (getV_long (x := x) h)
    unfold maxLen at hm
    have h' : (8000 : Int) < (t.size : Int) := by omega
    go_enter Try.func11, Try.ntmps11
    go_wp2
    exact bodyPost_ret (v := .agg #[.int .i64 0, .string ⟨#[]⟩, .int .i64 0, .int .i64 2]) (by simp [results, Try.results11, go_sem]) rfl ⟨by first | exact HR.out ▸ rfl | (rw [HR.out]; done), more' (Below.refl _ _) _⟩
  have h' : ¬ (8000 : Int) < (t.size : Int) := by omega
  by_cases hx : x < 0
  · have HR := Lib.hid (getV_neg h hx)
    go_enter Try.func11, Try.ntmps11
    go_wp2
    exact bodyPost_ret (v := .agg #[.int .i64 0, .string ⟨#[]⟩, .int .i64 0, .int .i64 1]) (by simp [results, Try.results11, go_sem]) rfl ⟨by first | exact HR.out ▸ rfl | (rw [HR.out]; done), more' (Below.refl _ _) _⟩
  obtain ⟨k, rfl⟩ := Int.eq_ofNat_of_zero_le (show 0 ≤ x by omega)
  rw [getV_in h]
  have CG : Hid (∀ W : World, Calls Try.prog 36 #[.string t, .int .i64 (k : Int)] W fun e w' => e = .returned (.agg #[.int .i64 (getN t k).1.1, .string (getN t k).1.2, .int .i64 (getN t k).2.1, .int .i64 (getN t k).2.2]) ∧ Below W.heap.size W w') := Lib.hid (fun W => l09Get_any t k W (by omega))
  have HR : Hid (gotAgg (getN t k) = .returned (.agg #[.int .i64 (getN t k).1.1, .string (getN t k).1.2, .int .i64 (getN t k).2.1, .int .i64 (getN t k).2.2])) := Lib.hid rfl
  generalize getN t k = r at *
  go_enter Try.func11, Try.ntmps11
  go_wp2_with fail
  refine calls_by (fun W => Below w.heap.size w W ∧ Blk W w.heap.size [.int .i64 0, .string ⟨#[]⟩, .int .i64 0, .int .i64 0]) ⟨more' (Below.refl _ _) _, Blk.new _ _ _⟩ ?_
  rintro W1 ⟨b1, t1⟩
  have T1 := Lib.hid t1; clear t1
  refine (CG.out W1).mono ?_
  rintro e w2 ⟨rfl, hb⟩
  have B2 := b1.trans (hb.mono b1.size); have T2 := Lib.hid (T1.out.below hb)
  clear b1 hb T1 CG
  have rf0 := T2.out.soft 0; have rz0 := T2.out.cell 0 rfl
  have rf1 := T2.out.soft 1; have rz1 := T2.out.cell 1 rfl
  have rf2 := T2.out.soft 2; have rz2 := T2.out.cell 2 rfl
  have rf3 := T2.out.soft 3; have rz3 := T2.out.cell 3 rfl
  have TE := ((((T2.out.set 0 (.int .i64 r.1.1)).set 1 (.string r.1.2)).set 2 (.int .i64 r.2.1)).set 3 (.int .i64 r.2.2))
  have rj0 := TE.cell 0 rfl
  have rj1 := TE.cell 1 rfl
  have rj2 := TE.cell 2 rfl
  have rj3 := TE.cell 3 rfl
  clear TE
  have BE := Lib.hid ((((B2.setCell (p := ⟨w.heap.size, 0, none⟩) (by show w.heap.size ≤ w.heap.size; omega) (.int .i64 r.1.1)).setCell (p := ⟨w.heap.size, 1, none⟩) (by show w.heap.size ≤ w.heap.size; omega) (.string r.1.2)).setCell (p := ⟨w.heap.size, 2, none⟩) (by show w.heap.size ≤ w.heap.size; omega) (.int .i64 r.2.1)).setCell (p := ⟨w.heap.size, 3, none⟩) (by show w.heap.size ≤ w.heap.size; omega) (.int .i64 r.2.2))
  go_wp2
  refine bodyPost_ret (v := .agg #[.int .i64 r.1.1, .string r.1.2, .int .i64 r.2.1, .int .i64 r.2.2]) (by simp [results, Try.results11, go_sem, rj0, rj1, rj2, rj3]) rfl ?_
  exact ⟨HR.out.symm, BE.out⟩
end Go.Proofs.Ytohcdpoffpnfhaa
/- BER: BerAll: what the program returns of any text. -/
namespace Go.Proofs.Ytohcdpoffpnfhaa
open Go.RowKit
set_option linter.unusedVariables false
attribute [local go_sem ↓] Go.wp_at_zero Go.wp_at_succ

theorem allV_long {t : ByteArray} (h : 8000 < t.size) : allV t = ([], 2) := by unfold allV; rw [if_pos h]
set_option maxRecDepth 100000 in
set_option maxHeartbeats 4000000 in
theorem BerAll_long (t : ByteArray) (w : World) (hm : t.size ≤ maxLen) (h : 8000 < t.size) :
    Calls Try.prog 15 #[.string t] w fun e w' => (∃ u, e = tlvsAgg u (allV t).2 ∧ SlOwn tlvE (Fresh w w') w' (allV t).1 u) ∧ Below w.heap.size w w' := by
  have HV := Lib.hid (allV_long h)
  have CG : Hid (∀ W, Calls Try.prog 12 #[.string t, .int .i64 0] W fun e w' => e = .returned (.agg #[.int .i64 0, .string ⟨#[]⟩, .int .i64 0, .int .i64 2]) ∧ Below W.heap.size W w') := Lib.hid (fun W => by
    have h1 := BerGet_any t 0 W hm (by omega)
    rw [getV_long h] at h1
    exact h1)
  unfold maxLen at hm
  have g1 : (0 : Int) < (t.size : Int) := by omega
  go_enter Try.func15, Try.ntmps15
  go_wp2_with fail
  refine wp_world (fun W => Below w.heap.size w W ∧ Blk W w.heap.size [.slice none 0 0, .int .i64 0]) ⟨more' (Below.refl _ _) _, Blk.new _ _ _⟩ ?_
  rintro W1 ⟨b1, t1⟩
  have T1 := Lib.hid t1; have B1 := Lib.hid b1; clear t1 b1
  go_loopw [3, 4] (fun v i wr => i = .int .i64 0 ∧ v = .slice none 0 0 ∧ wr = W1) (fun _ i _ => t.size - (intOf i).toNat)
  case atStart => exact ⟨rfl, rfl, rfl⟩
  case round =>
    obtain ⟨rfl, rfl, rfl⟩ := hrel
    go_wp2_with fail
    refine (CG.out _).mono ?_
    rintro e w2 ⟨rfl, hb⟩
    have T3 := Lib.hid ((T1.out.below hb).alloc (.cells #[.int .i64 0, .string ⟨#[]⟩, .int .i64 0, .int .i64 2] 27))
    have B3 := Lib.hid (more' (B1.out.trans (hb.mono B1.out.size)) (.cells #[.int .i64 0, .string ⟨#[]⟩, .int .i64 0, .int .i64 2] 27))
    clear CG hb
    have rf0 := T3.out.soft 0; have rz0 := T3.out.cell 0 rfl
    have rf1 := T3.out.soft 1; have rz1 := T3.out.cell 1 rfl
    have TE := ((T3.out.set 0 (.slice none 0 0)).set 1 (.int .i64 2))
    have rj0 := TE.cell 0 rfl
    have rj1 := TE.cell 1 rfl
    clear TE
    have BE := Lib.hid ((B3.out.setCell (p := ⟨w.heap.size, 0, none⟩) (by show w.heap.size ≤ w.heap.size; omega) (.slice none 0 0)).setCell (p := ⟨w.heap.size, 1, none⟩) (by show w.heap.size ≤ w.heap.size; omega) (.int .i64 2))
    go_wp2
    refine bodyPost_ret (v := .agg #[.slice none 0 0, .int .i64 2]) (by simp [results, Try.results15, go_sem, rj0, rj1]) rfl ?_
    exact ⟨⟨.slice none 0 0, by rw [HV.out]; rfl, by rw [HV.out]; exact own_none _ _⟩, BE.out⟩
theorem BerAll_any (t : ByteArray) (w : World) (hm : t.size ≤ maxLen) :
    Calls Try.prog 15 #[.string t] w fun e w' => (∃ u, e = tlvsAgg u (allV t).2 ∧ SlOwn tlvE (Fresh w w') w' (allV t).1 u) ∧ Below w.heap.size w w' := by
  by_cases h : 8000 < t.size
  · exact BerAll_long t w hm h
  · exact BerAll_in t w h
theorem own_set {w : World} {B O e z n j : Nat} {v u : Value} {xs : List Value} (h : w.ownsRow B e z v n xs) (hO : O < B) : (w.setCell ⟨O, j, none⟩ u).ownsRow B e z v n xs :=
  h.kept (row := some O) ⟨rfl, rfl, rfl, by simp [World.setCell], fun k hk hne => Below.heap_setCell _ _ _ _ (fun e0 => hne (by rw [show k = O by first | exact e0 | exact e0.symm]))⟩ (by
    right
    intro e0
    have := (h.lt O e0).1
    omega)
theorem l09Get_is (t : ByteArray) (k : Nat) (W : World) (ht : ¬ 8000 < t.size) :
    Calls Try.prog 36 #[.string t, .int .i64 (k : Int)] W fun e w' => e = .returned (.agg #[.int .i64 (getN t k).1.1, .string (getN t k).1.2, .int .i64 (getN t k).2.1, .int .i64 (getN t k).2.2]) ∧ Below W.heap.size W w' := l09Get_any t k W (by omega)
set_option maxRecDepth 100000 in
set_option maxHeartbeats 4000000 in
theorem l09All_any (t : ByteArray) (w : World) (h : ¬ 8000 < t.size) :
    Calls Try.prog 39 #[.string t] w fun e w' => (∃ u, e = tlvsAgg u (allV t).2 ∧ SlOwn tlvE (Fresh w w') w' (allV t).1 u) ∧ Below w.heap.size w w' := by
  have HG := Lib.hid (fun W k => l09Get_is t k W h)
  have HA := Lib.hid (reach_start h)
  go_enter Try.func39, Try.ntmps39
  go_wp2_with fail
  refine wp_world (fun W => Below w.heap.size w W ∧ Blk W w.heap.size [.slice none 0 0, .int .i64 0] ∧ Blk W (w.heap.size + 1) [.slice none 0 0, .int .i64 0] ∧ W.heap.size = w.heap.size + 2) ⟨more' (more' (Below.refl _ _) _) _, (Blk.new _ _ _).alloc _, blk_at _ _ _ (by simp), by simp⟩ ?_
  rintro W1 ⟨b1, t1, u1, z1⟩
  have T1 := Lib.hid t1; have U1 := Lib.hid u1; have B1 := Lib.hid b1; have Z1 := Lib.hid z1; clear t1 u1 b1 z1
  go_loopw [4] (fun i wr => ∃ (k : Nat) (a : List TlvT) (p : Option Addr) (q : Nat), GoneTo t k a ∧ i = .int .i64 (k : Int) ∧ wr.ownsRow (w.heap.size + 2) 25 2 (.slice p a.length q) a.length (ts a) ∧ Below (w.heap.size + 1) W1 wr ∧ Blk wr (w.heap.size + 1) [.slice p a.length q, .int .i64 0]) (fun i _ => t.size - (intOf i).toNat)
  case atStart => exact ⟨0, [], none, 0, HA.out, rfl, ⟨rfl, .inl ⟨rfl, rfl⟩⟩, Below.refl _ _, U1.out⟩
  case round =>
    obtain ⟨k, a, p7, q7, hr, rfl, hown, hbel, hU⟩ := hrel
    have HR := Lib.hid hr; have HO := Lib.hid hown; have HB := Lib.hid hbel; have HU := Lib.hid hU
    have hkt := hr.1; have ha := hr.2.1
    have hsz : w.heap.size + 2 ≤ wr.heap.size := by have := hbel.size; have := Z1.out; omega
    clear hr hown hbel hU
    by_cases hlt : k < t.size
    · have g1 : (k : Int) < (t.size : Int) := by omega
      have HNK := Lib.hid (fun hc => getN_at (t := t) (k := k) hc)
      have HST := Lib.hid (fun e hc h6 he hke het => reach_step (e := e) HR.out hlt hc h6 he hke het)
      have HBD := Lib.hid (fun hc => reach_bad HR.out hlt hc)
      have HFU := Lib.hid (fun hc h6 => reach_full HR.out hlt hc h6)
      have CG := Lib.hid (fun W => HG.out W k)
      rcases hN : getN t k with ⟨⟨tg, bd⟩, atv, cd⟩
      rw [hN] at HNK HST HBD HFU CG
      dsimp only at HNK HST HBD HFU CG
      clear hN
      go_wp2_with fail
      refine (CG.out _).mono ?_
      rintro e w2 ⟨rfl, hb⟩
      have B2 := Lib.hid (HB.out.trans (hb.mono (by omega)))
      have O2 := Lib.hid (own_below HO.out hb)
      have hs2 := hb.size
      have U2 := Lib.hid (HU.out.below hb)
      clear CG hb HO HU HB
      have T3 := Lib.hid ((blk_keep T1.out B2.out (Nat.lt_succ_self _)).alloc (.cells #[.int .i64 tg, .string bd, .int .i64 atv, .int .i64 cd] 27))
      have U3 := Lib.hid (U2.out.alloc (.cells #[.int .i64 tg, .string bd, .int .i64 atv, .int .i64 cd] 27))
      have B3 := Lib.hid (B1.out.trans ((B2.out.alloc (by omega) (.cells #[.int .i64 tg, .string bd, .int .i64 atv, .int .i64 cd] 27)).mono (by omega)))
      have lu0 := U3.out.cell 0 rfl
      by_cases hc : cd = 0
      · subst hc
        obtain ⟨e, he, hke, het, hbs⟩ := HNK.out rfl
        try dsimp only at he
        subst he
        by_cases h6 : a.length < 60
        · have HS := Lib.hid (HST.out e rfl h6 rfl (by omega) het)
          have h6' : ¬ (60 : Int) ≤ (a.length : Int) := by omega
          clear HNK HST HBD HFU T3
          have O3 := Lib.hid (O2.out.alloc (.cells #[.int .i64 tg, .string bd, .int .i64 (e : Int), .int .i64 0] 27))
          have D3 := Lib.hid (B2.out.alloc (by omega) (.cells #[.int .i64 tg, .string bd, .int .i64 (e : Int), .int .i64 0] 27))
          have X3 := Lib.hid (Blk.new w2 27 [.int .i64 tg, .string bd, .int .i64 (e : Int), .int .i64 0])
          have hz3 : Hid (w2.heap.size + 1 = (w2.alloc (.cells #[.int .i64 tg, .string bd, .int .i64 (e : Int), .int .i64 0] 27)).heap.size) := Lib.hid (by simp)
          have hz4 : Hid (w.heap.size + 2 ≤ (w2.alloc (.cells #[.int .i64 tg, .string bd, .int .i64 (e : Int), .int .i64 0] 27)).heap.size) := Lib.hid (by simp only [World.alloc, Array.size_push]; omega)
          have HL : Hid (a.length ≤ 1000000000) := Lib.hid (by omega)
          have HN : Hid (∀ g, (Value.slice p7 a.length q7).ownBlock = some g → g < w2.heap.size) := Lib.hid (fun g hg => (O2.out.lt g hg).2)
          go_wp2_with (first
            | (at_builtin; refine append_tlv (w.heap.size + 2) rfl _ _ rfl _ a rfl O3.out tg bd _ hz3.out rfl HL.out hz4.out (Below.refl _ _) ?_; intro v5 w5 h5 d5 z5 _ gr5
               have HX5 := Lib.hid (show Blk w5 w2.heap.size [.int .i64 tg, .string bd, .int .i64 (e : Int), .int .i64 0] from by
                 obtain ⟨T, hT⟩ := X3.out
                 exact ⟨T, (gr5.block w2.heap.size (by simp) (fun e0 => by have := HN.out _ e0.symm; omega)).trans hT⟩)
               have HU5 := Lib.hid (blk_keep U3.out d5 (by omega))
               have E5 := Lib.hid (D3.out.trans (d5.mono (by omega)))
               obtain ⟨p8, q8, hv8⟩ := own_slice h5
               subst hv8
               have H5 := Lib.hid h5
               have x1 := (HX5.out.far (g := w2.heap.size) (R := w.heap.size + 1) (j := 0) (by omega) (.slice p8 (a ++ [(tg, bd)]).length q8)).cell 2 rfl
               have x0 := HX5.out.cell 2 rfl
               have x2 : ¬ w2.heap.size = w.heap.size + 1 := by omega
               have x3 : ¬ w.heap.size + 1 = w2.heap.size := by omega
               have y1 := HU5.out.cell 0 rfl
               have y2 := HU5.out.soft 0
               clear h5 d5 gr5)
            | (fail "none"))
          go_roundw
          case rel => exact ⟨e, a ++ [(tg, bd)], p8, q8, HS.out, rfl, own_set H5.out (by omega), E5.out.setCell (p := ⟨w.heap.size + 1, 0, none⟩) (Nat.le_refl _) _, by rw [show (a ++ [(tg, bd)]).length = a.length + 1 by simp]; exact HU5.out.set 0 _⟩
          case measure => simp [intOf]; omega
        · have HV := Lib.hid (HFU.out rfl h6)
          have h6' : (60 : Int) ≤ (a.length : Int) := by omega
          clear HNK HST HBD HFU h6
          have rf0 := T3.out.soft 0; have rz0 := T3.out.cell 0 rfl
          have rf1 := T3.out.soft 1; have rz1 := T3.out.cell 1 rfl
          have TE := ((T3.out.set 0 (.slice none 0 0)).set 1 (.int .i64 9))
          have rj0 := TE.cell 0 rfl
          have rj1 := TE.cell 1 rfl
          clear TE
          have BE := Lib.hid ((B3.out.setCell (p := ⟨w.heap.size, 0, none⟩) (by show w.heap.size ≤ w.heap.size; omega) (.slice none 0 0)).setCell (p := ⟨w.heap.size, 1, none⟩) (by show w.heap.size ≤ w.heap.size; omega) (.int .i64 9))
          go_wp2
          refine bodyPost_ret (v := .agg #[.slice none 0 0, .int .i64 9]) (by simp [results, Try.results39, go_sem, rj0, rj1]) rfl ?_
          exact ⟨⟨.slice none 0 0, by rw [HV.out]; rfl, by rw [HV.out]; exact own_none _ _⟩, BE.out⟩
      · have HV := Lib.hid (HBD.out hc)
        have hc' : (cd == 0) = false := by rw [beq_eq_false_iff_ne]; exact hc
        clear HNK HST HBD HFU hc
        have rf0 := T3.out.soft 0; have rz0 := T3.out.cell 0 rfl
        have rf1 := T3.out.soft 1; have rz1 := T3.out.cell 1 rfl
        have TE := ((T3.out.set 0 (.slice none 0 0)).set 1 (.int .i64 cd))
        have rj0 := TE.cell 0 rfl
        have rj1 := TE.cell 1 rfl
        clear TE
        have BE := Lib.hid ((B3.out.setCell (p := ⟨w.heap.size, 0, none⟩) (by show w.heap.size ≤ w.heap.size; omega) (.slice none 0 0)).setCell (p := ⟨w.heap.size, 1, none⟩) (by show w.heap.size ≤ w.heap.size; omega) (.int .i64 cd))
        go_wp2
        refine bodyPost_ret (v := .agg #[.slice none 0 0, .int .i64 cd]) (by simp [results, Try.results39, go_sem, rj0, rj1]) rfl ?_
        exact ⟨⟨.slice none 0 0, by rw [HV.out]; rfl, by rw [HV.out]; exact own_none _ _⟩, BE.out⟩
    · have HV := Lib.hid (reach_end HR.out hlt)
      have g1 : ¬ (k : Int) < (t.size : Int) := by omega
      have T3 := Lib.hid (blk_keep T1.out HB.out (Nat.lt_succ_self _))
      have B3 := Lib.hid (B1.out.trans (HB.out.mono (Nat.le_succ _)))
      have lu0 := HU.out.cell 0 rfl; have lu1 := HU.out.cell 1 rfl
      have rf0 := T3.out.soft 0; have rz0 := T3.out.cell 0 rfl
      have rf1 := T3.out.soft 1; have rz1 := T3.out.cell 1 rfl
      have TE := ((T3.out.set 0 (.slice p7 a.length q7)).set 1 (.int .i64 0))
      have rj0 := TE.cell 0 rfl
      have rj1 := TE.cell 1 rfl
      clear TE
      have BE := Lib.hid ((B3.out.setCell (p := ⟨w.heap.size, 0, none⟩) (by show w.heap.size ≤ w.heap.size; omega) (.slice p7 a.length q7)).setCell (p := ⟨w.heap.size, 1, none⟩) (by show w.heap.size ≤ w.heap.size; omega) (.int .i64 0))
      go_wp2
      refine bodyPost_ret (v := .agg #[.slice p7 a.length q7, .int .i64 0]) (by simp [results, Try.results39, go_sem, rj0, rj1]) rfl ?_
      have HOW := Lib.hid (own_tlvs HO.out)
      refine ⟨⟨.slice p7 a.length q7, by rw [HV.out]; rfl, ?_⟩, BE.out⟩
      rw [HV.out]
      have HF : SlOwn tlvE (fun b => w.heap.size + 2 ≤ b ∧ b < wr.heap.size) _ a (.slice p7 a.length q7) := ((HOW.out.frame (Same.set _ (g := w.heap.size) 0 (.slice p7 a.length q7) (by intro h; have := h.1; omega))).frame (Same.set _ (g := w.heap.size) 1 (.int .i64 0) (by intro h; have := h.1; omega)))
      exact HF.wide (fun b hb => ⟨by have := hb.1; omega, by have := hb.2; simpa [World.setCell] using this⟩)
end Go.Proofs.Ytohcdpoffpnfhaa
/- BER: BerAll: what the specification returns of any text; the size of the answer. -/
namespace Go.Proofs.Ytohcdpoffpnfhaa
open Go.RowKit
set_option linter.unusedVariables false
attribute [local go_sem ↓] Go.wp_at_zero Go.wp_at_succ

set_option maxRecDepth 100000 in
set_option maxHeartbeats 2000000 in
theorem SpecBerAll_any (t : ByteArray) (w : World) (hm : t.size ≤ maxLen) :
    Calls Try.prog 14 #[.string t] w fun e w' => (∃ u, e = tlvsAgg u (allV t).2 ∧ SlOwn tlvE (Fresh w w') w' (allV t).1 u) ∧ Below w.heap.size w w' := by
  by_cases h : 8000 < t.size
  · have HV := Lib.hid (allV_long h)
    unfold maxLen at hm
    have h' : (8000 : Int) < (t.size : Int) := by omega
    go_enter Try.func14, Try.ntmps14
    go_wp2_with fail
    exact bodyPost_ret (v := .agg #[.slice none 0 0, .int .i64 2]) (by simp [results, Try.results14, go_sem]) rfl ⟨⟨.slice none 0 0, by rw [HV.out]; rfl, by rw [HV.out]; exact own_none _ _⟩, more' (Below.refl _ _) _⟩
  have h' : ¬ (8000 : Int) < (t.size : Int) := by omega
  have CA := Lib.hid (fun W => l09All_any t W h)
  generalize allV t = r at *
  obtain ⟨a, c⟩ := r
  clear hm h
  go_enter Try.func14, Try.ntmps14
  go_wp2_with fail
  refine calls_by (fun W => Below w.heap.size w W ∧ Blk W w.heap.size [.slice none 0 0, .int .i64 0] ∧ w.heap.size < W.heap.size) ⟨more' (Below.refl _ _) _, Blk.new _ _ _, by simp⟩ ?_
  rintro W1 ⟨b1, t1, z1⟩
  have T1 := Lib.hid t1; clear t1
  refine (CA.out W1).mono ?_
  rintro e w2 ⟨⟨u, rfl, q⟩, hb⟩
  have B2 := Lib.hid (b1.trans (hb.mono b1.size)); have T2 := Lib.hid (T1.out.below hb)
  obtain ⟨p7, q7, rfl⟩ := q.at.sl
  have Q := Lib.hid q
  clear b1 hb T1 CA q
  unfold tlvsAgg
  dsimp only
  have rf0 := T2.out.soft 0; have rz0 := T2.out.cell 0 rfl
  have rf1 := T2.out.soft 1; have rz1 := T2.out.cell 1 rfl
  have TE := ((T2.out.set 0 (.slice p7 a.length q7)).set 1 (.int .i64 c))
  have rj0 := TE.cell 0 rfl
  have rj1 := TE.cell 1 rfl
  clear TE
  have BE := Lib.hid ((B2.out.setCell (p := ⟨w.heap.size, 0, none⟩) (by show w.heap.size ≤ w.heap.size; omega) (.slice p7 a.length q7)).setCell (p := ⟨w.heap.size, 1, none⟩) (by show w.heap.size ≤ w.heap.size; omega) (.int .i64 c))
  go_wp2
  refine bodyPost_ret (v := .agg #[.slice p7 a.length q7, .int .i64 c]) (by simp [results, Try.results14, go_sem, rj0, rj1]) rfl ?_
  refine ⟨⟨.slice p7 a.length q7, rfl, ?_⟩, BE.out⟩
  have HF : SlOwn tlvE (Fresh W1 w2) _ a (.slice p7 a.length q7) := ((Q.out.frame (Same.set _ (g := w.heap.size) 0 (.slice p7 a.length q7) (by intro h; have := h.1; omega))).frame (Same.set _ (g := w.heap.size) 1 (.int .i64 c) (by intro h; have := h.1; omega)))
  exact HF.wide (fun b hb => ⟨by have := hb.1; omega, by have := hb.2; simpa [World.setCell] using this⟩)
theorem allG_sz (t : ByteArray) : ∀ (f k : Nat) (a : List TlvT), a.length ≤ 60 → szL tlvE a ≤ a.length * t.size → (allG t f k a).1.length ≤ 60 ∧ szL tlvE (allG t f k a).1 ≤ 60 * t.size := by
  intro f
  induction f with
  | zero =>
    intro k a h1 h2
    exact ⟨h1, Nat.le_trans h2 (Nat.mul_le_mul_right _ h1)⟩
  | succ f ih =>
    intro k a h1 h2
    unfold allG
    split
    · split
      · rename_i hc
        split
        · refine ih _ _ (by simp; omega) ?_
          obtain ⟨e, _, _, _, hs⟩ := getN_at hc
          have e1 : szL tlvE (a ++ [(getN t k).1]) = szL tlvE a + (getN t k).1.2.size := by
            unfold szL
            rw [List.map_append, List.sum_append]
            show _ + (0 + (getN t k).1.2.size + 0) = _
            omega
          rw [e1, List.length_append, Nat.add_mul]
          simp
          omega
        · exact ⟨Nat.zero_le _, Nat.zero_le _⟩
      · exact ⟨Nat.zero_le _, Nat.zero_le _⟩
    · exact ⟨h1, Nat.le_trans h2 (Nat.mul_le_mul_right _ h1)⟩
theorem allV_sz (t : ByteArray) : (allV t).1.length + szL tlvE (allV t).1 ≤ 1048576 := by
  unfold allV
  split
  · exact Nat.zero_le _
  · have h := allG_sz t (t.size + 1) 0 [] (by simp) (Nat.zero_le _)
    have : 60 * t.size ≤ 60 * 8000 := Nat.mul_le_mul_left _ (by omega)
    omega
theorem BerAll_own (t : ByteArray) (Y : World) (hm : t.size ≤ 1048576) :
    Calls Try.prog 15 #[.string t] Y fun e w' => (∃ u900 : Value, e = .returned (.agg #[u900, .int .i64 (allV t).2]) ∧ tlvsOutE.Own (Fresh Y w') w' (allV t) [u900, .int .i64 (allV t).2]) ∧ Below Y.heap.size Y w' :=
  (BerAll_any t Y (by unfold maxLen; omega)).mono fun e w' ⟨⟨u, he, q⟩, hb⟩ => ⟨⟨u, he, tlvsOut_pack _ _ u _ ⟨q, fun _ h => h, trivial⟩⟩, hb⟩
theorem SpecBerAll_own (t : ByteArray) (Y : World) (hm : t.size ≤ 1048576) :
    Calls Try.prog 14 #[.string t] Y fun e w' => (∃ u900 : Value, e = .returned (.agg #[u900, .int .i64 (allV t).2]) ∧ tlvsOutE.Own (Fresh Y w') w' (allV t) [u900, .int .i64 (allV t).2]) ∧ Below Y.heap.size Y w' :=
  (SpecBerAll_any t Y (by unfold maxLen; omega)).mono fun e w' ⟨⟨u, he, q⟩, hb⟩ => ⟨⟨u, he, tlvsOut_pack _ _ u _ ⟨q, fun _ h => h, trivial⟩⟩, hb⟩
end Go.Proofs.Ytohcdpoffpnfhaa
/- Laws whose result lies in memory: what a walk of them needs. -/
namespace Go.Proofs.Ytohcdpoffpnfhaa
open Go Go.RowKit

/-- what holds behind a statement, however its order was drawn -/
def OnlyNormal (F : Act → World → Prop) (e : Exit) (a : Act) (w : World) : Prop := match e with | .normal => F a w | _ => False
theorem region_join (F : Act → Act → World → Prop) {P : Program} {c : Code} {Q : Exit → Act → World → Prop} {a : Act} {w : World} (h : c.wp P (OnlyNormal (F a)) a w) (hq : ∀ a' w', F a a' w' → Q .normal a' w') : c.wp P Q a w :=
  Code.wp_mono (fun e a' w' he => by cases e <;> first | exact hq _ _ he | exact he.elim) h
theorem Blk.turn {S : Bs} {w w' : World} {g : Nat} {cs : List Value} (h : Blk w g cs) (ht : Turn S w w') (hg : ¬ S g) : Blk w' g cs := by
  have hl := h.lt
  obtain ⟨T, e⟩ := h
  exact ⟨T, (ht.block g hl hg).trans e⟩
theorem cnt_fit {α : Type} {e : Enc α} (l : List α) (hc : e.c ≤ 50) (h : l.length + szL e l ≤ 1048576) : cntL e l ≤ 52428800 := by
  have h1 := cntL_le e l
  have h2 : e.c * (l.length + szL e l) ≤ 50 * 1048576 := Nat.mul_le_mul hc h
  omega
end Go.Proofs.Ytohcdpoffpnfhaa
/- An owned entry and an owned answer, taken apart. -/
namespace Go.Proofs.Ytohcdpoffpnfhaa
open Go Go.RowKit
theorem entry_ownp {S : Bs} {w : World} {a0 : List RdnT} {a1 : List AttrT} {v0 v1 : Value} (h : entryE.Own S w (a0, a1) [v0, v1]) :
    ∃ S0 S1 : Bs, SlOwn rdnE S0 w a0 v0 ∧ (∀ k, S0 k → S k) ∧ SlOwn attrE S1 w a1 v1 ∧ (∀ k, S1 k → S k) ∧ ∀ k, S0 k → ¬ S1 k := by
  obtain ⟨b0, b1, y0, y1, S0, S1, e1, e2, q0, i0, q1, i1, d, _⟩ := entry_own h
  simp only [Prod.mk.injEq] at e1
  obtain ⟨rfl, rfl⟩ := e1
  simp only [List.cons.injEq, and_true] at e2
  obtain ⟨rfl, rfl⟩ := e2
  exact ⟨S0, S1, q0, i0, q1, i1, d⟩
theorem entryOut_ownp {S : Bs} {w : World} {a0 : List RdnT} {a1 : List AttrT} {a2 : Int} {v0 v1 : Value} (h : entryOutE.Own S w ((a0, a1), a2) [v0, v1, .int .i64 a2]) :
    ∃ S0 S1 : Bs, SlOwn rdnE S0 w a0 v0 ∧ (∀ k, S0 k → S k) ∧ SlOwn attrE S1 w a1 v1 ∧ (∀ k, S1 k → S k) ∧ ∀ k, S0 k → ¬ S1 k := by
  obtain ⟨b0, b1, b2, y0, y1, S0, S1, e1, e2, q0, i0, q1, i1, d, _⟩ := entryOut_own h
  simp only [Prod.mk.injEq] at e1
  obtain ⟨⟨rfl, rfl⟩, rfl⟩ := e1
  simp only [List.cons.injEq, and_true] at e2
  obtain ⟨rfl, rfl⟩ := e2
  exact ⟨S0, S1, q0, i0, q1, i1, d⟩
example : ruleE.c ≤ 50 := by decide
example : attrE.c ≤ 50 := by decide
end Go.Proofs.Ytohcdpoffpnfhaa
/- Normalized pairs, keys, sameness: what the texts return. -/
namespace Go.Proofs.Ytohcdpoffpnfhaa
open Go.RowKit
attribute [local go_sem ↓] Go.wp_at_zero Go.wp_at_succ

/-- two blocks of two cells, over a call -/
theorem keep22 {w W w1 : World} {a b x y : Value} {T U : TypeId} (hb : Below W.heap.size W w1) (hW : W.heap = ((w.alloc (.cells #[a, b] T)).alloc (.cells #[x, y] U)).heap) :
    (w1.cell? ⟨w.heap.size, 0, none⟩ = some a ∧ w1.cell? ⟨w.heap.size, 1, none⟩ = some b ∧ w1.cell? ⟨w.heap.size + 1, 0, none⟩ = some x ∧ w1.cell? ⟨w.heap.size + 1, 1, none⟩ = some y) ∧
    (w1.frozen? ⟨w.heap.size, 0, none⟩ = false ∧ w1.frozen? ⟨w.heap.size, 1, none⟩ = false ∧ w1.frozen? ⟨w.heap.size + 1, 0, none⟩ = false ∧ w1.frozen? ⟨w.heap.size + 1, 1, none⟩ = false) ∧ w.heap.size + 1 < w1.heap.size := by
  have hs : w.heap.size + 1 < W.heap.size := by rw [hW]; simp
  have hblk : w1.heap[w.heap.size]? = some (.cells #[a, b] T) := by
    rw [hb.block _ (by omega), hW, Below.heap_alloc _ _ _ (by simp)]; exact heap_alloc_new w _
  have hblk2 : w1.heap[w.heap.size + 1]? = some (.cells #[x, y] U) := by
    rw [hb.block _ hs, hW]
    have := heap_alloc_new (w.alloc (.cells #[a, b] T)) (.cells #[x, y] U)
    simpa using this
  refine ⟨⟨?_, ?_, ?_, ?_⟩, ⟨?_, ?_, ?_, ?_⟩, Nat.lt_of_lt_of_le hs hb.size⟩
  all_goals first | (unfold World.cell?; rw [hblk]; rfl) | (unfold World.frozen?; rw [hblk]; rfl) | (unfold World.cell?; rw [hblk2]; rfl) | (unfold World.frozen?; rw [hblk2]; rfl)
theorem below_past2 {w W w1 : World} {o o' : Obj} (hb : Below W.heap.size W w1) (h1 : W.heap = ((w.alloc o).alloc o').heap) (h2 : W.os = w.os) (h3 : W.tape = w.tape) (h4 : W.output = w.output) : Below w.heap.size w w1 := by
  have hs : W.heap.size = w.heap.size + 2 := by rw [h1]; simp
  refine ⟨hb.os.trans h2, hb.tape.trans h3, hb.output.trans h4, by have := hb.size; omega, fun k hk => ?_⟩
  rw [hb.block k (by omega), h1, Below.heap_alloc _ _ _ (by simp; omega), Below.heap_alloc w o k hk]

end Go.Proofs.Ytohcdpoffpnfhaa
/- Keys of names: the plain mathematics. -/
namespace Go.Proofs.Ytohcdpoffpnfhaa
open Go.RowKit

/-- what is compared of a pair -/
def nrm (r : ByteArray × ByteArray) : List UInt8 × List UInt8 := (r.1.data.toList, normL r.2.data.toList)
def sameB (a b : RdnL) : Bool := decide (a.map nrm = b.map nrm)
/-- one pair of a key -/
def rkL (r : ByteArray × ByteArray) : List UInt8 := 1 :: (r.1.data.toList ++ 61 :: normL r.2.data.toList)
def keyL (d : RdnL) : List UInt8 := d.reverse.flatMap rkL
def keyS (d : RdnL) : ByteArray := ⟨(keyL d).toArray⟩

theorem pair_eq (a v a' v' : ByteArray) : ((a.toList == a'.toList) && ((normS v).toList == (normS v').toList)) = decide (nrm (a, v) = nrm (a', v')) := by
  rw [Lib.toList_data, Lib.toList_data, Lib.toList_data, Lib.toList_data, Bool.eq_iff_iff]
  simp [nrm, normS]
/-- bytes of a name, and of a normalized value -/
def cleanR (p : List UInt8 × List UInt8) : Prop := (1 ∉ p.1 ∧ 61 ∉ p.1) ∧ 1 ∉ p.2
theorem name_clean {s : ByteArray} (h : nmL s = true) : 1 ∉ s.data.toList ∧ 61 ∉ s.data.toList := by
  have h1 : allB s.data.toList = true := by unfold nmL at h; simp at h; exact h.2
  unfold allB at h1
  rw [List.all_eq_true] at h1
  constructor
  · intro hm; have := h1 _ hm; revert this; decide
  · intro hm; have := h1 _ hm; revert this; decide
theorem nstep_mem {o : List UInt8} {c x : UInt8} (h : x ∈ nstep o c) : x ∈ o ∨ x = low c := by
  unfold nstep at h
  split at h
  · exact .inl h
  · simpa using h
theorem nfold_mem {l : List UInt8} {x : UInt8} (h : x ∈ nfold l) : ∃ c ∈ l, x = low c := by
  have : ∀ (l o : List UInt8), x ∈ l.foldl nstep o → x ∈ o ∨ ∃ c ∈ l, x = low c := by
    intro l
    induction l with
    | nil => intro o h; exact .inl h
    | cons c l ih =>
      intro o h
      rcases ih _ h with h1 | ⟨d, hd, hx⟩
      · rcases nstep_mem h1 with h2 | h2
        · exact .inl h2
        · exact .inr ⟨c, List.mem_cons_self .., h2⟩
      · exact .inr ⟨d, List.mem_cons_of_mem _ hd, hx⟩
  rcases this l [] h with h1 | h1
  · simp at h1
  · exact h1
theorem chop_mem {o : List UInt8} {x : UInt8} (h : x ∈ chop o) : x ∈ o := by
  unfold chop at h
  split at h
  · exact List.dropLast_subset _ h
  · exact h
/-- the bytes of a normalized text are printable -/
theorem norm_plain (l : List UInt8) : ∀ x ∈ normL l, 32 ≤ x.toNat ∧ x.toNat ≤ 126 := by
  intro x hx
  unfold normL at hx
  split at hx
  · rename_i h
    obtain ⟨c, hc, rfl⟩ := nfold_mem (chop_mem hx)
    have hp := h.2
    unfold plainB at hp
    rw [List.all_eq_true] at hp
    have hp := hp c hc
    simp at hp
    by_cases hcap : 65 ≤ c.toNat ∧ c.toNat ≤ 90
    · have := low_in c hcap; omega
    · rw [low_out c hcap]; omega
  · simp at hx
theorem norm_clean (l : List UInt8) : 1 ∉ normL l := by
  intro h
  have := norm_plain l _ h
  revert this; decide
theorem clean_of {d : RdnL} (h : d.all rdnB = true) : ∀ p ∈ d.map nrm, cleanR p := by
  intro p hp
  obtain ⟨r, hr, rfl⟩ := List.mem_map.1 hp
  rw [List.all_eq_true] at h
  have := h r hr
  unfold rdnB at this
  simp at this
  exact ⟨name_clean this.1, norm_clean _⟩
def rkP (p : List UInt8 × List UInt8) : List UInt8 := 1 :: (p.1 ++ 61 :: p.2)
theorem split_at {c : UInt8} : ∀ {a b x y : List UInt8}, c ∉ a → c ∉ b → a ++ c :: x = b ++ c :: y → a = b ∧ x = y
  | [], [], _, _, _, _, h => ⟨rfl, by simpa using h⟩
  | [], b0 :: b, _, _, _, hb, h => by
    simp at h; exact absurd h.1.symm (fun e => hb (by simp [e]))
  | a0 :: a, [], _, _, ha, _, h => by
    simp at h; exact absurd h.1 (fun e => ha (by simp [e]))
  | a0 :: a, b0 :: b, x, y, ha, hb, h => by
    simp at h
    obtain ⟨h1, h2⟩ := h
    have := split_at (c := c) (fun e => ha (by simp [e])) (fun e => hb (by simp [e])) h2
    exact ⟨by rw [h1, this.1], this.2⟩
/-- of two lists of pairs with one key -/
theorem key_inj : ∀ (a b : List (List UInt8 × List UInt8)), (∀ p ∈ a, cleanR p) → (∀ p ∈ b, cleanR p) → a.flatMap rkP = b.flatMap rkP → a = b
  | [], [], _, _, _ => rfl
  | [], q :: b, _, _, h => by simp [rkP] at h
  | p :: a, [], _, _, h => by simp [rkP] at h
  | p :: a, q :: b, ha, hb, h => by
    have hp := ha p (List.mem_cons_self ..)
    have hq := hb q (List.mem_cons_self ..)
    have ha' : ∀ x ∈ a, cleanR x := fun x hx => ha x (List.mem_cons_of_mem _ hx)
    have hb' : ∀ x ∈ b, cleanR x := fun x hx => hb x (List.mem_cons_of_mem _ hx)
    simp only [List.flatMap_cons, rkP, List.cons_append, List.cons.injEq, true_and, List.append_assoc] at h
    obtain ⟨e1, h2⟩ := split_at (c := 61) hp.1.2 hq.1.2 h
    have tail : ∀ (l : List (List UInt8 × List UInt8)), l.flatMap rkP = [] ∨ ∃ t, l.flatMap rkP = 1 :: t := by
      intro l
      cases l with
      | nil => exact .inl rfl
      | cons r l => exact .inr ⟨_, rfl⟩
    have h3 : p.2 = q.2 ∧ a.flatMap rkP = b.flatMap rkP := by
      have h2' : p.2 ++ a.flatMap rkP = q.2 ++ b.flatMap rkP := h2
      rcases tail a with ea | ⟨s, ea⟩ <;> rcases tail b with eb | ⟨t, eb⟩
      · rw [ea, eb] at h2' ⊢; simpa using h2'
      · rw [ea, eb] at h2'
        exact absurd (show (1 : UInt8) ∈ p.2 by rw [show p.2 = q.2 ++ 1 :: t by simpa using h2']; simp) hp.2
      · rw [ea, eb] at h2'
        exact absurd (show (1 : UInt8) ∈ q.2 by rw [show q.2 = p.2 ++ 1 :: s by simpa using h2'.symm]; simp) hq.2
      · rw [ea, eb] at h2' ⊢
        obtain ⟨x, y⟩ := split_at (c := 1) hp.2 hq.2 h2'
        exact ⟨x, by rw [y]⟩
    have := key_inj a b ha' hb' h3.2
    rw [this, Prod.ext e1 h3.1]
theorem keyL_map (d : RdnL) : keyL d = (d.map nrm).reverse.flatMap rkP := by
  unfold keyL
  rw [← List.map_reverse, List.flatMap_map]; rfl
theorem key_same {a b : RdnL} (ha : a.all rdnB = true) (hb : b.all rdnB = true) : ((keyS a).toList == (keyS b).toList) = sameB a b := by
  rw [Lib.toList_data, Lib.toList_data, Bool.eq_iff_iff]
  simp only [beq_iff_eq, sameB, decide_eq_true_eq]
  show keyL a = keyL b ↔ _
  constructor
  · intro h
    rw [keyL_map, keyL_map] at h
    have := key_inj _ _ (fun p hp => clean_of ha p (by simpa using hp)) (fun p hp => clean_of hb p (by simpa using hp)) h
    simpa using this
  · intro h; rw [keyL_map, keyL_map, h]
theorem keyL_take (d : RdnL) (k : Nat) (h : k < d.length) : keyL (d.take (k + 1)) = rkL d[k] ++ keyL (d.take k) := by
  unfold keyL
  rw [List.take_succ_eq_append_getElem h, List.reverse_append, List.flatMap_append]; simp
theorem keyL_drop (d : RdnL) (k : Nat) (h : k < d.length) : keyL (d.drop k) = keyL (d.drop (k + 1)) ++ rkL d[k] := by
  unfold keyL
  rw [List.drop_eq_getElem_cons h, List.reverse_cons, List.flatMap_append]; simp
theorem rk_len (r : ByteArray × ByteArray) (h : r.1.size ≤ 1048576) : (rkL r).length ≤ 1048678 := by
  have := normL_len r.2.data.toList
  unfold rkL
  simp only [List.length_cons, List.length_append, size_len]; omega
theorem keyL_len (d : RdnL) (h : ∀ r ∈ d, r.1.size ≤ 1048576) : (keyL d).length ≤ d.length * 1048678 := by
  induction d with
  | nil => simp [keyL]
  | cons r d ih =>
    have h1 := ih (fun x hx => h x (List.mem_cons_of_mem _ hx))
    have h2 := rk_len r (h r (List.mem_cons_self ..))
    have e : keyL (r :: d) = keyL d ++ rkL r := by unfold keyL; simp
    rw [e, List.length_append, List.length_cons, Nat.add_mul]; omega
theorem keyS_small (d : RdnL) (h : Fits d) (h6 : d.length ≤ 6) : (keyS d).size ≤ 7000000 := by
  have := keyL_len d (fun r hr => (h.2 r hr).1)
  have e : (keyS d).size = (keyL d).length := rfl
  rw [e]; omega
theorem Fits.small {d : RdnL} (h : Fits d) {k : Nat} (hk : k < d.length) : d[k].1.size ≤ 1048576 ∧ d[k].2.size ≤ 1048576 := h.2 _ (List.getElem_mem hk)
theorem Fits.take {d : RdnL} (h : Fits d) (k : Nat) : Fits (d.take k) := ⟨by have := h.1; simp; omega, fun r hr => h.2 r (List.mem_of_mem_take hr)⟩
theorem Fits.drop {d : RdnL} (h : Fits d) (k : Nat) : Fits (d.drop k) := ⟨by have := h.1; simp; omega, fun r hr => h.2 r (List.mem_of_mem_drop hr)⟩
theorem normS_size (s : ByteArray) : (normS s).size ≤ 100 := by have := normL_len s.data.toList; exact this
end Go.Proofs.Ytohcdpoffpnfhaa
/- Sameness and keys of names: what the texts return. -/
namespace Go.Proofs.Ytohcdpoffpnfhaa
open Go.RowKit
attribute [local go_sem ↓] Go.wp_at_zero Go.wp_at_succ

theorem map_take_succ {α β : Type} (f : α → β) (l : List α) (k : Nat) (h : k < l.length) : (l.take (k + 1)).map f = (l.take k).map f ++ [f l[k]] := by
  rw [List.take_succ_eq_append_getElem h, List.map_append]; rfl
theorem same_len {a b : RdnL} (h : a.length ≠ b.length) : sameB a b = false := by
  unfold sameB
  rw [decide_eq_false_iff_not]
  intro e
  have := congrArg List.length e
  simp at this; exact h this
theorem same_bad {a b : RdnL} {k : Nat} (ha : k < a.length) (hb : k < b.length) (h : nrm a[k] ≠ nrm b[k]) : sameB a b = false := by
  unfold sameB
  rw [decide_eq_false_iff_not]
  intro e
  apply h
  have : (a.map nrm)[k]? = (b.map nrm)[k]? := by rw [e]
  rw [List.getElem?_map, List.getElem?_map, List.getElem?_eq_getElem ha, List.getElem?_eq_getElem hb] at this
  simpa using this

def dnSameB (a b : RdnL) : Bool := dnB a && dnB b && sameB a b
end Go.Proofs.Ytohcdpoffpnfhaa
/- Keys of names, and what is under what: what the texts return. -/
namespace Go.Proofs.Ytohcdpoffpnfhaa
open Go.RowKit
attribute [local go_sem ↓] Go.wp_at_zero Go.wp_at_succ

theorem keyS_drop (d : RdnL) (k : Nat) (h : k < d.length) : keyS (d.drop k) = keyS (d.drop (k + 1)) ++ ⟨#[1]⟩ ++ d[k].1 ++ ⟨#[61]⟩ ++ normS d[k].2 := by
  unfold keyS
  rw [keyL_drop d k h]
  apply ByteArray.ext
  simp [rkL, normS]
theorem keyS_take (d : RdnL) (k : Nat) (h : k < d.length) : keyS (d.take (k + 1)) = ⟨#[1]⟩ ++ d[k].1 ++ ⟨#[61]⟩ ++ normS d[k].2 ++ keyS (d.take k) := by
  unfold keyS
  rw [keyL_take d k h]
  apply ByteArray.ext
  simp [rkL, normS]

def dnKeyS (d : RdnL) : ByteArray := if dnB d = true then keyS d else ByteArray.empty
theorem dnKey_yes {d : RdnL} (h : dnB d = true) : dnKeyS d = keyS d := by unfold dnKeyS; rw [if_pos h]
theorem dnKey_no {d : RdnL} (h : dnB d = false) : dnKeyS d = ByteArray.empty := by unfold dnKeyS; rw [h]; rfl

end Go.Proofs.Ytohcdpoffpnfhaa
/- What is the same, and what is under what: what the texts return. -/
namespace Go.Proofs.Ytohcdpoffpnfhaa
open Go.RowKit

theorem dnB_all_of {d : RdnL} (h : dnB d = true) : d.all rdnB = true := by unfold dnB at h; simp only [Bool.and_eq_true] at h; exact h.2
theorem same_no {a b : RdnL} (h : dnB a = false ∨ dnB b = false) : dnSameB a b = false := by
  unfold dnSameB; rcases h with h | h <;> rw [h] <;> simp
theorem same_yes {a b : RdnL} (h1 : dnB a = true) (h2 : dnB b = true) : dnSameB a b = ((keyS a).toList == (keyS b).toList) := by
  unfold dnSameB; rw [h1, h2, key_same (dnB_all_of h1) (dnB_all_of h2)]; simp
def underB (d b : RdnL) : Bool := dnB d && dnB b && decide (b.length ≤ d.length) && sameB (d.drop (d.length - b.length)) b
theorem under_no {d b : RdnL} (h : dnB d = false ∨ dnB b = false ∨ d.length < b.length) : underB d b = false := by
  unfold underB; rcases h with h | h | h
  · rw [h]; simp
  · rw [h]; simp
  · have : decide (b.length ≤ d.length) = false := decide_eq_false (by omega)
    rw [this]; simp
theorem under_yes {d b : RdnL} (h1 : dnB d = true) (h2 : dnB b = true) (h3 : b.length ≤ d.length) : underB d b = sameB (d.drop (d.length - b.length)) b := by
  unfold underB; rw [h1, h2]; simp [h3]
theorem dnB_drop {d : RdnL} (h : dnB d = true) (k : Nat) : dnB (d.drop k) = true := by
  have h1 := dnB_six h
  have h2 := dnB_all_of h
  unfold dnB
  rw [Bool.and_eq_true]
  refine ⟨decide_eq_true (by rw [List.length_drop]; omega), ?_⟩
  rw [List.all_eq_true] at h2 ⊢
  exact fun x hx => h2 x (List.mem_of_mem_drop hx)
end Go.Proofs.Ytohcdpoffpnfhaa
/- DnParent and DnJoin: what the texts of the program and of the specification return. -/
namespace Go.Proofs.Ytohcdpoffpnfhaa
open Go.RowKit
attribute [local go_sem ↓] Go.wp_at_zero Go.wp_at_succ

theorem own_mono {w : World} {B B' e z n : Nat} {v : Value} {xs : List Value} (h : w.ownsRow B e z v n xs) (hB : B' ≤ B) : w.ownsRow B' e z v n xs := by
  refine ⟨h.1, ?_⟩
  rcases h.2 with h | ⟨g, cap, cur, h1, h2, h3⟩
  · exact .inl h
  · exact .inr ⟨g, cap, cur, h1, Nat.le_trans hB h2, h3⟩
theorem dn_cells {w : World} {b off : Nat} {d : RdnL} (h : DnAt w (some ⟨b, off, none⟩) d) : ∀ j u, (rs d)[j]? = some u → w.cell? ((⟨b, off, none⟩ : Addr).add j) = some u := by
  intro j u hu
  have hj : j < (rs d).length := by
    rcases Nat.lt_or_ge j (rs d).length with h | h
    · exact h
    · rw [List.getElem?_eq_none h] at hu; cases hu
  rw [rs_length] at hj
  obtain ⟨b', off', e, _, c1, c2⟩ := h.at (k := j / 2) (by omega)
  cases e
  have ea : (⟨b, off, none⟩ : Addr).add j = ⟨b, off + j, none⟩ := by unfold Addr.add; split <;> simp_all
  rw [ea]
  have hg := rs_get d (j / 2) (by omega)
  rcases Nat.mod_two_eq_zero_or_one j with hm | hm
  · have ej : j = j / 2 * 2 := by omega
    rw [ej] at hu ⊢
    rw [hg.1] at hu
    rw [← hu]; exact c1
  · have ej : j = j / 2 * 2 + 1 := by omega
    rw [ej] at hu ⊢
    rw [hg.2] at hu
    rw [← hu, ← Nat.add_assoc]; exact c2
theorem rs_one (d : RdnL) : ∀ u ∈ rs d, u.oneCell' = true := by
  intro u hu
  unfold rs at hu
  rw [List.mem_flatMap] at hu
  obtain ⟨r, _, hr⟩ := hu
  simp at hr
  rcases hr with rfl | rfl <;> rfl
theorem rs_append (a b : RdnL) : rs (a ++ b) = rs a ++ rs b := by unfold rs; rw [List.flatMap_append]
def parentL (d : RdnL) : RdnL := if dnB d = true then d.drop 1 else []
theorem parent_no {d : RdnL} (h : dnB d = false ∨ d.length = 0) : parentL d = [] := by
  unfold parentL
  rcases h with h | h
  · rw [h]; rfl
  · rw [List.length_eq_zero_iff.1 h]; simp
theorem parent_yes {d : RdnL} (h : dnB d = true) : parentL d = d.drop 1 := by unfold parentL; rw [if_pos h]
end Go.Proofs.Ytohcdpoffpnfhaa
/- The helpers of the laws: sizes, copies, comparisons. -/
namespace Go.Proofs.Ytohcdpoffpnfhaa
open Go.RowKit
attribute [local go_sem ↓] Go.wp_at_zero Go.wp_at_succ

/-- all its strings are strings of Go -/
def Long (d : RdnL) : Prop := d.length ≤ 9223372036854775807 ∧ ∀ r ∈ d, r.1.size ≤ maxLen ∧ r.2.size ≤ maxLen
def sizeR (r : ByteArray × ByteArray) : Nat := r.1.size + r.2.size
def sizeS (d : RdnL) : Nat := (d.map sizeR).sum
theorem sizeS_take (d : RdnL) (k : Nat) (h : k < d.length) : sizeS (d.take (k + 1)) = sizeS (d.take k) + sizeR d[k] := by
  unfold sizeS; rw [List.take_succ_eq_append_getElem h, List.map_append, List.sum_append]; simp
theorem sizeS_le (d : RdnL) (k : Nat) : sizeS (d.take k) ≤ sizeS d := by
  have h := List.take_append_drop k d
  have : sizeS d = sizeS (d.take k) + sizeS (d.drop k) := by
    unfold sizeS; rw [← List.sum_append, ← List.map_append, h]
  omega
theorem sizeS_mem {d : RdnL} {r : ByteArray × ByteArray} (h : r ∈ d) : sizeR r ≤ sizeS d := by
  induction d with
  | nil => simp at h
  | cons x d ih =>
    have e : sizeS (x :: d) = sizeR x + sizeS d := by unfold sizeS; simp
    rw [e]
    rw [List.mem_cons] at h
    rcases h with rfl | h
    · omega
    · have := ih h; omega
theorem fits_of {d : RdnL} (h : d.length + sizeS d ≤ 1048576) : Fits d :=
  ⟨by omega, fun r hr => by have := sizeS_mem hr; unfold sizeR at this; omega⟩
end Go.Proofs.Ytohcdpoffpnfhaa
/- The helpers of the laws: copies of names, comparisons. -/
namespace Go.Proofs.Ytohcdpoffpnfhaa
open Go.RowKit
attribute [local go_sem ↓] Go.wp_at_zero Go.wp_at_succ

theorem take_set2 {C : Array Value} {k : Nat} {d : RdnL} {a b : Value} (hk : k * 2 + 1 < C.size) (hC : C.toList.take (k * 2) = rs d) (hl : d.length = k) :
    (((C.setIfInBounds (k * 2) a).setIfInBounds (k * 2 + 1) b).toList).take ((k + 1) * 2) = rs d ++ [a, b] := by
  have hL : (rs d).length = k * 2 := by rw [rs_length, hl]
  apply List.ext_getElem?
  intro i
  rw [List.getElem?_take]
  by_cases h1 : i < (k + 1) * 2
  · rw [if_pos h1, Array.getElem?_toList, Array.getElem?_setIfInBounds, Array.getElem?_setIfInBounds]
    by_cases h2 : i = k * 2 + 1
    · subst h2
      rw [if_pos rfl, if_pos (by simpa using hk), List.getElem?_append_right (by omega), hL]
      simp
    · rw [if_neg (fun e => h2 e.symm)]
      by_cases h3 : i = k * 2
      · subst h3
        rw [if_pos rfl, if_pos (by omega), List.getElem?_append_right (by omega), hL]
        simp
      · rw [if_neg (fun e => h3 e.symm), List.getElem?_append_left (by omega), ← hC, List.getElem?_take, if_pos (by omega), Array.getElem?_toList]
  · rw [if_neg h1, List.getElem?_eq_none (by simp; omega)]
end Go.Proofs.Ytohcdpoffpnfhaa
/- The helpers of the laws: marks. -/
namespace Go.Proofs.Ytohcdpoffpnfhaa
open Go.RowKit
attribute [local go_sem ↓] Go.wp_at_zero Go.wp_at_succ

theorem toS_list (l : List UInt8) : (toS l).data.toList = l := by simp [toS]
theorem toS_size (l : List UInt8) : (toS l).size = l.length := by rw [← size_len, toS_list]
theorem one_str (W : World) (n : Nat) (hn : n < 256) :
    (convert 44 9 (.slice (some ⟨W.heap.size, 0, none⟩) 1 1)).run Try.prog (W.alloc (.cells #[.int .u8 (n : Int)] 5)) = .ok (.string ⟨#[UInt8.ofNat n]⟩) (W.alloc (.cells #[.int .u8 (n : Int)] 5)) := by
  refine str22 _ ⟨W.heap.size, 0, none⟩ 1 [UInt8.ofNat n] 1 rfl fun j hj => ?_
  match j, hj with
  | 0, _ =>
    rw [add_plain, World.cell?_alloc_mark]
    simp; omega
set_option maxRecDepth 100000 in
set_option maxHeartbeats 1000000 in
theorem markText_any (n : Nat) (w : World) (h0 : 0 < n) (hn : n ≤ 1000000000) :
    Calls Try.prog 56 #[.int .i64 n] w fun e w' => e = .returned (.string (mkT n)) ∧ Below w.heap.size w w' := by
  go_enter Try.func56, Try.ntmps56
  go_wp2
  go_loopw [0, 3] (fun t u wr => ∃ (f k : Nat) (o : List UInt8), k ≤ n ∧ t = .int .i64 k ∧ u = .string (toS o) ∧ digs 20 n [] = digs f k o ∧ k < 10 ^ f ∧ f ≤ 20 ∧ o.length + f ≤ 20 ∧ Below w.heap.size w wr) (fun t _ _ => (intOf t).toNat)
  case atStart => exact ⟨20, n, [], Nat.le_refl _, rfl, rfl, rfl, by omega, by omega, by simp, Below.refl _ _⟩
  case round =>
    obtain ⟨f, k, o, hk, rfl, rfl, hD, hf, hf2, ho, hbel⟩ := hrel
    have HD := Lib.hid hD; clear hD
    have hsz := hbel.size
    by_cases hk0 : 0 < k
    · obtain ⟨g, rfl⟩ : ∃ g, f = g + 1 := ⟨f - 1, by
        rcases f with _ | f
        · simp at hf; omega
        · simp⟩
      have HN : Hid (digs 20 n [] = digs g (k / 10) (UInt8.ofNat (48 + k % 10) :: o)) := Lib.hid (by rw [HD.out, digs, if_neg (by omega)])
      have HF : Hid (k / 10 < 10 ^ g) := Lib.hid (by rw [Nat.pow_succ] at hf; omega)
      have HC : Hid ((⟨#[UInt8.ofNat (48 + k % 10)]⟩ : ByteArray) ++ toS o = toS (UInt8.ofNat (48 + k % 10) :: o)) := Lib.hid (by apply ByteArray.ext; simp [toS])
      clear hf
      have hos : (toS o).size ≤ 20 := by rw [toS_size]; omega
      have hcv := one_str wr (48 + k % 10) (by omega)
      have hca := cat ⟨#[UInt8.ofNat (48 + k % 10)]⟩ (toS o) (by rw [sz1]; omega)
      have e1 : ((48 + k % 10 : Nat) : Int) = 48 + (k : Int) % 10 := by omega
      rw [e1] at hcv
      clear e1
      generalize UInt8.ofNat (48 + k % 10) = c at *
      go_wp2
      refine ⟨⟨g, k / 10, c :: o, by omega, by go_num, by rw [HC.out], HN.out, HF.out, by omega, by simp only [List.length_cons]; omega, more hbel _⟩, ?_⟩
      simp [intOf]; omega
    · have HE : Hid (⟨#[109]⟩ ++ toS o = mkT n) := Lib.hid (by
        have e : k = 0 := by omega
        subst e
        have : digs f 0 o = o := by cases f <;> simp [digs]
        unfold mkT mkL
        rw [HD.out, this]
        apply ByteArray.ext; simp [toS])
      have hos : (toS o).size ≤ 20 := by rw [toS_size]; omega
      have hca := cat ⟨#[109]⟩ (toS o) (by rw [sz1]; omega)
      go_wp2
      go_ret
      exact ⟨ret_str HE.out, hbel⟩
/-- n pairs of marks, from k on -/
def marks : Nat → Nat → RdnL
  | _, 0 => []
  | k, n + 1 => marks k n ++ [(mkT (k + 2 * n), mkT (k + 2 * n + 1))]
theorem marks_len (k n : Nat) : (marks k n).length = n := by
  induction n with
  | zero => rfl
  | succ n ih => rw [marks, List.length_append, ih]; rfl
theorem marks_get (k n i : Nat) (h : i < n) (h' : i < (marks k n).length) : (marks k n)[i] = (mkT (k + 2 * i), mkT (k + 2 * i + 1)) := by
  induction n with
  | zero => omega
  | succ n ih =>
    have hl := marks_len k n
    simp only [marks]
    by_cases e : i < n
    · rw [List.getElem_append_left (by omega)]; exact ih e (by omega)
    · have : i = n := by omega
      subst this
      rw [List.getElem_append_right (by omega)]
      simp [hl]
end Go.Proofs.Ytohcdpoffpnfhaa
/- The helpers of the laws: marks laid into a name, and found there again. -/
namespace Go.Proofs.Ytohcdpoffpnfhaa
open Go.RowKit
attribute [local go_sem ↓] Go.wp_at_zero Go.wp_at_succ

theorem grown_of {a b : World} (h : Below a.heap.size a b) (row : Option Nat) : a.grownBy b row := ⟨h.os, h.tape, h.output, h.size, fun k hk _ => h.block k hk⟩
theorem grown_tr {a b c : World} {r : Option Nat} (h : a.grownBy b r) (g : b.grownBy c r) : a.grownBy c r :=
  ⟨g.os.trans h.os, g.tape.trans h.tape, g.output.trans h.output, Nat.le_trans h.size g.size, fun k hk hne => (g.block k (Nat.lt_of_lt_of_le hk h.size) hne).trans (h.block k hk hne)⟩
theorem markText_from (w0 : World) (n : Nat) (w : World) (h0 : 0 < n) (hn : n ≤ 1000000000) (hB : Below w0.heap.size w0 w) :
    Calls Try.prog 56 #[.int .i64 n] w fun e w' => e = .returned (.string (mkT n)) ∧ Below w0.heap.size w0 w' :=
  (markText_any n w h0 hn).mono fun _ _ ⟨he, hb⟩ => ⟨he, hB.trans (hb.mono hB.size)⟩
end Go.Proofs.Ytohcdpoffpnfhaa
/- The helpers of the laws: marks. -/
namespace Go.Proofs.Ytohcdpoffpnfhaa
open Go.RowKit
attribute [local go_sem ↓] Go.wp_at_zero Go.wp_at_succ

set_option maxRecDepth 100000 in
set_option maxHeartbeats 4000000 in
theorem markTlvS_at {S : Bs} (v : Value) (d : List TlvT) (k : Nat) (w : World) (h : SlOwn tlvE S w d v) (hl : d.length ≤ 1048576) (hz : szL tlvE d ≤ 1048576) (hk1 : 0 < k) (hk2 : k + cntL tlvE d ≤ 1000000000) :
    Calls Try.prog 41 #[v, .int .i64 k] w fun e w' => e = .returned (.int .i64 ((k + cntL tlvE d : Nat) : Int)) ∧ SlOwn tlvE S w' (mkAll tlvE k d) v ∧ Turn S w w' := by
  obtain ⟨ao, cap, rfl⟩ := h.at.sl
  have HS := Lib.hid h; clear h
  have HTx : Hid (∀ (X : World) (m : Nat) (q : Int), q = (m : Int) → 0 < m → m ≤ 1000000000 → Calls Try.prog 56 #[.int .i64 q] X fun e w' => e = .returned (.string (mkT m)) ∧ Below X.heap.size X w') := Lib.hid (fun X m q e h1 h2 => by subst e; exact markText_any m X h1 h2)
  go_enter Try.func41, Try.ntmps41
  go_wp2
  go_loopw [1, 5] (fun t i wr => ∃ j : Nat, j ≤ d.length ∧ i = .int .i64 j ∧ t = .int .i64 ((k + cntL tlvE (d.take j) : Nat) : Int) ∧ SlOwn tlvE S wr (mkTo tlvE k d j) (.slice ao d.length cap) ∧ Turn S w wr) (fun _ i _ => d.length - (intOf i).toNat)
  case atStart => exact ⟨0, Nat.zero_le _, rfl, by simp [cntL], by rw [mkTo_zero]; exact HS.out, Turn.refl _ _⟩
  case round =>
    obtain ⟨j, hj, rfl, rfl, hO, hT⟩ := hrel
    have HO := Lib.hid hO; have HT := Lib.hid hT; clear hO hT
    have hcl := cntL_take_le tlvE d j
    by_cases hlt : j < d.length
    · obtain ⟨g, Sr, cs, rfl, hcap, hSg, hSr, hSub, hR, hrow, hown⟩ := mk_open HO.out hlt
      have HCs := Lib.hid (cntL_take tlvE d j hlt)
      have hcs : cntL tlvE (d.take j) + (tlvE).cnt d[j] ≤ cntL tlvE d := by have := cntL_take_le tlvE d (j + 1); rw [HCs.out] at this; exact this
      obtain ⟨a0, a1, hx, rfl, _⟩ := tlv_own hown
      rw [hx] at hcs
      have hct : (tlvE).cnt (a0, a1) = 1 + (1) := rfl
      rw [hct] at hcs
      have HX := Lib.hid hx
      clear hx hown
      have HR0 := Lib.hid hR; have HW0 := Lib.hid hrow; have HT0 := HT; clear hR hrow
      generalize hc : cntL tlvE (d.take j) = c at *
      have Hc := Lib.hid hc; clear hc
      have g1 : (0 : Int) ≤ (j : Int) := by omega
      have g2 : (j : Int) < (d.length : Int) := by omega
      have c0 := HW0.out.cells 0 (by simp)
      have c0 : wr.cell? ⟨g, j * 2, none⟩ = some (.int .i64 a0) := c0
      have f0 : wr.frozen? ⟨g, j * 2, none⟩ = false := HW0.out.soft _
      have c1 := HW0.out.cells 1 (by simp)
      have c1 : wr.cell? ⟨g, j * 2 + 1, none⟩ = some (.string a1) := c1
      have f1 : wr.frozen? ⟨g, j * 2 + 1, none⟩ = false := HW0.out.soft _
      go_wp2_with fail
      refine calls_by (fun W => (∃ cs : List Value, RowAt W g (j * (tlvE).n) cs ∧ cs = [.int .i64 ((k + c : Nat) : Int), .string a1]) ∧ Rest tlvE S W (mkTo tlvE k d j) g j Sr ∧ Turn S w W) ⟨⟨_, (HW0.out.store (j := 0) (by simp) _), by simp only [List.set_cons_zero, List.set_cons_succ, List.cons.injEq, Value.int.injEq, Value.bool.injEq, true_and, and_true] <;> omega⟩, (HR0.out.store (u := 0) (by decide) _), (HT0.out.trans (Turn.store _ _ _ hSg))⟩ ?_
      try clear c0; try clear f0; try clear c1; try clear f1
      clear HR0 HW0 HT0 
      rintro X1 ⟨⟨cs, hw, rfl⟩, hr, ht⟩
      have HW0 := Lib.hid hw; have HR0 := Lib.hid hr; have HT0 := Lib.hid ht; clear hw hr ht
      refine (HTx.out X1 (k + c + 1) _ (by omega) (by omega) (by omega)).mono ?_
      rintro e X2 ⟨rfl, hb⟩
      have HW1 := Lib.hid (HW0.out.same (hb.block _ HW0.out.lt)); have HR1 := Lib.hid (HR0.out.turn (by rw [mkTo_length _ _ _ hj]; exact hlt) (Turn.of_below hb)); have HT1 := Lib.hid (HT0.out.trans (Turn.of_below hb))
      clear hb HW0 HR0 HT0 
      have HW0 := HW1; have HR0 := HR1; have HT0 := HT1; clear HW1 HR1 HT1
      have c0 := HW0.out.cells 0 (by simp)
      have c0 : X2.cell? ⟨g, j * 2, none⟩ = some (.int .i64 ((k + c : Nat) : Int)) := c0
      have f0 : X2.frozen? ⟨g, j * 2, none⟩ = false := HW0.out.soft _
      have c1 := HW0.out.cells 1 (by simp)
      have c1 : X2.cell? ⟨g, j * 2 + 1, none⟩ = some (.string a1) := c1
      have f1 : X2.frozen? ⟨g, j * 2 + 1, none⟩ = false := HW0.out.soft _
      go_wp2
      go_roundw
      case rel =>
        refine ⟨j + 1, by omega, by go_num, ?_, mk_close (cs := [.int .i64 ((k + c : Nat) : Int), .string (mkT (k + c + 1))]) (HR0.out.store (u := 1) (by decide) _) hlt hcap (RowAt.cong (HW0.out.store (j := 1) (by simp) _) ?_) ?_, (HT0.out.trans (Turn.store _ _ _ hSg))⟩
        · rw [HCs.out, HX.out, hct]; first | (congr 1; done) | (congr 1; omega)
        · simp only [List.set_cons_zero, List.set_cons_succ, List.cons.injEq, Value.int.injEq, Value.bool.injEq, true_and, and_true]
          first | done | omega | (refine ⟨?_, ?_⟩ <;> first | omega | (rw [Bool.eq_iff_iff]; simp; omega)) | (rw [Bool.eq_iff_iff]; simp; omega)
        · rw [Hc.out, HX.out]
          exact tlv_pack ((k + c : Nat) : Int) (mkT (k + c + 1))   trivial
      case measure => simp [intOf]; omega
    · have e : j = d.length := by omega
      subst e
      have HOO : Hid (SlOwn tlvE S wr (mkAll tlvE k d) (.slice ao d.length cap)) := Lib.hid (by have := HO.out; rw [mkTo_all] at this; exact this)
      have hce : cntL tlvE (d.take d.length) = cntL tlvE d := by rw [List.take_length]
      rw [hce]
      go_wp2
      go_ret
      exact ⟨rfl, HOO.out, HT.out⟩
end Go.Proofs.Ytohcdpoffpnfhaa
