/- Unseal: what the specification's text returns; the comparison of two results. -/
import Derived.Test.YtifcplmgdndmhaaUnseal
import Derived.IntWalk
namespace Go.Proofs.Ytifcplmgdndmhaa
open Go.RowKit

theorem beq_flip (a b : List UInt8) (c : Bool) (h : (a == b) = c) : (b == a) = c := by rw [← h]; exact BEq.comm

set_option maxRecDepth 100000 in
set_option maxHeartbeats 1000000 in
theorem SpecUnseal_ok (s : ByteArray) (w : World) (h1 : s.size ≤ 8000) (h2 : 4 ≤ s.size) (hq : ((s.extract (s.size - 4) s.size).toList == (sumS (s.extract 0 (s.size - 4))).toList) = true) :
    Calls Try.prog 27 #[.string s] w fun e w' => e = .returned (.agg #[.string (s.extract 0 (s.size - 4)), .int .i64 0, .int .i64 0]) ∧ Below w.heap.size w w' := by
  have hq' := beq_flip _ _ _ hq
  clear hq
  have HX : Hid ((s.extract 0 (s.size - 4)).size ≤ 8000) := Lib.hid (by simp; omega)
  go_enter Try.func27, Try.ntmps27
  go_wp2
  have g1 : (0 : Int) ≤ (s.size : Int) - 4 := by omega
  have g2 : (s.size : Int) - 4 ≤ (s.size : Int) := by omega
  have g3 : ((s.size : Int) - 4).toNat = s.size - 4 := by omega
  have g4 : IntKind.i64.wrap ((s.size : Int) - 4) = (s.size : Int) - 4 := IntWalk.i64_in _ (by omega)
  go_region_with (first | (go_at_call 36; refine (l01Crc_zero _ _ HX.out).mono ?_; rintro e w' ⟨rfl, rfl⟩) | (go_at_call 35; refine (l01Four_of _ _).mono ?_; rintro e w1 ⟨rfl, hb1⟩))
  clear g1 g2 g3 g4
  obtain ⟨⟨c0, c1, c2⟩, ⟨f0, f1, f2⟩, hz1⟩ := keep3 hb1 rfl
  have HB := Lib.hid (below_past hb1 rfl rfl rfl rfl)
  clear hb1
  go_wp2
  refine bodyPost_ret (v := .agg #[.string (s.extract 0 (s.size - 4)), .int .i64 0, .int .i64 0]) (by simp [results, Try.results27, go_sem, c0, c1, c2]) rfl ⟨rfl, ?_⟩
  exact ((HB.out.setCell (Nat.le_refl _) _).setCell (Nat.le_refl _) _).setCell (Nat.le_refl _) _
set_option maxRecDepth 100000 in
set_option maxHeartbeats 1000000 in
theorem SpecUnseal_bad (s : ByteArray) (w : World) (h1 : s.size ≤ 8000) (h2 : 4 ≤ s.size) (hq : ((s.extract (s.size - 4) s.size).toList == (sumS (s.extract 0 (s.size - 4))).toList) = false) :
    Calls Try.prog 27 #[.string s] w fun e w' => e = .returned (.agg #[.string ByteArray.empty, .int .i64 0, .int .i64 5]) ∧ Below w.heap.size w w' := by
  have hq' := beq_flip _ _ _ hq
  clear hq
  have HX : Hid ((s.extract 0 (s.size - 4)).size ≤ 8000) := Lib.hid (by simp; omega)
  go_enter Try.func27, Try.ntmps27
  go_wp2
  have g1 : (0 : Int) ≤ (s.size : Int) - 4 := by omega
  have g2 : (s.size : Int) - 4 ≤ (s.size : Int) := by omega
  have g3 : ((s.size : Int) - 4).toNat = s.size - 4 := by omega
  have g4 : IntKind.i64.wrap ((s.size : Int) - 4) = (s.size : Int) - 4 := IntWalk.i64_in _ (by omega)
  go_region_with (first | (go_at_call 36; refine (l01Crc_zero _ _ HX.out).mono ?_; rintro e w' ⟨rfl, rfl⟩) | (go_at_call 35; refine (l01Four_of _ _).mono ?_; rintro e w1 ⟨rfl, hb1⟩))
  clear g1 g2 g3 g4
  obtain ⟨⟨c0, c1, c2⟩, ⟨f0, f1, f2⟩, hz1⟩ := keep3 hb1 rfl
  have HB := Lib.hid (below_past hb1 rfl rfl rfl rfl)
  clear hb1
  go_wp2
  refine bodyPost_ret (v := .agg #[.string ByteArray.empty, .int .i64 0, .int .i64 5]) (by simp [results, Try.results27, go_sem, c0, c1, c2]; rfl) rfl ⟨rfl, ?_⟩
  exact ((HB.out.setCell (Nat.le_refl _) _).setCell (Nat.le_refl _) _).setCell (Nat.le_refl _) _
set_option maxHeartbeats 400000 in
theorem SpecUnseal_short (s : ByteArray) (w : World) (h2 : s.size < 4) :
    Calls Try.prog 27 #[.string s] w fun e w' => e = .returned (.agg #[.string ByteArray.empty, .int .i64 0, .int .i64 4]) ∧ Below w.heap.size w w' := by
  go_enter Try.func27, Try.ntmps27
  go_wp2
  exact bodyPost_ret (v := .agg #[.string ByteArray.empty, .int .i64 0, .int .i64 4]) (by simp [results, Try.results27, go_sem]; rfl) rfl ⟨rfl, (Below.refl _ _).alloc (Nat.le_refl _) _⟩
set_option maxHeartbeats 400000 in
theorem SpecUnseal_long (s : ByteArray) (w : World) (h1 : 8000 < s.size) (hs : s.size ≤ maxLen) :
    Calls Try.prog 27 #[.string s] w fun e w' => e = .returned (.agg #[.string ByteArray.empty, .int .i64 0, .int .i64 2]) ∧ Below w.heap.size w w' := by
  unfold maxLen at hs
  go_enter Try.func27, Try.ntmps27
  go_wp2
  exact bodyPost_ret (v := .agg #[.string ByteArray.empty, .int .i64 0, .int .i64 2]) (by simp [results, Try.results27, go_sem]; rfl) rfl ⟨rfl, (Below.refl _ _).alloc (Nat.le_refl _) _⟩

/-- the text and the code that Unseal returns -/
def unsealT (s : ByteArray) : ByteArray := if 4 ≤ s.size ∧ s.size ≤ 8000 ∧ ((s.extract (s.size - 4) s.size).toList == (sumS (s.extract 0 (s.size - 4))).toList) = true then s.extract 0 (s.size - 4) else ByteArray.empty
def unsealC (s : ByteArray) : Int :=
  if 8000 < s.size then 2 else if s.size < 4 then 4 else if ((s.extract (s.size - 4) s.size).toList == (sumS (s.extract 0 (s.size - 4))).toList) = true then 0 else 5
theorem unseal_cases (s : ByteArray) : (8000 < s.size ∧ unsealT s = ByteArray.empty ∧ unsealC s = 2) ∨ (s.size < 4 ∧ unsealT s = ByteArray.empty ∧ unsealC s = 4) ∨
    (4 ≤ s.size ∧ s.size ≤ 8000 ∧ ((s.extract (s.size - 4) s.size).toList == (sumS (s.extract 0 (s.size - 4))).toList) = true ∧ unsealT s = s.extract 0 (s.size - 4) ∧ unsealC s = 0) ∨
    (4 ≤ s.size ∧ s.size ≤ 8000 ∧ ((s.extract (s.size - 4) s.size).toList == (sumS (s.extract 0 (s.size - 4))).toList) = false ∧ unsealT s = ByteArray.empty ∧ unsealC s = 5) := by
  unfold unsealT unsealC
  by_cases a : 8000 < s.size
  · left; rw [if_pos a, if_neg (by omega)]; exact ⟨a, rfl, rfl⟩
  · by_cases b : s.size < 4
    · right; left; rw [if_neg a, if_pos b, if_neg (by omega)]; exact ⟨b, rfl, rfl⟩
    · right; right
      cases c : ((s.extract (s.size - 4) s.size).toList == (sumS (s.extract 0 (s.size - 4))).toList)
      · right; rw [if_neg a, if_neg b, if_neg (fun h => by simp at h), if_neg (by simp)]; exact ⟨by omega, by omega, rfl, rfl, rfl⟩
      · left; rw [if_neg a, if_neg b, if_pos rfl, if_pos ⟨by omega, by omega, rfl⟩]; exact ⟨by omega, by omega, rfl, rfl, rfl⟩
theorem Unseal_any (s : ByteArray) (w : World) (hs : s.size ≤ maxLen) :
    Calls Try.prog 15 #[.string s] w fun e w' => e = .returned (.agg #[.string (unsealT s), .int .i64 0, .int .i64 (unsealC s)]) ∧ Below w.heap.size w w' := by
  rcases unseal_cases s with ⟨a, b, c⟩ | ⟨a, b, c⟩ | ⟨a1, a2, a3, b, c⟩ | ⟨a1, a2, a3, b, c⟩
  all_goals rw [b, c]
  · exact Unseal_long s w a hs
  · exact Unseal_short s w a
  · exact Unseal_ok s w a2 a1 a3
  · exact Unseal_bad s w a2 a1 a3
theorem SpecUnseal_any (s : ByteArray) (w : World) (hs : s.size ≤ maxLen) :
    Calls Try.prog 27 #[.string s] w fun e w' => e = .returned (.agg #[.string (unsealT s), .int .i64 0, .int .i64 (unsealC s)]) ∧ Below w.heap.size w w' := by
  rcases unseal_cases s with ⟨a, b, c⟩ | ⟨a, b, c⟩ | ⟨a1, a2, a3, b, c⟩ | ⟨a1, a2, a3, b, c⟩
  all_goals rw [b, c]
  · exact SpecUnseal_long s w a hs
  · exact SpecUnseal_short s w a
  · exact SpecUnseal_ok s w a2 a1 a3
  · exact SpecUnseal_bad s w a2 a1 a3

set_option maxHeartbeats 400000 in
theorem eqTextOut_same (t : ByteArray) (n c : Int) (w : World) :
    Calls Try.prog 28 #[.agg #[.string t, .int .i64 n, .int .i64 c], .agg #[.string t, .int .i64 n, .int .i64 c]] w fun e w' => e = .returned (.bool true) ∧ Below w.heap.size w w' := by
  go_enter Try.func28, Try.ntmps28
  go_wp2
  go_ret
  exact ⟨rfl, ((Below.refl _ _).alloc (Nat.le_refl _) _).alloc (by simp) _⟩
end Go.Proofs.Ytifcplmgdndmhaa
