/- Unseal: what the texts of the program and of the specification return. -/
import Derived.Test.YtifcplmgdndmhaaSeal
import Derived.Deep.RegionWith
import Derived.BigRegion
namespace Go.Proofs.Ytifcplmgdndmhaa
open Go.RowKit

/-- a block of three cells that was laid ahead of a call is as it was behind it -/
theorem keep3 {w W w1 : World} {a b c : Value} {T : TypeId} (hb : Below W.heap.size W w1) (hW : W.heap = (w.alloc (.cells #[a, b, c] T)).heap) :
    (w1.cell? ⟨w.heap.size, 0, none⟩ = some a ∧ w1.cell? ⟨w.heap.size, 1, none⟩ = some b ∧ w1.cell? ⟨w.heap.size, 2, none⟩ = some c) ∧
    (w1.frozen? ⟨w.heap.size, 0, none⟩ = false ∧ w1.frozen? ⟨w.heap.size, 1, none⟩ = false ∧ w1.frozen? ⟨w.heap.size, 2, none⟩ = false) ∧ w.heap.size < w1.heap.size := by
  have hs : w.heap.size < W.heap.size := by rw [hW]; simp
  have hblk : w1.heap[w.heap.size]? = some (.cells #[a, b, c] T) := by rw [hb.block _ hs, hW]; exact heap_alloc_new w _
  refine ⟨⟨?_, ?_, ?_⟩, ⟨?_, ?_, ?_⟩, Nat.lt_of_lt_of_le hs hb.size⟩
  all_goals first | (unfold World.cell?; rw [hblk]; rfl) | (unfold World.frozen?; rw [hblk]; rfl)

theorem below_past {w W w1 : World} {o : Obj} (hb : Below W.heap.size W w1) (h1 : W.heap = (w.alloc o).heap) (h2 : W.os = w.os) (h3 : W.tape = w.tape) (h4 : W.output = w.output) : Below w.heap.size w w1 := by
  have hs : W.heap.size = w.heap.size + 1 := by rw [h1]; simp
  refine ⟨hb.os.trans h2, hb.tape.trans h3, hb.output.trans h4, by have := hb.size; omega, fun k hk => ?_⟩
  rw [hb.block k (by omega), h1, Below.heap_alloc w o k hk]

set_option maxRecDepth 100000 in
set_option maxHeartbeats 1000000 in
theorem Unseal_ok (s : ByteArray) (w : World) (h1 : s.size ≤ 8000) (h2 : 4 ≤ s.size) (hq : ((s.extract (s.size - 4) s.size).toList == (sumS (s.extract 0 (s.size - 4))).toList) = true) :
    Calls Try.prog 15 #[.string s] w fun e w' => e = .returned (.agg #[.string (s.extract 0 (s.size - 4)), .int .i64 0, .int .i64 0]) ∧ Below w.heap.size w w' := by
  have Hz : Hid ((s.extract 0 (s.size - 4)).size ≤ 1000000) := Lib.hid (by simp; omega)
  go_enter Try.func15, Try.ntmps15
  go_wp2
  go_region_with (first | (go_at_call 19; refine (Crc_in _ _ (by simp; omega)).mono ?_; rintro e w' ⟨rfl, rfl⟩) | (go_at_call 34; refine (sumText_of _ _).mono ?_; rintro e w1 ⟨rfl, hb1⟩))
  obtain ⟨⟨c0, c1, c2⟩, ⟨f0, f1, f2⟩, hz1⟩ := keep3 hb1 rfl
  have HB := Lib.hid (below_past hb1 rfl rfl rfl rfl)
  clear hb1
  go_wp2_with (first | (go_at_call 33; refine (concat_one _ _ Hz.out).mono ?_; rintro e w2 ⟨rfl, hb2⟩; have d0 := hb2.cell (p := ⟨w.heap.size, 0, none⟩) hz1; have d1 := hb2.cell (p := ⟨w.heap.size, 1, none⟩) hz1; have d2 := hb2.cell (p := ⟨w.heap.size, 2, none⟩) hz1; have e0 := hb2.frozen (p := ⟨w.heap.size, 0, none⟩) hz1; have e1 := hb2.frozen (p := ⟨w.heap.size, 1, none⟩) hz1; have e2 := hb2.frozen (p := ⟨w.heap.size, 2, none⟩) hz1; rw [c0] at d0; rw [c1] at d1; rw [c2] at d2; rw [f0] at e0; rw [f1] at e1; rw [f2] at e2; have hz2 := hb2.size; have HB2 := Lib.hid hb2; clear hb2 c0 c1 c2 f0 f1 f2))
  refine bodyPost_ret (v := .agg #[.string (s.extract 0 (s.size - 4)), .int .i64 0, .int .i64 0]) (by simp [results, Try.results15, go_sem, d0, d1, d2]) rfl ⟨rfl, ?_⟩
  exact (((HB.out.trans (HB2.out.mono (by omega))).setCell (Nat.le_refl _) _).setCell (Nat.le_refl _) _).setCell (Nat.le_refl _) _

set_option maxRecDepth 100000 in
set_option maxHeartbeats 1000000 in
theorem Unseal_bad (s : ByteArray) (w : World) (h1 : s.size ≤ 8000) (h2 : 4 ≤ s.size) (hq : ((s.extract (s.size - 4) s.size).toList == (sumS (s.extract 0 (s.size - 4))).toList) = false) :
    Calls Try.prog 15 #[.string s] w fun e w' => e = .returned (.agg #[.string ByteArray.empty, .int .i64 0, .int .i64 5]) ∧ Below w.heap.size w w' := by
  go_enter Try.func15, Try.ntmps15
  go_wp2
  go_region_with (first | (go_at_call 19; refine (Crc_in _ _ (by simp; omega)).mono ?_; rintro e w' ⟨rfl, rfl⟩) | (go_at_call 34; refine (sumText_of _ _).mono ?_; rintro e w1 ⟨rfl, hb1⟩))
  obtain ⟨⟨c0, c1, c2⟩, ⟨f0, f1, f2⟩, hz1⟩ := keep3 hb1 rfl
  have HB := Lib.hid (below_past hb1 rfl rfl rfl rfl)
  clear hb1
  go_wp2
  refine bodyPost_ret (v := .agg #[.string ByteArray.empty, .int .i64 0, .int .i64 5]) (by simp [results, Try.results15, go_sem, c0, c1, c2]; rfl) rfl ⟨rfl, ?_⟩
  exact ((HB.out.setCell (Nat.le_refl _) _).setCell (Nat.le_refl _) _).setCell (Nat.le_refl _) _

set_option maxHeartbeats 400000 in
theorem Unseal_short (s : ByteArray) (w : World) (h2 : s.size < 4) :
    Calls Try.prog 15 #[.string s] w fun e w' => e = .returned (.agg #[.string ByteArray.empty, .int .i64 0, .int .i64 4]) ∧ Below w.heap.size w w' := by
  go_enter Try.func15, Try.ntmps15
  go_wp2
  exact bodyPost_ret (v := .agg #[.string ByteArray.empty, .int .i64 0, .int .i64 4]) (by simp [results, Try.results15, go_sem]; rfl) rfl ⟨rfl, (Below.refl _ _).alloc (Nat.le_refl _) _⟩
set_option maxHeartbeats 400000 in
theorem Unseal_long (s : ByteArray) (w : World) (h1 : 8000 < s.size) (hs : s.size ≤ maxLen) :
    Calls Try.prog 15 #[.string s] w fun e w' => e = .returned (.agg #[.string ByteArray.empty, .int .i64 0, .int .i64 2]) ∧ Below w.heap.size w w' := by
  unfold maxLen at hs
  go_enter Try.func15, Try.ntmps15
  go_wp2
  exact bodyPost_ret (v := .agg #[.string ByteArray.empty, .int .i64 0, .int .i64 2]) (by simp [results, Try.results15, go_sem]; rfl) rfl ⟨rfl, (Below.refl _ _).alloc (Nat.le_refl _) _⟩
end Go.Proofs.Ytifcplmgdndmhaa
