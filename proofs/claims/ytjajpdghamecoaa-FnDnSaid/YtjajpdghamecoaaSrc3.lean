/- The source of the draws: a new source. -/
import Derived.Test.YtjajpdghamecoaaSrc
namespace Go.Proofs.Ytjajpdghamecoaa
open Go.RowKit

theorem src_size {w : World} {q : Nat} {ao : Option Addr} {len cap : Nat} {k m z : Int} (h : Src w q ao len cap k m z) (z' : Int) : Src (w.setCell ⟨q, 3, none⟩ (.int .i64 z')) q ao len cap k m z' := by
  unfold Src; rw [heap_set _ h]; rfl
theorem grown_new {w wr : World} (h : w.grownBy wr none) {q j : Nat} (hq : w.heap.size ≤ q) (v : Value) : w.grownBy (wr.setCell ⟨q, j, none⟩ v) none :=
  ⟨h.os, h.tape, h.output, by have := h.size; simpa [World.setCell] using this, fun k hk hne => by rw [Below.heap_setCell _ _ _ _ (show k ≠ q by omega)]; exact h.block k hk hne⟩
theorem good_new {w w' : World} {ao : Option Addr} {len cap : Nat} {m z : Int} (hS : Src w' w.heap.size ao len cap 0 m z) (hl : len ≤ 1048576) (hR : Row w w.heap.size ao len) (hg : w.grownBy w' none) : Good w' w.heap.size :=
  ⟨ao, len, cap, 0, m, z, by omega, by omega, hS, hR.same fun k hk => hg.block k hk (by simp)⟩

set_option maxRecDepth 100000 in
set_option maxHeartbeats 1000000 in
theorem l01Source_nil (ao : Option Addr) (cap : Nat) (w : World) :
    Calls Try.prog 44 #[.slice ao 0 cap] w fun e w' => e = .returned (.pointer (some ⟨w.heap.size, 0, none⟩)) ∧ Good w' w.heap.size ∧ w.grownBy w' none := by
  go_enter Try.func44, Try.ntmps44
  go_wp2
  go_loopw [4] (fun i wr => ∃ (k : Nat) (m : Int), i = .int .i64 k ∧ k ≤ 64 ∧ Src wr w.heap.size ao 0 cap 0 m 0 ∧ w.grownBy wr none) (fun i _ => 64 - (intOf i).toNat)
  case atStart => exact ⟨0, _, rfl, by omega, heap_alloc_new w _, World.grownBy_alloc _ _ _⟩
  case round =>
    obtain ⟨k, m, rfl, hk, hS, hG⟩ := hrel
    obtain ⟨⟨c0, c1, c2, c3⟩, ⟨f0, f1, f2, f3⟩⟩ := src_cells hS
    have HS := Lib.hid hS; have HG := Lib.hid hG; clear hS hG
    go_wp2
    go_ret
    have hg := grown_new (j := 3) HG.out (Nat.le_refl _) (.int .i64 0)
    exact ⟨rfl, good_new (src_size HS.out _) (by omega) (.inl rfl) hg, hg⟩

set_option maxRecDepth 100000 in
set_option maxHeartbeats 1000000 in
theorem l01Source_row (b off len cap : Nat) (w : World) (hR : Row w w.heap.size (some ⟨b, off, none⟩) len) (hb : b < w.heap.size) (hl : len ≤ 1048576) (hc : ∀ j, j < len → ∃ v : Int, w.cell? ⟨b, off + j, none⟩ = some (.int .u8 v) ∧ 0 ≤ v ∧ v ≤ 255) :
    Calls Try.prog 44 #[.slice (some ⟨b, off, none⟩) len cap] w fun e w' => e = .returned (.pointer (some ⟨w.heap.size, 0, none⟩)) ∧ Good w' w.heap.size ∧ w.grownBy w' none := by
  have HR := Lib.hid hR; clear hR
  have HC := Lib.hid hc; clear hc
  go_enter Try.func44, Try.ntmps44
  go_wp2
  go_loopw [4] (fun i wr => ∃ (k : Nat) (m : Int), i = .int .i64 k ∧ k ≤ 64 ∧ Src wr w.heap.size (some ⟨b, off, none⟩) len cap 0 m 0 ∧ w.grownBy wr none) (fun i _ => 64 - (intOf i).toNat)
  case atStart => exact ⟨0, _, rfl, by omega, heap_alloc_new w _, World.grownBy_alloc _ _ _⟩
  case round =>
    obtain ⟨k, m, rfl, hk, hS, hG⟩ := hrel
    obtain ⟨⟨c0, c1, c2, c3⟩, ⟨f0, f1, f2, f3⟩⟩ := src_cells hS
    have HS := Lib.hid hS; have HG := Lib.hid hG; clear hS hG
    by_cases h : k < len ∧ k < 64
    · obtain ⟨h1, h2⟩ := h
      obtain ⟨v, hv, hv0, hv1⟩ := HC.out k h1
      have hcv : wr.cell? ⟨b, off + k, none⟩ = some (.int .u8 v) := HG.out.cell hv (by simp)
      clear hv
      go_wp2
      go_region
      go_wp2
      go_roundw
      case rel => exact ⟨k + 1, _, by go_num, by omega, src_mix HS.out _, grown_drew (grown_new HG.out (Nat.le_refl _) _)⟩
      case measure => simp [intOf]; omega
    · have fin1 : ∀ Z : Int, w.grownBy (wr.setCell ⟨w.heap.size, 3, none⟩ (.int .i64 Z)) none ∧ Good (wr.setCell ⟨w.heap.size, 3, none⟩ (.int .i64 Z)) w.heap.size := fun Z =>
        ⟨grown_new HG.out (Nat.le_refl _) _, good_new (src_size HS.out _) hl HR.out (grown_new HG.out (Nat.le_refl _) _)⟩
      have fin2 : ∀ Z : Int, w.grownBy ((wr.setCell ⟨w.heap.size, 3, none⟩ (.int .i64 Z)).setCell ⟨w.heap.size, 3, none⟩ (.int .i64 12)) none ∧ Good ((wr.setCell ⟨w.heap.size, 3, none⟩ (.int .i64 Z)).setCell ⟨w.heap.size, 3, none⟩ (.int .i64 12)) w.heap.size := fun Z =>
        ⟨grown_new (grown_new HG.out (Nat.le_refl _) _) (Nat.le_refl _) _, good_new (src_size (src_size HS.out _) _) hl HR.out (grown_new (grown_new HG.out (Nat.le_refl _) _) (Nat.le_refl _) _)⟩
      have F1 := Lib.hid fin1; have F2 := Lib.hid fin2
      clear fin1 fin2 HS HG
      by_cases h1 : k < len
      · have h64 : ¬ k < 64 := fun g => h ⟨h1, g⟩
        clear h
        go_wp2
        all_goals
          go_ret
          first | exact ⟨rfl, (F1.out _).2, (F1.out _).1⟩ | exact ⟨rfl, (F2.out _).2, (F2.out _).1⟩
      · clear h
        go_wp2
        all_goals
          go_ret
          first | exact ⟨rfl, (F1.out _).2, (F1.out _).1⟩ | exact ⟨rfl, (F2.out _).2, (F2.out _).1⟩
theorem l01Source_any (ao : Option Addr) (len cap : Nat) (w : World) (hR : Row w w.heap.size ao len) (hl : len ≤ 1048576) :
    Calls Try.prog 44 #[.slice ao len cap] w fun e w' => e = .returned (.pointer (some ⟨w.heap.size, 0, none⟩)) ∧ Good w' w.heap.size ∧ w.grownBy w' none := by
  have hR' := hR
  rcases hR with rfl | ⟨b, off, rfl, hb, hc⟩
  · exact l01Source_nil ao cap w
  · exact l01Source_row b off len cap w hR' hb hl hc
end Go.Proofs.Ytjajpdghamecoaa
