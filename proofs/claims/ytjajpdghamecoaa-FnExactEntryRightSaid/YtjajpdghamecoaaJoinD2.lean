/- DnJoin: what the specification's text returns. -/
import Derived.Test.YtjajpdghamecoaaJoinD
namespace Go.Proofs.Ytjajpdghamecoaa
open Go.RowKit

theorem dnB_one (r : ByteArray × ByteArray) : dnB [r] = rdnB r := by unfold dnB; simp
theorem one_at (w : World) (A V : ByteArray) : DnAt (w.alloc (.cells #[.string A, .string V] 61)) (some ⟨w.heap.size, 0, none⟩) [(A, V)] :=
  .inr ⟨w.heap.size, 0, rfl, by simp, fun i hi => by
    match i, hi with
    | 0, _ => exact ⟨by simp, by simp⟩⟩
theorem own_one (w : World) (A V : ByteArray) (B : Nat) (hB : B ≤ w.heap.size) : (w.alloc (.cells #[.string A, .string V] 61)).ownsRow B 61 2 (.slice (some ⟨w.heap.size, 0, none⟩) 1 1) [(A, V)].length (rs [(A, V)]) :=
  ⟨rfl, .inr ⟨w.heap.size, 1, #[.string A, .string V], rfl, hB, heap_alloc_new w _, by simp, by unfold maxLen; simp, rfl, rfl⟩⟩
end Go.Proofs.Ytjajpdghamecoaa
