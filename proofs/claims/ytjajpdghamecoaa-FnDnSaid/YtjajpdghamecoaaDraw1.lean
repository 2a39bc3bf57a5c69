/- The draws of names: one of some texts. -/
import Derived.Test.YtjajpdghamecoaaSrc3
namespace Go.Proofs.Ytjajpdghamecoaa
open Go.RowKit

theorem text_cell {w : World} {b : Nat} {C : Array Value} {T : TypeId} {fr : Nat × Nat} {l : List ByteArray} (hh : w.heap[b]? = some (.cells C T fr)) (hC : C = (l.map Value.string).toArray) (j : Nat) (hj : j < l.length) : w.cell? ⟨b, j, none⟩ = some (.string l[j]) := by
  unfold World.cell?
  rw [hh, hC]
  simp [hj]

/-- one of some texts -/
def OneOf (l : List ByteArray) (e : Ending) : Prop := ∃ t, t ∈ l ∧ e = .returned (.string t)

set_option maxRecDepth 100000 in
set_option maxHeartbeats 1000000 in
theorem pick_any (q b n : Nat) (l : List ByteArray) (C : Array Value) (T : TypeId) (fr : Nat × Nat) (w : World) (hg : Good w q) (hb : b ≠ q) (hh : w.heap[b]? = some (.cells C T fr)) (hC : C = (l.map Value.string).toArray) (hl : l.length = n) (hn : 1 < n) (hn2 : n ≤ 100) :
    Calls Try.prog 55 #[.pointer (some ⟨q, 0, none⟩), .slice (some ⟨b, 0, none⟩) n n] w fun e w' => OneOf l e ∧ Still q w w' := by
  have HG := Lib.hid hg; clear hg
  have HH := Lib.hid hh; clear hh
  have HC := Lib.hid hC; clear hC
  have HL := Lib.hid hl; clear hl
  go_enter Try.func55, Try.ntmps55
  go_wp2_with fail
  refine (n_any q n _ HG.out (by omega) (by omega)).mono ?_
  rintro e w1 ⟨⟨v, rfl, hv0, hv1⟩, hs1⟩
  obtain ⟨j, rfl⟩ := Int.eq_ofNat_of_zero_le hv0
  have hj : j < l.length := by have := HL.out; omega
  have hb' : b < w.heap.size := (Array.getElem?_eq_some_iff.1 HH.out).1
  have hc : w1.cell? ⟨b, j, none⟩ = some (.string l[j]) := text_cell ((hs1.2.block b hb' (fun e => hb (Option.some.inj e))).trans HH.out) HC.out j hj
  have HM := Lib.hid (List.getElem_mem hj)
  have HS1 := Lib.hid hs1
  clear hs1 hb'
  generalize l[j] = t at *
  go_wp2
  go_ret
  exact ⟨⟨_, HM.out, rfl⟩, HS1.out⟩
end Go.Proofs.Ytjajpdghamecoaa
