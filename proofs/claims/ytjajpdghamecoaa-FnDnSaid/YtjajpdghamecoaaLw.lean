/- Two names that are equal: what the laws' comparison returns. -/
import Derived.Test.YtjajpdghamecoaaUnder
import Derived.Test.YtjajpdghamecoaaJoinR
namespace Go.Proofs.Ytjajpdghamecoaa
open Go.RowKit

theorem neqSame (A V : ByteArray) (W : World) : (binOp .neq 61 (.agg #[.string A, .string V]) (.agg #[.string A, .string V])).run Try.prog W = .ok (.bool false) W := by
  rw [neq39]; simp
set_option maxRecDepth 100000 in
set_option maxHeartbeats 1000000 in
theorem lwDn_same (ao bo : Option Addr) (d : RdnL) (ca cb : Nat) (w : World) (hda : DnAt w ao d) (hdb : DnAt w bo d) (hl : d.length ≤ 1048576) :
    Calls Try.prog 15 #[.slice ao d.length ca, .slice bo d.length cb] w fun e w' => e = .returned (.bool true) ∧ Below w.heap.size w w' := by
  have HA := Lib.hid hda; have HB := Lib.hid hdb; clear hda hdb
  go_enter Try.func15, Try.ntmps15
  go_wp2
  go_loopw [5] (fun i wr => ∃ k : Nat, k ≤ d.length ∧ i = .int .i64 k ∧ Below w.heap.size w wr) (fun i _ => d.length - (intOf i).toNat)
  case atStart => exact ⟨0, Nat.zero_le _, rfl, Below.refl _ _⟩
  case round =>
    obtain ⟨k, hk, rfl, hbel⟩ := hrel
    have hsz := hbel.size
    by_cases hlt : k < d.length
    · obtain ⟨p, off, rfl, hp0, hd1, hd2⟩ := HA.out.at hlt
      obtain ⟨q, off', rfl, hq0, he1, he2⟩ := HB.out.at hlt
      have hnq := neqSame d[k].1 d[k].2
      generalize d[k].1 = A at *
      generalize d[k].2 = V at *
      have SK : Hid (∀ W : World, Below w.heap.size w W → (Below w.heap.size w W ∧ W.cell? ⟨p, off + k * 2, none⟩ = some (.string A) ∧ W.cell? ⟨p, off + k * 2 + 1, none⟩ = some (.string V) ∧ W.cell? ⟨q, off' + k * 2, none⟩ = some (.string A) ∧ W.cell? ⟨q, off' + k * 2 + 1, none⟩ = some (.string V))) :=
        Lib.hid (fun W h => ⟨h, (h.cell (p := ⟨p, _, none⟩) hp0).trans hd1, (h.cell (p := ⟨p, _, none⟩) hp0).trans hd2, (h.cell (p := ⟨q, _, none⟩) hq0).trans he1, (h.cell (p := ⟨q, _, none⟩) hq0).trans he2⟩)
      have hbd := hbel.drew
      clear hd1 hd2 he1 he2
      have g1 : (0 : Int) ≤ (k : Int) := by omega
      have g2 : (k : Int) < (d.length : Int) := by omega
      go_wp2_with fail
      go_region_held3 (fun W => Below w.heap.size w W ∧ W.cell? ⟨p, off + k * 2, none⟩ = some (.string A) ∧ W.cell? ⟨p, off + k * 2 + 1, none⟩ = some (.string V) ∧ W.cell? ⟨q, off' + k * 2, none⟩ = some (.string A) ∧ W.cell? ⟨q, off' + k * 2 + 1, none⟩ = some (.string V))
        (exact SK.out _ (by assumption))
        (first | (fail "none"))
      all_goals
        go_wp2
        go_roundw
        case rel => exact ⟨k + 1, by omega, by go_num, by assumption⟩
        case measure => simp [intOf]; omega
    · go_wp2
      go_ret
      exact ⟨rfl, hbel⟩
end Go.Proofs.Ytjajpdghamecoaa
