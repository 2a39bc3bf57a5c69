/- The helpers of the laws: copies of names, comparisons. -/
import Derived.Test.YtjajpdghamecoaaLaw1
namespace Go.Proofs.Ytjajpdghamecoaa
open Go.RowKit
attribute [local go_sem ↓] Go.wp_at_zero Go.wp_at_succ

set_option maxHeartbeats 400000 in
theorem toRdn_any (A V : ByteArray) (w : World) :
    Calls Try.prog 103 #[.agg #[.string A, .string V]] w fun e w' => e = .returned (.agg #[.string A, .string V]) ∧ Below w.heap.size w w' := by
  go_enter Try.func103, Try.ntmps103
  go_wp2
  refine bodyPost_ret (v := .agg #[.string A, .string V]) (by simp [results, Try.results103, go_sem]) rfl ⟨rfl, ?_⟩
  exact more (more (more (Below.refl _ _) _) _) _
theorem make27 (n : Nat) (hn : n ≤ 1048576) (W : World) : ∃ C : Array Value, C.size = n * 2 ∧
    (Instr.makeSlice 23 (.int .i64 (n : Int)) (.int .i64 (n : Int))).run Try.prog W = .ok (.slice (some ⟨W.heap.size, 0, none⟩) n n) (W.alloc (.cells C 61)) := by
  obtain ⟨i0, hi, hz0, hz1, hz2⟩ := info_parts Try.info61
  have := run_make (P := Try.prog) W 23 61 i0 _ Try.underlying23 hi hz0 .i64 .i64 (n : Int) (n : Int) (by omega) (by omega) (by rw [hz2]; omega) (by omega)
  rw [hz1] at this
  refine ⟨madeCells (Value.agg #[.string ByteArray.empty, .string ByteArray.empty]).cells (n * 2), size_madeCells _ _, ?_⟩
  simpa using this
theorem take_set2 {C : Array Value} {k : Nat} {d : RdnL} {a b : Value} (hk : k * 2 + 1 < C.size) (hC : C.toList.take (k * 2) = rs d) (hl : d.length = k) :
    (((C.setIfInBounds (k * 2) a).setIfInBounds (k * 2 + 1) b).toList).take ((k + 1) * 2) = rs d ++ [a, b] := by
  have hL : (rs d).length = k * 2 := by rw [rs_length, hl]
  apply List.ext_getElem?
  intro i
  rw [List.getElem?_take]
  by_cases h1 : i < (k + 1) * 2
  · rw [if_pos h1, Array.getElem?_toList, Array.getElem?_setIfInBounds, Array.getElem?_setIfInBounds]
    by_cases h2 : i = k * 2 + 1
    · subst h2
      rw [if_pos rfl, if_pos (by simpa using hk), List.getElem?_append_right (by omega), hL]
      simp
    · rw [if_neg (fun e => h2 e.symm)]
      by_cases h3 : i = k * 2
      · subst h3
        rw [if_pos rfl, if_pos (by omega), List.getElem?_append_right (by omega), hL]
        simp
      · rw [if_neg (fun e => h3 e.symm), List.getElem?_append_left (by omega), ← hC, List.getElem?_take, if_pos (by omega), Array.getElem?_toList]
  · rw [if_neg h1, List.getElem?_eq_none (by simp; omega)]
/-- a block of pairs, the first k of them known -/
def RowTo (w : World) (g n : Nat) (d : RdnL) : Prop := ∃ C : Array Value, w.heap[g]? = some (.cells C 61 (0, 0)) ∧ C.size = n * 2 ∧ C.toList.take (d.length * 2) = rs d
theorem RowTo.at {w : World} {g n k : Nat} {d : RdnL} (h : RowTo w g n d) (hk : k < n) :
    (∃ x y, w.cell? ⟨g, k * 2, none⟩ = some x ∧ w.cell? ⟨g, k * 2 + 1, none⟩ = some y) ∧ w.frozen? ⟨g, k * 2, none⟩ = false ∧ w.frozen? ⟨g, k * 2 + 1, none⟩ = false := by
  obtain ⟨C, h1, h2, _⟩ := h
  refine ⟨⟨C[k * 2]'(by omega), C[k * 2 + 1]'(by omega), ?_, ?_⟩, ?_, ?_⟩
  · rw [cell_of_row w g _ C 61 (0, 0) h1]; exact Array.getElem?_eq_getElem (by omega)
  · rw [cell_of_row w g _ C 61 (0, 0) h1]; exact Array.getElem?_eq_getElem (by omega)
  · simp [World.frozen?, h1]
  · simp [World.frozen?, h1]
theorem heap_set {w : World} {q j : Nat} {C : Array Value} {T : TypeId} {fr : Nat × Nat} (v : Value) (h : w.heap[q]? = some (.cells C T fr)) : (w.setCell ⟨q, j, none⟩ v).heap[q]? = some (.cells (C.setIfInBounds j v) T fr) := by
  unfold World.setCell
  simp [Array.getElem?_modify, h]
theorem RowTo.set {w : World} {g n k : Nat} {d : RdnL} (h : RowTo w g n d) (hl : d.length = k) (hk : k < n) (A V : ByteArray) :
    RowTo ((w.setCell ⟨g, k * 2, none⟩ (.string A)).setCell ⟨g, k * 2 + 1, none⟩ (.string V)) g n (d ++ [(A, V)]) := by
  obtain ⟨C, h1, h2, h3⟩ := h
  refine ⟨_, heap_set _ (heap_set _ h1), by simp [h2], ?_⟩
  rw [rs_append, List.length_append, hl]
  rw [hl] at h3
  exact take_set2 (by omega) h3 hl
theorem RowTo.below {w w' : World} {g n : Nat} {d : RdnL} (h : RowTo w g n d) (hb : Below w.heap.size w w') : RowTo w' g n d := by
  obtain ⟨C, h1, h2⟩ := h
  exact ⟨C, (hb.block g (Array.getElem?_eq_some_iff.1 h1).1).trans h1, h2⟩
theorem RowTo.own {w : World} {g B : Nat} {d : RdnL} (h : RowTo w g d.length d) (hB : B ≤ g) (hm : d.length ≤ 1048576) : w.ownsRow B 61 2 (.slice (some ⟨g, 0, none⟩) d.length d.length) d.length (rs d) := by
  obtain ⟨C, h1, h2, h3⟩ := h
  exact ⟨rs_length d, .inr ⟨g, d.length, C, rfl, hB, h1, Nat.le_refl _, by unfold maxLen; omega, h2, h3⟩⟩
/-- a copy of a name -/
def CopyDn (w : World) (d : RdnL) (e : Ending) (w' : World) : Prop := e = .returned (.slice (some ⟨w.heap.size, 0, none⟩) d.length d.length) ∧ w'.ownsRow w.heap.size 61 2 (.slice (some ⟨w.heap.size, 0, none⟩) d.length d.length) d.length (rs d) ∧ Below w.heap.size w w'
set_option maxRecDepth 100000 in
set_option maxHeartbeats 1000000 in
theorem toRdnS_any (ao : Option Addr) (d : RdnL) (cap : Nat) (w : World) (hd : DnAt w ao d) (hl : d.length ≤ 1048576) :
    Calls Try.prog 64 #[.slice ao d.length cap] w fun e w' => CopyDn w d e w' := by
  have HD := Lib.hid hd; clear hd
  obtain ⟨C, hC, hmk⟩ := make27 d.length hl w
  have HC := Lib.hid hC; clear hC
  go_enter Try.func64, Try.ntmps64
  go_wp2
  clear hmk
  go_loopw [4] (fun i wr => ∃ k : Nat, k ≤ d.length ∧ i = .int .i64 k ∧ RowTo wr w.heap.size d.length (d.take k) ∧ Below w.heap.size w wr) (fun i _ => d.length - (intOf i).toNat)
  case atStart => exact ⟨0, Nat.zero_le _, rfl, ⟨C, heap_alloc_new w _, HC.out, by simp [rs]⟩, (Below.refl _ _).alloc (Nat.le_refl _) _⟩
  case round =>
    obtain ⟨k, hk, rfl, hR, hbel⟩ := hrel
    have HR := Lib.hid hR; clear hR
    have hsz := hbel.size
    by_cases hlt : k < d.length
    · obtain ⟨b, off, rfl, hb0, hd1, hd2⟩ := HD.out.at hlt
      have hc1 := (hbel.cell (p := ⟨b, off + k * 2, none⟩) hb0).trans hd1
      have hc2 := (hbel.cell (p := ⟨b, off + k * 2 + 1, none⟩) hb0).trans hd2
      have HT : Hid (d.take (k + 1) = d.take k ++ [(d[k].1, d[k].2)]) := Lib.hid (List.take_succ_eq_append_getElem hlt)
      have hlk : (d.take k).length = k := by rw [List.length_take]; omega
      have HK := Lib.hid hlk
      clear hd1 hd2 hlk
      generalize d[k].1 = A at *
      generalize d[k].2 = V at *
      go_wp2_with fail
      refine (toRdn_any A V wr).mono ?_
      rintro e w2 ⟨rfl, hb2⟩
      have HR2 := Lib.hid (HR.out.below hb2)
      have B2 := Lib.hid (hbel.trans (hb2.mono hsz))
      clear hb2 hc1 hc2
      obtain ⟨⟨x, y, c0, c1⟩, f0, f1⟩ := HR2.out.at hlt
      go_wp2
      go_roundw
      case rel => exact ⟨k + 1, by omega, by go_num, by rw [HT.out]; exact HR2.out.set HK.out hlt A V, (B2.out.setCell (Nat.le_refl _) _).setCell (Nat.le_refl _) _⟩
      case measure => simp [intOf]; omega
    · have e : d.take k = d := List.take_of_length_le (by omega)
      rw [e] at HR
      clear e
      go_wp2
      go_ret
      exact ⟨rfl, HR.out.own (Nat.le_refl _) hl, hbel⟩
set_option maxHeartbeats 400000 in
theorem eqRdn_same (w0 : World) (A V : ByteArray) (w : World) (hB : Below w0.heap.size w0 w) :
    Calls Try.prog 108 #[.agg #[.string A, .string V], .agg #[.string A, .string V]] w fun e w' => e = .returned (.bool true) ∧ Below w0.heap.size w0 w' := by
  go_enter Try.func108, Try.ntmps108
  go_wp2
  go_ret
  exact ⟨rfl, more (more hB _) _⟩
set_option maxRecDepth 100000 in
set_option maxHeartbeats 1000000 in
theorem eqRdnS_same (ao bo : Option Addr) (d : RdnL) (ca cb : Nat) (w : World) (hda : DnAt w ao d) (hdb : DnAt w bo d) (hl : d.length ≤ 1048576) :
    Calls Try.prog 67 #[.slice ao d.length ca, .slice bo d.length cb] w fun e w' => e = .returned (.bool true) ∧ Below w.heap.size w w' := by
  have HA := Lib.hid hda; have HB := Lib.hid hdb; clear hda hdb
  go_enter Try.func67, Try.ntmps67
  go_wp2
  go_loopw [5] (fun i wr => ∃ k : Nat, k ≤ d.length ∧ i = .int .i64 k ∧ Below w.heap.size w wr) (fun i _ => d.length - (intOf i).toNat)
  case atStart => exact ⟨0, Nat.zero_le _, rfl, Below.refl _ _⟩
  case round =>
    obtain ⟨k, hk, rfl, hbel⟩ := hrel
    have hsz := hbel.size
    by_cases hlt : k < d.length
    · obtain ⟨p, off, rfl, hp0, hd1, hd2⟩ := HA.out.at hlt
      obtain ⟨q, off', rfl, hq0, he1, he2⟩ := HB.out.at hlt
      generalize d[k].1 = A at *
      generalize d[k].2 = V at *
      have SK : Hid (∀ W : World, Below w.heap.size w W → (Below w.heap.size w W ∧ W.cell? ⟨p, off + k * 2, none⟩ = some (.string A) ∧ W.cell? ⟨p, off + k * 2 + 1, none⟩ = some (.string V) ∧ W.cell? ⟨q, off' + k * 2, none⟩ = some (.string A) ∧ W.cell? ⟨q, off' + k * 2 + 1, none⟩ = some (.string V))) :=
        Lib.hid (fun W h => ⟨h, (h.cell (p := ⟨p, _, none⟩) hp0).trans hd1, (h.cell (p := ⟨p, _, none⟩) hp0).trans hd2, (h.cell (p := ⟨q, _, none⟩) hq0).trans he1, (h.cell (p := ⟨q, _, none⟩) hq0).trans he2⟩)
      have hbd := hbel.drew
      clear hd1 hd2 he1 he2
      have g1 : (0 : Int) ≤ (k : Int) := by omega
      have g2 : (k : Int) < (d.length : Int) := by omega
      go_wp2_with fail
      go_region_held3 (fun W => Below w.heap.size w W ∧ W.cell? ⟨p, off + k * 2, none⟩ = some (.string A) ∧ W.cell? ⟨p, off + k * 2 + 1, none⟩ = some (.string V) ∧ W.cell? ⟨q, off' + k * 2, none⟩ = some (.string A) ∧ W.cell? ⟨q, off' + k * 2 + 1, none⟩ = some (.string V))
        (exact SK.out _ (by assumption))
        (first | (go_at_call 108; refine (eqRdn_same w _ _ _ (by assumption)).mono ?_; rintro e w2 ⟨rfl, hb2⟩) | (fail "none"))
      all_goals
        go_wp2
        go_roundw
        case rel => exact ⟨k + 1, by omega, by go_num, hb2⟩
        case measure => simp [intOf]; omega
    · go_wp2
      go_ret
      exact ⟨rfl, hbel⟩
end Go.Proofs.Ytjajpdghamecoaa
