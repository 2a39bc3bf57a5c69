/- Merged texts: Law1, Law2, EntMath, EntR1, Esc, Shelf, Text, Text2, Mark, ScanMath. -/
import Derived.Test.YtmanlnlhpgdbpaaGreatM3
import Derived.Test.YtmanlnlhpgdbpaaGreatM1
import Derived.Laws.MakeOwn
import Derived.Shelf.Small.Strs
import Derived.Deep.Light
import Derived.Shelf.Strings.OnBuilder
import Derived.Shelf.Strings.Search2
import Derived.Test.YtmanlnlhpgdbpaaGreatProg
import Derived.Deep.RegionHeld3
import Derived.Deep.DrawnRows
import Derived.Laws.Concat
/- The helpers of the laws: sizes, copies, comparisons. -/
namespace Go.Proofs.YtmanlnlhpgdbpaaGreat
open Go.RowKit
attribute [local go_sem ↓] Go.wp_at_zero Go.wp_at_succ

/-- all its strings are strings of Go -/
def Long (d : RdnL) : Prop := d.length ≤ 9223372036854775807 ∧ ∀ r ∈ d, r.1.size ≤ maxLen ∧ r.2.size ≤ maxLen
def sizeR (r : ByteArray × ByteArray) : Nat := r.1.size + r.2.size
def sizeS (d : RdnL) : Nat := (d.map sizeR).sum
theorem sizeS_take (d : RdnL) (k : Nat) (h : k < d.length) : sizeS (d.take (k + 1)) = sizeS (d.take k) + sizeR d[k] := by
  unfold sizeS; rw [List.take_succ_eq_append_getElem h, List.map_append, List.sum_append]; simp
theorem sizeS_le (d : RdnL) (k : Nat) : sizeS (d.take k) ≤ sizeS d := by
  have h := List.take_append_drop k d
  have : sizeS d = sizeS (d.take k) + sizeS (d.drop k) := by
    unfold sizeS; rw [← List.sum_append, ← List.map_append, h]
  omega
theorem sizeS_mem {d : RdnL} {r : ByteArray × ByteArray} (h : r ∈ d) : sizeR r ≤ sizeS d := by
  induction d with
  | nil => simp at h
  | cons x d ih =>
    have e : sizeS (x :: d) = sizeR x + sizeS d := by unfold sizeS; simp
    rw [e]
    rw [List.mem_cons] at h
    rcases h with rfl | h
    · omega
    · have := ih h; omega
theorem fits_of {d : RdnL} (h : d.length + sizeS d ≤ 1048576) : Fits d :=
  ⟨by omega, fun r hr => by have := sizeS_mem hr; unfold sizeR at this; omega⟩
set_option maxHeartbeats 400000 in
theorem szRdn_any (A V : ByteArray) (left : Int) (w : World) (hA : A.size ≤ maxLen) (hV : V.size ≤ maxLen) (h0 : 0 ≤ left) (h1 : left ≤ 1048576) :
    Calls Tryz.prog 39 #[.agg #[.string A, .string V], .int .i64 left] w fun e w' => e = .returned (.int .i64 (leftR (sizeR (A, V)) left)) ∧ Below w.heap.size w w' := by
  unfold maxLen at hA hV
  have HE : Hid (sizeR (A, V) = A.size + V.size) := Lib.hid rfl
  by_cases g1 : (A.size : Int) ≤ left
  · by_cases g2 : (A.size : Int) + (V.size : Int) ≤ left
    · have HR : Hid (leftR (sizeR (A, V)) left = left - A.size - V.size) := Lib.hid (by unfold leftR; rw [HE.out, if_pos (by omega)]; omega)
      have c1 : ¬ left - (A.size : Int) < 0 := by omega
      have c2 : ¬ left - (A.size : Int) - (V.size : Int) < 0 := by omega
      go_enter Tryz.func39, Tryz.ntmps39
      go_wp2
      go_ret
      exact ⟨ret_int' (by rw [HR.out]), (Below.refl _ _).alloc (Nat.le_refl _) _⟩
    · have HR : Hid (leftR (sizeR (A, V)) left = -1) := Lib.hid (by unfold leftR; rw [HE.out, if_neg (by omega)])
      have c1 : ¬ left - (A.size : Int) < 0 := by omega
      have c2 : left - (A.size : Int) - (V.size : Int) < 0 := by omega
      go_enter Tryz.func39, Tryz.ntmps39
      go_wp2
      go_ret
      exact ⟨ret_int' (by rw [HR.out]), (Below.refl _ _).alloc (Nat.le_refl _) _⟩
  · have HR : Hid (leftR (sizeR (A, V)) left = -1) := Lib.hid (by unfold leftR; rw [HE.out, if_neg (by omega)])
    have c1 : left - (A.size : Int) < 0 := by omega
    go_enter Tryz.func39, Tryz.ntmps39
    go_wp2
    go_ret
    exact ⟨ret_int' (by rw [HR.out]), (Below.refl _ _).alloc (Nat.le_refl _) _⟩
set_option maxRecDepth 100000 in
set_option maxHeartbeats 1000000 in
theorem szRdnS_any (ao : Option Addr) (d : RdnL) (cap : Nat) (left : Int) (w : World) (hd : DnAt w ao d) (hf : Long d) (h0 : 0 ≤ left) (h1 : left ≤ 1048576) :
    Calls Tryz.prog 12 #[.slice ao d.length cap, .int .i64 left] w fun e w' => e = .returned (.int .i64 (leftR (d.length + sizeS d) left)) ∧ Below w.heap.size w w' := by
  have hl := hf.1
  have HD := Lib.hid hd; have HF := Lib.hid hf; clear hd hf
  by_cases g : (d.length : Int) ≤ left
  · have c1 : ¬ left - (d.length : Int) < 0 := by omega
    go_enter Tryz.func12, Tryz.ntmps12
    go_wp2
    go_loopw [1, 5] (fun t i wr => ∃ k : Nat, k ≤ d.length ∧ i = .int .i64 k ∧ ((d.length + sizeS (d.take k) : Nat) : Int) ≤ left ∧ t = .int .i64 (left - (d.length + sizeS (d.take k) : Nat)) ∧ Below w.heap.size w wr) (fun _ i _ => d.length - (intOf i).toNat)
    case atStart => exact ⟨0, Nat.zero_le _, rfl, by simp [sizeS]; omega, by simp [sizeS], Below.refl _ _⟩
    case round =>
      clear c1
      obtain ⟨k, hk, rfl, hle, rfl, hbel⟩ := hrel
      have hsz := hbel.size
      by_cases hlt : k < d.length
      · obtain ⟨b, off, rfl, hb0, hd1, hd2⟩ := HD.out.at hlt
        have hc1 := (hbel.cell (p := ⟨b, off + k * 2, none⟩) hb0).trans hd1
        have hc2 := (hbel.cell (p := ⟨b, off + k * 2 + 1, none⟩) hb0).trans hd2
        have hz := HF.out.2 _ (List.getElem_mem hlt)
        have HT := Lib.hid (sizeS_take d k hlt)
        have HTl := Lib.hid (sizeS_le d (k + 1))
        have HE : Hid (sizeR d[k] = sizeR (d[k].1, d[k].2)) := Lib.hid rfl
        clear hd1 hd2
        generalize d[k].1 = A at *
        generalize d[k].2 = V at *
        generalize hq : d.length + sizeS (d.take k) = q at *
        have Hq := Lib.hid hq; clear hq
        go_wp2_with fail
        refine (szRdn_any A V (left - (q : Int)) wr hz.1 hz.2 (by omega) (by omega)).mono ?_
        rintro e w2 ⟨rfl, hb2⟩
        have B2 := Lib.hid (hbel.trans (hb2.mono hsz)); clear hb2
        by_cases hfit : ((sizeR (A, V) : Nat) : Int) ≤ left - (q : Int)
        · rw [leftR_pos hfit]
          generalize hr : sizeR (A, V) = r at *
          have Hr := Lib.hid hr; clear hr
          have c2 : ¬ left - (q : Int) - (r : Int) < 0 := by omega
          go_wp2
          go_roundw
          case rel =>
            have e := HT.out
            have e2 := HE.out
            have e3 := Hq.out
            have e4 := Hr.out
            exact ⟨k + 1, by omega, by go_num, by omega, by rw [e]; congr 1; omega, B2.out⟩
          case measure => simp [intOf]; omega
        · rw [leftR_neg hfit]
          have HR : Hid (leftR (d.length + sizeS d) left = -1) := Lib.hid (leftR_neg (by
            have := HT.out; have := HTl.out; have := HE.out; have := Hq.out; omega))
          go_wp2
          go_ret
          exact ⟨ret_int' (by rw [HR.out]), B2.out⟩
      · have HR : Hid (leftR (d.length + sizeS d) left = left - (d.length + sizeS (d.take k) : Nat)) := Lib.hid (by
          rw [List.take_of_length_le (by omega)] at hle ⊢
          exact leftR_pos hle)
        go_wp2
        go_ret
        exact ⟨ret_int' (by rw [HR.out]), hbel⟩
  · have HR : Hid (leftR (d.length + sizeS d) left = -1) := Lib.hid (leftR_neg (by omega))
    have c1 : left - (d.length : Int) < 0 := by omega
    go_enter Tryz.func12, Tryz.ntmps12
    go_wp2
    go_ret
    exact ⟨ret_int' (by rw [HR.out]), Below.refl _ _⟩
end Go.Proofs.YtmanlnlhpgdbpaaGreat
/- The helpers of the laws: copies of names, comparisons. -/
namespace Go.Proofs.YtmanlnlhpgdbpaaGreat
open Go.RowKit
attribute [local go_sem ↓] Go.wp_at_zero Go.wp_at_succ

set_option maxHeartbeats 400000 in
theorem toRdn_any (A V : ByteArray) (w : World) :
    Calls Tryz.prog 43 #[.agg #[.string A, .string V]] w fun e w' => e = .returned (.agg #[.string A, .string V]) ∧ Below w.heap.size w w' := by
  go_enter Tryz.func43, Tryz.ntmps43
  go_wp2
  refine bodyPost_ret (v := .agg #[.string A, .string V]) (by simp [results, Tryz.results43, go_sem]) rfl ⟨rfl, ?_⟩
  exact more (more (more (Below.refl _ _) _) _) _
theorem make27 (n : Nat) (hn : n ≤ 1048576) (W : World) : ∃ C : Array Value, C.size = n * 2 ∧
    (Instr.makeSlice 42 (.int .i64 (n : Int)) (.int .i64 (n : Int))).run Tryz.prog W = .ok (.slice (some ⟨W.heap.size, 0, none⟩) n n) (W.alloc (.cells C 77)) := by
  obtain ⟨i0, hi, hz0, hz1, hz2⟩ := info_parts Tryz.info77
  have := run_make (P := Tryz.prog) W 42 77 i0 _ Tryz.underlying42 hi hz0 .i64 .i64 (n : Int) (n : Int) (by omega) (by omega) (by rw [hz2]; omega) (by omega)
  rw [hz1] at this
  refine ⟨madeCells (Value.agg #[.string ByteArray.empty, .string ByteArray.empty]).cells (n * 2), size_madeCells _ _, ?_⟩
  simpa using this
theorem take_set2 {C : Array Value} {k : Nat} {d : RdnL} {a b : Value} (hk : k * 2 + 1 < C.size) (hC : C.toList.take (k * 2) = rs d) (hl : d.length = k) :
    (((C.setIfInBounds (k * 2) a).setIfInBounds (k * 2 + 1) b).toList).take ((k + 1) * 2) = rs d ++ [a, b] := by
  have hL : (rs d).length = k * 2 := by rw [rs_length, hl]
  apply List.ext_getElem?
  intro i
  rw [List.getElem?_take]
  by_cases h1 : i < (k + 1) * 2
  · rw [if_pos h1, Array.getElem?_toList, Array.getElem?_setIfInBounds, Array.getElem?_setIfInBounds]
    by_cases h2 : i = k * 2 + 1
    · subst h2
      rw [if_pos rfl, if_pos (by simpa using hk), List.getElem?_append_right (by omega), hL]
      simp
    · rw [if_neg (fun e => h2 e.symm)]
      by_cases h3 : i = k * 2
      · subst h3
        rw [if_pos rfl, if_pos (by omega), List.getElem?_append_right (by omega), hL]
        simp
      · rw [if_neg (fun e => h3 e.symm), List.getElem?_append_left (by omega), ← hC, List.getElem?_take, if_pos (by omega), Array.getElem?_toList]
  · rw [if_neg h1, List.getElem?_eq_none (by simp; omega)]
/-- a block of pairs, the first k of them known -/
def RowTo (w : World) (g n : Nat) (d : RdnL) : Prop := ∃ C : Array Value, w.heap[g]? = some (.cells C 77 (0, 0)) ∧ C.size = n * 2 ∧ C.toList.take (d.length * 2) = rs d
theorem RowTo.at {w : World} {g n k : Nat} {d : RdnL} (h : RowTo w g n d) (hk : k < n) :
    (∃ x y, w.cell? ⟨g, k * 2, none⟩ = some x ∧ w.cell? ⟨g, k * 2 + 1, none⟩ = some y) ∧ w.frozen? ⟨g, k * 2, none⟩ = false ∧ w.frozen? ⟨g, k * 2 + 1, none⟩ = false := by
  obtain ⟨C, h1, h2, _⟩ := h
  refine ⟨⟨C[k * 2]'(by omega), C[k * 2 + 1]'(by omega), ?_, ?_⟩, ?_, ?_⟩
  · rw [cell_of_row w g _ C 77 (0, 0) h1]; exact Array.getElem?_eq_getElem (by omega)
  · rw [cell_of_row w g _ C 77 (0, 0) h1]; exact Array.getElem?_eq_getElem (by omega)
  · simp [World.frozen?, h1]
  · simp [World.frozen?, h1]
theorem RowTo.set {w : World} {g n k : Nat} {d : RdnL} (h : RowTo w g n d) (hl : d.length = k) (hk : k < n) (A V : ByteArray) :
    RowTo ((w.setCell ⟨g, k * 2, none⟩ (.string A)).setCell ⟨g, k * 2 + 1, none⟩ (.string V)) g n (d ++ [(A, V)]) := by
  obtain ⟨C, h1, h2, h3⟩ := h
  refine ⟨_, heap_set _ (heap_set _ h1), by simp [h2], ?_⟩
  rw [rs_append, List.length_append, hl]
  rw [hl] at h3
  exact take_set2 (by omega) h3 hl
theorem RowTo.below {w w' : World} {g n : Nat} {d : RdnL} (h : RowTo w g n d) (hb : Below w.heap.size w w') : RowTo w' g n d := by
  obtain ⟨C, h1, h2⟩ := h
  exact ⟨C, (hb.block g (Array.getElem?_eq_some_iff.1 h1).1).trans h1, h2⟩
theorem RowTo.own {w : World} {g B : Nat} {d : RdnL} (h : RowTo w g d.length d) (hB : B ≤ g) (hm : d.length ≤ 1048576) : w.ownsRow B 77 2 (.slice (some ⟨g, 0, none⟩) d.length d.length) d.length (rs d) := by
  obtain ⟨C, h1, h2, h3⟩ := h
  exact ⟨rs_length d, .inr ⟨g, d.length, C, rfl, hB, h1, Nat.le_refl _, by unfold maxLen; omega, h2, h3⟩⟩
/-- a copy of a name -/
def CopyDn (w : World) (d : RdnL) (e : Ending) (w' : World) : Prop := e = .returned (.slice (some ⟨w.heap.size, 0, none⟩) d.length d.length) ∧ w'.ownsRow w.heap.size 77 2 (.slice (some ⟨w.heap.size, 0, none⟩) d.length d.length) d.length (rs d) ∧ Below w.heap.size w w'
set_option maxRecDepth 100000 in
set_option maxHeartbeats 1000000 in
theorem toRdnS_any (ao : Option Addr) (d : RdnL) (cap : Nat) (w : World) (hd : DnAt w ao d) (hl : d.length ≤ 1048576) :
    Calls Tryz.prog 15 #[.slice ao d.length cap] w fun e w' => CopyDn w d e w' := by
  have HD := Lib.hid hd; clear hd
  obtain ⟨C, hC, hmk⟩ := make27 d.length hl w
  have HC := Lib.hid hC; clear hC
  go_enter Tryz.func15, Tryz.ntmps15
  go_wp2
  clear hmk
  go_loopw [4] (fun i wr => ∃ k : Nat, k ≤ d.length ∧ i = .int .i64 k ∧ RowTo wr w.heap.size d.length (d.take k) ∧ Below w.heap.size w wr) (fun i _ => d.length - (intOf i).toNat)
  case atStart => exact ⟨0, Nat.zero_le _, rfl, ⟨C, heap_alloc_new w _, HC.out, by simp [rs]⟩, (Below.refl _ _).alloc (Nat.le_refl _) _⟩
  case round =>
    obtain ⟨k, hk, rfl, hR, hbel⟩ := hrel
    have HR := Lib.hid hR; clear hR
    have hsz := hbel.size
    by_cases hlt : k < d.length
    · obtain ⟨b, off, rfl, hb0, hd1, hd2⟩ := HD.out.at hlt
      have hc1 := (hbel.cell (p := ⟨b, off + k * 2, none⟩) hb0).trans hd1
      have hc2 := (hbel.cell (p := ⟨b, off + k * 2 + 1, none⟩) hb0).trans hd2
      have HT : Hid (d.take (k + 1) = d.take k ++ [(d[k].1, d[k].2)]) := Lib.hid (List.take_succ_eq_append_getElem hlt)
      have hlk : (d.take k).length = k := by rw [List.length_take]; omega
      have HK := Lib.hid hlk
      clear hd1 hd2 hlk
      generalize d[k].1 = A at *
      generalize d[k].2 = V at *
      go_wp2_with fail
      refine (toRdn_any A V wr).mono ?_
      rintro e w2 ⟨rfl, hb2⟩
      have HR2 := Lib.hid (HR.out.below hb2)
      have B2 := Lib.hid (hbel.trans (hb2.mono hsz))
      clear hb2 hc1 hc2
      obtain ⟨⟨x, y, c0, c1⟩, f0, f1⟩ := HR2.out.at hlt
      go_wp2
      go_roundw
      case rel => exact ⟨k + 1, by omega, by go_num, by rw [HT.out]; exact HR2.out.set HK.out hlt A V, (B2.out.setCell (Nat.le_refl _) _).setCell (Nat.le_refl _) _⟩
      case measure => simp [intOf]; omega
    · have e : d.take k = d := List.take_of_length_le (by omega)
      rw [e] at HR
      clear e
      go_wp2
      go_ret
      exact ⟨rfl, HR.out.own (Nat.le_refl _) hl, hbel⟩
set_option maxHeartbeats 400000 in
theorem eqRdn_same (w0 : World) (A V : ByteArray) (w : World) (hB : Below w0.heap.size w0 w) :
    Calls Tryz.prog 49 #[.agg #[.string A, .string V], .agg #[.string A, .string V]] w fun e w' => e = .returned (.bool true) ∧ Below w0.heap.size w0 w' := by
  go_enter Tryz.func49, Tryz.ntmps49
  go_wp2
  go_ret
  exact ⟨rfl, more (more hB _) _⟩
set_option maxRecDepth 100000 in
set_option maxHeartbeats 1000000 in
theorem eqRdnS_same (ao bo : Option Addr) (d : RdnL) (ca cb : Nat) (w : World) (hda : DnAt w ao d) (hdb : DnAt w bo d) (hl : d.length ≤ 1048576) :
    Calls Tryz.prog 19 #[.slice ao d.length ca, .slice bo d.length cb] w fun e w' => e = .returned (.bool true) ∧ Below w.heap.size w w' := by
  have HA := Lib.hid hda; have HB := Lib.hid hdb; clear hda hdb
  go_enter Tryz.func19, Tryz.ntmps19
  go_wp2
  go_loopw [5] (fun i wr => ∃ k : Nat, k ≤ d.length ∧ i = .int .i64 k ∧ Below w.heap.size w wr) (fun i _ => d.length - (intOf i).toNat)
  case atStart => exact ⟨0, Nat.zero_le _, rfl, Below.refl _ _⟩
  case round =>
    obtain ⟨k, hk, rfl, hbel⟩ := hrel
    have hsz := hbel.size
    by_cases hlt : k < d.length
    · obtain ⟨p, off, rfl, hp0, hd1, hd2⟩ := HA.out.at hlt
      obtain ⟨q, off', rfl, hq0, he1, he2⟩ := HB.out.at hlt
      generalize d[k].1 = A at *
      generalize d[k].2 = V at *
      have SK : Hid (∀ W : World, Below w.heap.size w W → (Below w.heap.size w W ∧ W.cell? ⟨p, off + k * 2, none⟩ = some (.string A) ∧ W.cell? ⟨p, off + k * 2 + 1, none⟩ = some (.string V) ∧ W.cell? ⟨q, off' + k * 2, none⟩ = some (.string A) ∧ W.cell? ⟨q, off' + k * 2 + 1, none⟩ = some (.string V))) :=
        Lib.hid (fun W h => ⟨h, (h.cell (p := ⟨p, _, none⟩) hp0).trans hd1, (h.cell (p := ⟨p, _, none⟩) hp0).trans hd2, (h.cell (p := ⟨q, _, none⟩) hq0).trans he1, (h.cell (p := ⟨q, _, none⟩) hq0).trans he2⟩)
      have hbd := hbel.drew
      clear hd1 hd2 he1 he2
      have g1 : (0 : Int) ≤ (k : Int) := by omega
      have g2 : (k : Int) < (d.length : Int) := by omega
      go_wp2_with fail
      go_region_held3 (fun W => Below w.heap.size w W ∧ W.cell? ⟨p, off + k * 2, none⟩ = some (.string A) ∧ W.cell? ⟨p, off + k * 2 + 1, none⟩ = some (.string V) ∧ W.cell? ⟨q, off' + k * 2, none⟩ = some (.string A) ∧ W.cell? ⟨q, off' + k * 2 + 1, none⟩ = some (.string V))
        (exact SK.out _ (by assumption))
        (first | (go_at_call 49; refine (eqRdn_same w _ _ _ (by assumption)).mono ?_; rintro e w2 ⟨rfl, hb2⟩) | (fail "none"))
      all_goals
        go_wp2
        go_roundw
        case rel => exact ⟨k + 1, by omega, by go_num, hb2⟩
        case measure => simp [intOf]; omega
    · go_wp2
      go_ret
      exact ⟨rfl, hbel⟩
end Go.Proofs.YtmanlnlhpgdbpaaGreat
/- Entries: names with attributes, and where they lie. -/
namespace Go.Proofs.YtmanlnlhpgdbpaaGreat
open Go.RowKit

abbrev AttrV := ByteArray × List ByteArray
/-- texts lie behind a slice -/
def StrsAt (w : World) (ao : Option Addr) (l : List ByteArray) : Prop :=
  l = [] ∨ ∃ b off, ao = some ⟨b, off, none⟩ ∧ b < w.heap.size ∧ ∀ i (h : i < l.length), w.cell? ⟨b, off + i, none⟩ = some (.string l[i])
theorem StrsAt.below {w w' : World} {ao : Option Addr} {l : List ByteArray} (h : StrsAt w ao l) (hb : Below w.heap.size w w') : StrsAt w' ao l := by
  rcases h with h | ⟨b, off, h1, h2, h3⟩
  · exact .inl h
  · exact .inr ⟨b, off, h1, Nat.lt_of_lt_of_le h2 hb.size, fun i hi => (hb.cell (p := ⟨b, off + i, none⟩) h2).trans (h3 i hi)⟩
theorem StrsAt.at {w : World} {ao : Option Addr} {l : List ByteArray} (h : StrsAt w ao l) {k : Nat} (hk : k < l.length) :
    ∃ b off, ao = some ⟨b, off, none⟩ ∧ b < w.heap.size ∧ w.cell? ⟨b, off + k, none⟩ = some (.string l[k]) := by
  rcases h with h | ⟨b, off, h1, h2, h3⟩
  · subst h; simp at hk
  · exact ⟨b, off, h1, h2, h3 k hk⟩
/-- the texts of a slice, with its capacity -/
def ValsAt (w : World) (vo : Option Addr) (vc : Nat) (l : List ByteArray) : Prop := StrsAt w vo l ∧ l.length ≤ vc ∧ (vo = none → vc = 0)
theorem ValsAt.below {w w' : World} {vo : Option Addr} {vc : Nat} {l : List ByteArray} (h : ValsAt w vo vc l) (hb : Below w.heap.size w w') : ValsAt w' vo vc l := ⟨h.1.below hb, h.2⟩
/-- attributes lie behind a slice -/
def AttrsAt (w : World) (ao : Option Addr) (l : List AttrV) : Prop :=
  l = [] ∨ ∃ b off, ao = some ⟨b, off, none⟩ ∧ b < w.heap.size ∧ ∀ i (h : i < l.length), w.cell? ⟨b, off + i * 2, none⟩ = some (.string l[i].1) ∧
    ∃ vo vc, w.cell? ⟨b, off + i * 2 + 1, none⟩ = some (.slice vo l[i].2.length vc) ∧ ValsAt w vo vc l[i].2
theorem AttrsAt.below {w w' : World} {ao : Option Addr} {l : List AttrV} (h : AttrsAt w ao l) (hb : Below w.heap.size w w') : AttrsAt w' ao l := by
  rcases h with h | ⟨b, off, h1, h2, h3⟩
  · exact .inl h
  · refine .inr ⟨b, off, h1, Nat.lt_of_lt_of_le h2 hb.size, fun i hi => ?_⟩
    obtain ⟨g1, vo, vc, g2, g3⟩ := h3 i hi
    exact ⟨(hb.cell (p := ⟨b, off + i * 2, none⟩) h2).trans g1, vo, vc, (hb.cell (p := ⟨b, off + i * 2 + 1, none⟩) h2).trans g2, g3.below hb⟩
theorem AttrsAt.at {w : World} {ao : Option Addr} {l : List AttrV} (h : AttrsAt w ao l) {k : Nat} (hk : k < l.length) :
    ∃ b off vo vc, ao = some ⟨b, off, none⟩ ∧ b < w.heap.size ∧ w.cell? ⟨b, off + k * 2, none⟩ = some (.string l[k].1) ∧ w.cell? ⟨b, off + k * 2 + 1, none⟩ = some (.slice vo l[k].2.length vc) ∧ ValsAt w vo vc l[k].2 := by
  rcases h with h | ⟨b, off, h1, h2, h3⟩
  · subst h; simp at hk
  · obtain ⟨g1, vo, vc, g2, g3⟩ := h3 k hk
    exact ⟨b, off, vo, vc, h1, h2, g1, g2, g3⟩
/-- all its strings are strings of Go -/
def LongV (l : List ByteArray) : Prop := l.length ≤ 9223372036854775807 ∧ ∀ s ∈ l, s.size ≤ maxLen
def LongA (l : List AttrV) : Prop := l.length ≤ 9223372036854775807 ∧ ∀ a ∈ l, a.1.size ≤ maxLen ∧ LongV a.2
def FitsV (l : List ByteArray) : Prop := l.length ≤ 1048576 ∧ ∀ s ∈ l, s.size ≤ 1048576
def FitsA (l : List AttrV) : Prop := l.length ≤ 1048576 ∧ ∀ a ∈ l, a.1.size ≤ 1048576 ∧ FitsV a.2
def sizeV (l : List ByteArray) : Nat := (l.map (·.size)).sum
def sizeA (a : AttrV) : Nat := a.1.size + (a.2.length + sizeV a.2)
def sizeAs (l : List AttrV) : Nat := (l.map sizeA).sum
theorem sizeV_take (d : List ByteArray) (k : Nat) (h : k < d.length) : sizeV (d.take (k + 1)) = sizeV (d.take k) + d[k].size := by
  unfold sizeV; rw [List.take_succ_eq_append_getElem h, List.map_append, List.sum_append]; simp
theorem sizeV_le (d : List ByteArray) (k : Nat) : sizeV (d.take k) ≤ sizeV d := by
  have h := List.take_append_drop k d
  have : sizeV d = sizeV (d.take k) + sizeV (d.drop k) := by
    unfold sizeV; rw [← List.sum_append, ← List.map_append, h]
  omega
theorem sum_mem {l : List Nat} {x : Nat} (h : x ∈ l) : x ≤ l.sum := by
  induction l with
  | nil => simp at h
  | cons y l ih =>
    rw [List.sum_cons]
    rcases List.mem_cons.1 h with rfl | h
    · omega
    · have := ih h; omega
theorem sizeV_mem {l : List ByteArray} {s : ByteArray} (h : s ∈ l) : s.size ≤ sizeV l := sum_mem (List.mem_map_of_mem h)
theorem sizeAs_take (d : List AttrV) (k : Nat) (h : k < d.length) : sizeAs (d.take (k + 1)) = sizeAs (d.take k) + sizeA d[k] := by
  unfold sizeAs; rw [List.take_succ_eq_append_getElem h, List.map_append, List.sum_append]; simp
theorem sizeAs_le (d : List AttrV) (k : Nat) : sizeAs (d.take k) ≤ sizeAs d := by
  have h := List.take_append_drop k d
  have : sizeAs d = sizeAs (d.take k) + sizeAs (d.drop k) := by
    unfold sizeAs; rw [← List.sum_append, ← List.map_append, h]
  omega
theorem sizeAs_mem {l : List AttrV} {a : AttrV} (h : a ∈ l) : sizeA a ≤ sizeAs l := sum_mem (List.mem_map_of_mem h)
theorem fitsV_of {l : List ByteArray} (h : l.length + sizeV l ≤ 1048576) : FitsV l := ⟨by omega, fun s hs => by have := sizeV_mem hs; omega⟩
theorem fitsA_of {l : List AttrV} (h : l.length + sizeAs l ≤ 1048576) : FitsA l :=
  ⟨by omega, fun a ha => by
    have := sizeAs_mem ha
    unfold sizeA at this
    exact ⟨by omega, fitsV_of (by omega)⟩⟩
theorem FitsA.at {l : List AttrV} (h : FitsA l) {k : Nat} (hk : k < l.length) : l[k].1.size ≤ 1048576 ∧ FitsV l[k].2 := h.2 _ (List.getElem_mem hk)
theorem FitsV.at {l : List ByteArray} (h : FitsV l) {k : Nat} (hk : k < l.length) : l[k].size ≤ 1048576 := h.2 _ (List.getElem_mem hk)
theorem FitsV.long {l : List ByteArray} (h : FitsV l) : LongV l := ⟨by have := h.1; omega, fun s hs => by have := h.2 s hs; unfold maxLen; omega⟩
end Go.Proofs.YtmanlnlhpgdbpaaGreat
/- EntryRight: the order of texts; the values of an attribute. -/
namespace Go.Proofs
open Go.Shelf
def Tryz.lays106_ren : Go.Shelf.Ren := ⟨fun | 106 => 129 | 213 => 137 | 265 => 141 | n => n, fun | 9 => 9 | 3 => 3 | n => n, fun | n => n⟩
theorem Tryz.lays106 : Go.Proofs.Lays.n106 Tryz.prog Tryz.lays106_ren := {
  mixed := by kernel_rfl
  f106 := Tryz.func129.trans (congrArg some (by kernel_rfl))
  f213 := Tryz.func137.trans (congrArg some (by kernel_rfl))
  f265 := Tryz.func141.trans (congrArg some (by kernel_rfl))
  t3 := Tryz.underlying3
  a3 := Tryz.isAgg3
  z3 := Tryz.sizeOf3
  v3 := Tryz.zeroValue3
  t9 := Tryz.underlying9
  a9 := Tryz.isAgg9
  z9 := Tryz.sizeOf9
  v9 := Tryz.zeroValue9 }
open Go.RowKit in
theorem Tryz.strings_Compare (a b : ByteArray) (w : World) :
    Calls Tryz.prog 129 #[.string a, .string b] w fun e w' => e = .returned (.int .i64 (Lib.compareBytes a.data.toList b.data.toList)) ∧ w' = w := Any.strings_Compare Tryz.lays106 a b w
namespace YtmanlnlhpgdbpaaGreat
open Go.RowKit
attribute [local go_sem ↓] Go.wp_at_zero Go.wp_at_succ

theorem compare_less : ∀ (a b : List UInt8), decide (0 ≤ Lib.compareBytes a b) = !(Op.bytesLess a b)
  | [], [] => rfl
  | [], _ :: _ => rfl
  | _ :: _, [] => rfl
  | a :: xs, b :: ys => by
    unfold Lib.compareBytes Op.bytesLess
    have ih := compare_less xs ys
    by_cases h1 : a < b
    · simp [h1]
    · by_cases h2 : b < a
      · have h3 : a ≠ b := by rintro rfl; exact h1 h2
        simp [h1, h2, h3]
      · have h3 : a = b := UInt8.le_antisymm (UInt8.not_lt.1 h2) (UInt8.not_lt.1 h1)
        subst h3
        simp [h1, ih]
/-- a list each of whose elements is less than the next -/
noncomputable def incB {α : Type} (lt : α → α → Bool) (l : List α) : Bool := @decide (∀ i (h : i + 1 < l.length), lt l[i] l[i + 1] = true) (Classical.propDecidable _)
theorem incB_yes {α : Type} {lt : α → α → Bool} {l : List α} (h : ∀ i (h : i + 1 < l.length), lt l[i] l[i + 1] = true) : incB lt l = true := @decide_eq_true _ (Classical.propDecidable _) h
theorem incB_no {α : Type} {lt : α → α → Bool} {l : List α} {k : Nat} (hk : k + 1 < l.length) (h : lt l[k] l[k + 1] = false) : incB lt l = false :=
  @decide_eq_false _ (Classical.propDecidable _) (fun g => by have := g k hk; rw [h] at this; cases this)
def normLt (x y : ByteArray) : Bool := Op.bytesLess (normS x).toList (normS y).toList
def nameLt (a b : AttrV) : Bool := Op.bytesLess a.1.toList b.1.toList
noncomputable def valsB (l : List ByteArray) : Bool := decide (1 ≤ l.length) && decide (l.length ≤ 4) && l.all valB && incB normLt l
noncomputable def attrB (a : AttrV) : Bool := nmL a.1 && valsB a.2
noncomputable def attrsB (l : List AttrV) : Bool := decide (l.length ≤ 8) && l.all attrB && incB nameLt l
noncomputable def rightB (d : RdnL) (l : List AttrV) : Bool := dnB d && decide (0 < d.length) && attrsB l
set_option maxHeartbeats 1000000 in
theorem compareNorms_any (w0 : World) (a b : ByteArray) (w : World) (ha : a.size ≤ maxLen) (hb : b.size ≤ maxLen) (hB : Below w0.heap.size w0 w) :
    Calls Tryz.prog 128 #[.string a, .string b] w fun e w' => (∃ c : Int, e = .returned (.int .i64 c) ∧ decide (0 ≤ c) = !(normLt a b)) ∧ Below w0.heap.size w0 w' := by
  have HC : Hid (decide (0 ≤ Lib.compareBytes (normS a).data.toList (normS b).data.toList) = !(normLt a b)) := Lib.hid (by rw [compare_less]; unfold normLt; rw [Lib.toList_data, Lib.toList_data])
  have hbd := hB.drew
  have HN : Hid (∀ (s : ByteArray) W, s.size ≤ maxLen → Below w0.heap.size w0 W → Calls Tryz.prog 122 #[.string s] W fun e w' => e = .returned (.string (normS s)) ∧ Below w0.heap.size w0 w') :=
    Lib.hid (fun s W hs h => (Norm_any s W hs).mono fun _ _ g => ⟨g.1, h.trans (g.2.mono h.size)⟩)
  go_enter Tryz.func128, Tryz.ntmps128
  go_wp2_with (first
    | (go_at_call 122; refine (HN.out _ _ ha hB).mono ?_; rintro e w1 ⟨rfl, hb1⟩; clear hB hbd)
    | (go_at_call 122; refine (HN.out _ _ hb hb1).mono ?_; rintro e w2 ⟨rfl, hb2⟩; clear hb1)
    | (go_at_call 129; refine (Tryz.strings_Compare _ _ _).mono ?_; rintro e w3 ⟨rfl, rfl⟩)
    | (fail "none"))
  go_ret
  exact ⟨⟨_, rfl, HC.out⟩, hb2⟩
theorem FitsV.max {l : List ByteArray} (h : FitsV l) {k : Nat} (hk : k < l.length) : l[k].size ≤ maxLen := by have := h.at hk; unfold maxLen; omega
set_option maxRecDepth 100000 in
set_option maxHeartbeats 1000000 in
theorem areProper_any (ao : Option Addr) (l : List ByteArray) (cap : Nat) (w : World) (hd : StrsAt w ao l) (hf : FitsV l) :
    Calls Tryz.prog 126 #[.slice ao l.length cap] w fun e w' => e = .returned (.bool (l.all valB)) ∧ Below w.heap.size w w' := by
  have hl := hf.1
  have HD := Lib.hid hd; have HF := Lib.hid hf; clear hd hf
  go_enter Tryz.func126, Tryz.ntmps126
  go_wp2
  go_loopw [7] (fun i wr => ∃ k : Nat, k ≤ l.length ∧ i = .int .i64 k ∧ (l.take k).all valB = true ∧ Below w.heap.size w wr) (fun i _ => l.length - (intOf i).toNat)
  case atStart => exact ⟨0, Nat.zero_le _, rfl, rfl, Below.refl _ _⟩
  case round =>
    obtain ⟨k, hk, rfl, ha, hbel⟩ := hrel
    have Ha := Lib.hid ha; clear ha
    have hsz := hbel.size
    by_cases hlt : k < l.length
    · obtain ⟨b, off, rfl, hb0, hc1⟩ := (HD.out.below hbel).at hlt
      have hz := HF.out.max hlt
      generalize hr : valB l[k] = r at *
      have HR := Lib.hid hr; clear hr
      cases r
      · have HX := Lib.hid (all_bad valB l k hlt HR.out)
        go_wp2_with (first | (go_at_call 110; refine (isProperValue_any _ _ hz).mono ?_; rintro e w1 ⟨rfl, hb1⟩; rw [HR.out]) | (fail "none"))
        go_ret
        exact ⟨ret_bool (by rw [HX.out]), hbel.trans (hb1.mono hsz)⟩
      · have HT : Hid ((l.take (k + 1)).all valB = true) := Lib.hid (by rw [all_take valB l k hlt, Ha.out, HR.out]; rfl)
        go_wp2_with (first | (go_at_call 110; refine (isProperValue_any _ _ hz).mono ?_; rintro e w1 ⟨rfl, hb1⟩; rw [HR.out]) | (fail "none"))
        go_roundw
        case rel => exact ⟨k + 1, by omega, by go_num, HT.out, hbel.trans (hb1.mono hsz)⟩
        case measure => simp [intOf]; omega
    · have e : l.take k = l := List.take_of_length_le (by omega)
      have HT : Hid (l.all valB = true) := Lib.hid (by rw [← e]; exact Ha.out)
      clear e
      go_wp2
      go_ret
      exact ⟨ret_bool (by rw [HT.out]), hbel⟩
set_option maxRecDepth 100000 in
set_option maxHeartbeats 1000000 in
theorem incStr_any (ao : Option Addr) (l : List ByteArray) (cap : Nat) (w : World) (hd : StrsAt w ao l) (hf : FitsV l) :
    Calls Tryz.prog 127 #[.slice ao l.length cap, .func (.func 128) #[] #[]] w fun e w' => e = .returned (.bool (incB normLt l)) ∧ Below w.heap.size w w' := by
  have hl := hf.1
  have HD := Lib.hid hd; have HF := Lib.hid hf; clear hd hf
  go_enter Tryz.func127, Tryz.ntmps127
  go_wp2
  go_loopw [5] (fun i wr => ∃ m : Nat, m ≤ l.length ∧ i = .int .i64 ((m : Int) + 1) ∧ (∀ j (h : j + 1 < l.length), j < m → normLt l[j] l[j + 1] = true) ∧ Below w.heap.size w wr) (fun i _ => l.length + 1 - (intOf i).toNat)
  case atStart => exact ⟨0, Nat.zero_le _, rfl, fun j _ h => absurd h (Nat.not_lt_zero _), Below.refl _ _⟩
  case round =>
    obtain ⟨m, hm, rfl, ha, hbel⟩ := hrel
    have Ha := Lib.hid ha; clear ha
    have hsz := hbel.size
    by_cases hlt : m + 1 < l.length
    · have hm0 : m < l.length := by omega
      obtain ⟨b, off, rfl, hw0, hd1⟩ := HD.out.at hm0
      obtain ⟨b', off', e, _, hd2⟩ := HD.out.at hlt
      cases e
      have hc1 := (hbel.cell (p := ⟨b, off + m, none⟩) hw0).trans hd1
      have hc2 := (hbel.cell (p := ⟨b, off + (m + 1), none⟩) hw0).trans hd2
      have hz1 := HF.out.max hm0
      have hz2 := HF.out.max hlt
      have g1 : (m : Int) + 1 < (l.length : Int) := by omega
      have g2 : (0 : Int) ≤ (m : Int) := by omega
      have g3 : (m : Int) < (l.length : Int) := by omega
      have g4 : (0 : Int) ≤ (m : Int) + 1 := by omega
      have HN : Hid (∀ j (h : j + 1 < l.length), j < m + 1 → normLt l[m] l[m + 1] = true → normLt l[j] l[j + 1] = true) := Lib.hid (fun j h hj hn => by
        by_cases e : j = m
        · subst e; exact hn
        · exact Ha.out j h (by omega))
      have HX : Hid (normLt l[m] l[m + 1] = false → incB normLt l = false) := Lib.hid (fun h => incB_no hlt h)
      generalize hx : l[m] = X at *
      generalize hy : l[m + 1] = Y at *
      clear hx hy
      have SK : Hid (∀ W : World, Below w.heap.size w W → (Below w.heap.size w W ∧ W.cell? ⟨b, off + m, none⟩ = some (.string X) ∧ W.cell? ⟨b, off + (m + 1), none⟩ = some (.string Y))) :=
        Lib.hid (fun W h => ⟨h, (h.cell (p := ⟨b, _, none⟩) hw0).trans hd1, (h.cell (p := ⟨b, _, none⟩) hw0).trans hd2⟩)
      have hbd := hbel.drew
      have hwr : IntKind.i64.wrap (m : Int) = (m : Int) := IntWalk.i64_in _ (by omega)
      have hwr2 : IntKind.i64.wrap ((m : Int) + 1 - 1) = (m : Int) := by rw [Int.add_sub_cancel]; exact hwr
      clear hc1 hc2 hd1 hd2
      cases hn : normLt X Y
      · have HX' := Lib.hid (HX.out hn)
        go_wp2_with fail
        go_region_held3 (fun W => Below w.heap.size w W ∧ W.cell? ⟨b, off + m, none⟩ = some (.string X) ∧ W.cell? ⟨b, off + (m + 1), none⟩ = some (.string Y))
          (exact SK.out _ (by assumption))
          (first | (go_at_call 128; refine (compareNorms_any w X Y _ hz1 hz2 (by assumption)).mono ?_; rintro e w1 ⟨⟨c, rfl, hc⟩, hb1⟩; rw [hn] at hc; have hc0 : 0 ≤ c := (by simpa using hc); clear hc) | (fail "none"))
        all_goals
          go_wp2
          go_ret
          exact ⟨ret_bool (by rw [HX'.out]), hb1⟩
      · go_wp2_with fail
        go_region_held3 (fun W => Below w.heap.size w W ∧ W.cell? ⟨b, off + m, none⟩ = some (.string X) ∧ W.cell? ⟨b, off + (m + 1), none⟩ = some (.string Y))
          (exact SK.out _ (by assumption))
          (first | (go_at_call 128; refine (compareNorms_any w X Y _ hz1 hz2 (by assumption)).mono ?_; rintro e w1 ⟨⟨c, rfl, hc⟩, hb1⟩; rw [hn] at hc; have hc0 : ¬ 0 ≤ c := (by simpa using hc); clear hc) | (fail "none"))
        all_goals
          go_wp2
          go_roundw
          case rel => exact ⟨m + 1, by omega, by go_num, fun j h hj => HN.out j h hj hn, hb1⟩
          case measure => simp [intOf]; omega
    · have HT : Hid (incB normLt l = true) := Lib.hid (incB_yes fun j h => Ha.out j h (by omega))
      have g1 : ¬ (m : Int) + 1 < (l.length : Int) := by omega
      go_wp2
      go_ret
      exact ⟨ret_bool (by rw [HT.out]), hbel⟩
set_option maxRecDepth 100000 in
set_option maxHeartbeats 1000000 in
theorem attrRight_any (A : ByteArray) (vo : Option Addr) (l : List ByteArray) (vc : Nat) (w : World) (hA : A.size ≤ maxLen) (hd : StrsAt w vo l) (hf : FitsV l) :
    Calls Tryz.prog 116 #[.agg #[.string A, .slice vo l.length vc]] w fun e w' => e = .returned (.bool (attrB (A, l))) ∧ Below w.heap.size w w' := by
  have hl := hf.1
  have HD := Lib.hid hd; have HF := Lib.hid hf; clear hd hf
  have HB0 : Hid (Below w.heap.size w (w.alloc (.cells #[.string A, .slice vo l.length vc] 109))) := Lib.hid (more (Below.refl _ _) _)
  have HE : Hid (attrB (A, l) = (nmL A && (decide (1 ≤ l.length) && decide (l.length ≤ 4) && l.all valB && incB normLt l))) := Lib.hid rfl
  by_cases h1 : l.length < 1
  · have g1 : (l.length : Int) < 1 := by omega
    go_enter Tryz.func116, Tryz.ntmps116
    go_wp2
    go_ret
    exact ⟨ret_bool (by rw [HE.out]; simp [show ¬ 1 ≤ l.length by omega]), HB0.out⟩
  · have g1 : ¬ (l.length : Int) < 1 := by omega
    by_cases h4 : 4 < l.length
    · have g4 : 4 < (l.length : Int) := by omega
      go_enter Tryz.func116, Tryz.ntmps116
      go_wp2
      go_ret
      exact ⟨ret_bool (by rw [HE.out]; simp [show ¬ l.length ≤ 4 by omega]), HB0.out⟩
    · have g4 : ¬ 4 < (l.length : Int) := by omega
      have d1 : decide (1 ≤ l.length) = true := decide_eq_true (by omega)
      have d2 : decide (l.length ≤ 4) = true := decide_eq_true (by omega)
      rw [d1, d2] at HE
      clear d1 d2
      cases hn : nmL A
      · rw [hn] at HE
        go_enter Tryz.func116, Tryz.ntmps116
        go_wp2_with (first | (go_at_call 109; refine (NameRight_any _ _ hA).mono ?_; rintro e w' ⟨rfl, rfl⟩) | (fail "none"))
        go_ret
        exact ⟨ret_bool (by rw [HE.out]; simp), HB0.out⟩
      · rw [hn] at HE
        cases hv : l.all valB
        · rw [hv] at HE
          go_enter Tryz.func116, Tryz.ntmps116
          go_wp2_with (first | (go_at_call 109; refine (NameRight_any _ _ hA).mono ?_; rintro e w' ⟨rfl, rfl⟩) | (go_at_call 126; refine (areProper_any vo l vc _ (HD.out.below HB0.out) HF.out).mono ?_; rw [hv]; rintro e w1 ⟨rfl, hb1⟩) | (fail "none"))
          go_ret
          exact ⟨ret_bool (by rw [HE.out]; simp), HB0.out.trans (hb1.mono HB0.out.size)⟩
        · rw [hv] at HE
          go_enter Tryz.func116, Tryz.ntmps116
          go_wp2_with (first | (go_at_call 109; refine (NameRight_any _ _ hA).mono ?_; rintro e w' ⟨rfl, rfl⟩) | (go_at_call 126; refine (areProper_any vo l vc _ (HD.out.below HB0.out) HF.out).mono ?_; rw [hv]; rintro e w1 ⟨rfl, hb1⟩; have B1 := Lib.hid (HB0.out.trans (hb1.mono HB0.out.size)); have c1 : w1.cell? ⟨w.heap.size, 1, none⟩ = some (.slice vo l.length vc) := (hb1.cell (p := ⟨w.heap.size, 1, none⟩) (by simp)).trans (by unfold World.cell?; rw [heap_alloc_new]; rfl)) | (fail "none"))
          refine (incStr_any vo l vc w1 (HD.out.below B1.out) HF.out).mono ?_
          rintro e w2 ⟨rfl, hb2⟩
          have B2 := Lib.hid (B1.out.trans (hb2.mono B1.out.size))
          clear hb1 hb2
          generalize incB normLt l = r at *
          go_wp2
          go_ret
          exact ⟨ret_bool (by rw [HE.out]; simp), B2.out⟩
end YtmanlnlhpgdbpaaGreat
end Go.Proofs
/- Escaped values: what the texts of the program and of the specification return. -/
namespace Go.Proofs.YtmanlnlhpgdbpaaGreat
open Go.RowKit

/-- does a backslash stand ahead of byte i (of n)? -/
def oddI (c : Int) (i n : Nat) : Bool := (c == 44) || (c == 43) || (c == 34) || (c == 92) || (c == 60) || (c == 62) || (c == 59) || (c == 61) || ((c == 35) && decide (i = 0)) || ((c == 32) && (decide (i = 0) || decide (i + 1 = n)))
theorem odd35 {c : Int} (h : (c == 35) = true) (k n : Nat) : decide (k = 0) = oddI c k n := by
  have hc : c = 35 := by simpa using h
  subst hc; simp [oddI]
theorem odd_first (k : Nat) : ((k : Int) == 0) = decide (k = 0) := by rw [Bool.eq_iff_iff]; simp
theorem odd_last (k n : Nat) : ((k : Int) == (n : Int) - 1) = decide (k + 1 = n) := by rw [Bool.eq_iff_iff]; simp; omega
set_option maxHeartbeats 1000000 in
theorem isEscaped_any (s : ByteArray) (k : Nat) (w : World) (hk : k < s.size) (hs : s.size ≤ maxLen) :
    Calls Tryz.prog 93 #[.string s, .int .i64 k] w fun e w' => e = .returned (.bool (oddI (s[k].toNat : Int) k s.size)) ∧ w = w' := by
  unfold maxLen at hs
  have E1 := Lib.hid (odd_first k)
  have E2 := Lib.hid (odd_last k s.size)
  go_enter Tryz.func93, Tryz.ntmps93
  go_wp2
  all_goals
    go_ret
    refine ⟨ret_bool ?_, rfl⟩
    go_light
    generalize (s[k].toNat : Int) = c at *
    first | (refine E1.out.trans (odd35 ?_ _ _); assumption) | (unfold oddI; simp only [*, Bool.true_or, Bool.or_true, Bool.false_or]; done) | (unfold oddI; (try simp only [E1.out, E2.out]); simp [*]; done)
set_option maxHeartbeats 1000000 in
theorem l02Odd_any (s : ByteArray) (k : Nat) (w : World) (hk : k < s.size) (hs : s.size ≤ maxLen) :
    Calls Tryz.prog 108 #[.string s, .int .i64 k] w fun e w' => e = .returned (.bool (oddI (s[k].toNat : Int) k s.size)) ∧ w = w' := by
  unfold maxLen at hs
  have E1 := Lib.hid (odd_first k)
  have E2 := Lib.hid (odd_last k s.size)
  go_enter Tryz.func108, Tryz.ntmps108
  go_wp2
  all_goals
    go_ret
    refine ⟨ret_bool ?_, rfl⟩
    go_light
    generalize (s[k].toNat : Int) = c at *
    first | (refine E1.out.trans (odd35 ?_ _ _); assumption) | (unfold oddI; simp only [*, Bool.true_or, Bool.or_true, Bool.false_or]; done) | (unfold oddI; (try simp only [E1.out, E2.out]); simp [*]; done)

/-- the escaped form of the first k bytes -/
def escTo (l : List UInt8) (k : Nat) : List UInt8 := (List.range k).flatMap fun i => if oddI ((l.getD i 0).toNat : Int) i l.length = true then [92, l.getD i 0] else [l.getD i 0]
def escL (l : List UInt8) : List UInt8 := escTo l l.length
def escS (s : ByteArray) : ByteArray := ⟨(escL s.data.toList).toArray⟩
theorem getD_at (s : ByteArray) (k : Nat) (h : k < s.size) : s.data.toList.getD k 0 = s[k] := by
  have h' : k < s.data.toList.length := by simpa using h
  rw [List.getD_eq_getElem?_getD, List.getElem?_eq_getElem h']; rfl
theorem escTo_succ (s : ByteArray) (k : Nat) (h : k < s.size) :
    escTo s.data.toList (k + 1) = escTo s.data.toList k ++ (if oddI (s[k].toNat : Int) k s.size = true then [92, s[k]] else [s[k]]) := by
  have e : ((s.data.toList.getD k 0 : UInt8)) = s[k] := getD_at s k h
  unfold escTo
  rw [List.range_succ, List.flatMap_append, List.flatMap_singleton, e, size_len]
theorem escTo_len (l : List UInt8) (k : Nat) : (escTo l k).length ≤ 2 * k := by
  induction k with
  | zero => simp [escTo]
  | succ k ih =>
    unfold escTo at ih ⊢
    rw [List.range_succ, List.flatMap_append, List.length_append, List.flatMap_singleton]
    split <;> simp only [List.length_cons, List.length_nil] <;> omega
theorem escS_of (s : ByteArray) (k : Nat) (h : k = s.size) : escS s = ⟨(escTo s.data.toList k).toArray⟩ := by subst h; unfold escS escL; rw [size_len]
def EscAt (s : ByteArray) (w : World) (v i : Value) (wr : World) (k : Nat) : Prop :=
  k ≤ s.size ∧ i = .int .i64 k ∧ wr.ownsRow w.heap.size 5 1 v (escTo s.data.toList k).length (bs (escTo s.data.toList k)) ∧ Below w.heap.size w wr

set_option maxRecDepth 100000 in
set_option maxHeartbeats 1000000 in
theorem escapeValue_any (s : ByteArray) (w : World) (hs : s.size ≤ 1048576) :
    Calls Tryz.prog 75 #[.string s] w fun e w' => e = .returned (.string (escS s)) ∧ Below w.heap.size w w' := by
  have hM : s.size ≤ maxLen := by unfold maxLen; omega
  go_enter Tryz.func75, Tryz.ntmps75
  go_wp2
  go_loopw [3, 7] (fun v i wr => ∃ k : Nat, EscAt s w v i wr k) (fun _ i _ => s.size - (intOf i).toNat)
  case atStart => exact ⟨0, Nat.zero_le _, rfl, ⟨rfl, .inl ⟨rfl, rfl⟩⟩, Below.refl _ _⟩
  case round =>
    obtain ⟨k, hk, rfl, hown, hbel⟩ := hrel
    have hlen := escTo_len s.data.toList k
    have hsz := hbel.size
    by_cases hlt : k < s.size
    · have HN := Lib.hid (escTo_succ s k hlt)
      generalize escTo s.data.toList k = pre at *
      cases ho : oddI (s[k].toNat : Int) k s.size
      · rw [ho] at HN
        go_wp2_with (first | (go_at_call 93; refine (isEscaped_any _ _ _ hlt hM).mono ?_; rintro e w' ⟨rfl, rfl⟩; rw [ho]) | (at_builtin; refine append_byte w.heap.size rfl _ _ rfl _ pre rfl hown s[k] _ rfl rfl (by omega) hsz hbel ?_; intro v' w1 hown' hbel' hsz'))
        go_roundw
        case rel => exact ⟨k + 1, by omega, by go_num, by rw [HN.out]; exact hown', hbel'⟩
        case measure => simp [intOf]; omega
      · rw [ho] at HN
        go_wp2_with (first | (go_at_call 93; refine (isEscaped_any _ _ _ hlt hM).mono ?_; rintro e w' ⟨rfl, rfl⟩; rw [ho]) | (at_builtin; refine append_byte w.heap.size rfl (.tmp 13) _ rfl _ pre rfl hown 92 _ rfl rfl (by omega) hsz hbel ?_; intro v' w1 hown' hbel' hsz') | (at_builtin; refine append_byte w.heap.size rfl (.tmp 16) _ rfl _ (pre ++ [92]) rfl hown' s[k] _ rfl rfl (by simp; omega) hsz' hbel' ?_; intro v2 w2 hown2 hbel2 hsz2))
        go_roundw
        case rel => exact ⟨k + 1, by omega, by go_num, by rw [HN.out]; simpa using hown2, hbel2⟩
        case measure => simp [intOf]; omega
    · have HE := Lib.hid (escS_of s k (by omega))
      have hcv := str_own _ _ _ _ hown
      go_wp2
      go_ret
      exact ⟨ret_str (by rw [HE.out]), hbel⟩
set_option maxRecDepth 100000 in
set_option maxHeartbeats 1000000 in
theorem l02Escape_any (s : ByteArray) (w : World) (hs : s.size ≤ 1048576) :
    Calls Tryz.prog 90 #[.string s] w fun e w' => e = .returned (.string (escS s)) ∧ Below w.heap.size w w' := by
  have hM : s.size ≤ maxLen := by unfold maxLen; omega
  go_enter Tryz.func90, Tryz.ntmps90
  go_wp2
  go_loopw [3, 4] (fun v i wr => ∃ k : Nat, EscAt s w v i wr k) (fun _ i _ => s.size - (intOf i).toNat)
  case atStart => exact ⟨0, Nat.zero_le _, rfl, World.ownsRow_made _ _ 0 (Nat.le_refl _) (by unfold maxLen; omega) rfl, (Below.refl _ _).alloc (Nat.le_refl _) _⟩
  case round =>
    obtain ⟨k, hk, rfl, hown, hbel⟩ := hrel
    have hlen := escTo_len s.data.toList k
    have hsz := hbel.size
    by_cases hlt : k < s.size
    · have HN := Lib.hid (escTo_succ s k hlt)
      generalize escTo s.data.toList k = pre at *
      cases ho : oddI (s[k].toNat : Int) k s.size
      · rw [ho] at HN
        go_wp2_with (first | (go_at_call 108; refine (l02Odd_any _ _ _ hlt hM).mono ?_; rintro e w' ⟨rfl, rfl⟩; rw [ho]) | (at_builtin; refine append_byte w.heap.size rfl _ _ rfl _ pre rfl hown s[k] _ rfl rfl (by omega) hsz hbel ?_; intro v' w1 hown' hbel' hsz'))
        go_roundw
        case rel => exact ⟨k + 1, by omega, by go_num, by rw [HN.out]; exact hown', hbel'⟩
        case measure => simp [intOf]; omega
      · rw [ho] at HN
        go_wp2_with (first | (go_at_call 108; refine (l02Odd_any _ _ _ hlt hM).mono ?_; rintro e w' ⟨rfl, rfl⟩; rw [ho]) | (at_builtin; refine append_byte w.heap.size rfl (.tmp 15) _ rfl _ pre rfl hown 92 _ rfl rfl (by omega) hsz hbel ?_; intro v' w1 hown' hbel' hsz') | (at_builtin; refine append_byte w.heap.size rfl (.tmp 18) _ rfl _ (pre ++ [92]) rfl hown' s[k] _ rfl rfl (by simp; omega) hsz' hbel' ?_; intro v2 w2 hown2 hbel2 hsz2))
        go_roundw
        case rel => exact ⟨k + 1, by omega, by go_num, by rw [HN.out]; simpa using hown2, hbel2⟩
        case measure => simp [intOf]; omega
    · have HE := Lib.hid (escS_of s k (by omega))
      have hcv := str_own _ _ _ _ hown
      go_wp2
      go_ret
      exact ⟨ret_str (by rw [HE.out]), hbel⟩
end Go.Proofs.YtmanlnlhpgdbpaaGreat
/- Contracts of two library functions, laid over this program by the kit's command, in plain words. -/
namespace Go.Proofs
open Go.Shelf
def Tryz.lays156_ren : Go.Shelf.Ren := ⟨fun | 156 => 76 | 165 => 94 | 166 => 95 | 169 => 96 | 240 => 111 | 241 => 112 | 276 => 123 | 277 => 124 | n => n, fun | 31 => 94 | 9 => 9 | 3 => 3 | 4 => 4 | 0 => 0 | 20 => 20 | 72 => 125 | 76 => 129 | 70 => 123 | 37 => 115 | 75 => 128 | 127 => 140 | 164 => 146 | 5 => 5 | 80 => 131 | n => n, fun | n => n⟩
theorem Tryz.lays156 : Go.Proofs.Lays.n156 Tryz.prog Tryz.lays156_ren := {
  mixed := by kernel_rfl
  f156 := Tryz.func76.trans (congrArg some (by kernel_rfl))
  f165 := Tryz.func94.trans (congrArg some (by kernel_rfl))
  f166 := Tryz.func95.trans (congrArg some (by kernel_rfl))
  f169 := Tryz.func96.trans (congrArg some (by kernel_rfl))
  f240 := Tryz.func111.trans (congrArg some (by kernel_rfl))
  f241 := Tryz.func112.trans (congrArg some (by kernel_rfl))
  f276 := Tryz.func123.trans (congrArg some (by kernel_rfl))
  f277 := Tryz.func124.trans (congrArg some (by kernel_rfl))
  t0 := Tryz.underlying0
  a0 := Tryz.isAgg0
  z0 := Tryz.sizeOf0
  v0 := Tryz.zeroValue0
  t3 := Tryz.underlying3
  a3 := Tryz.isAgg3
  z3 := Tryz.sizeOf3
  v3 := Tryz.zeroValue3
  t4 := Tryz.underlying4
  a4 := Tryz.isAgg4
  z4 := Tryz.sizeOf4
  v4 := Tryz.zeroValue4
  t9 := Tryz.underlying9
  a9 := Tryz.isAgg9
  z9 := Tryz.sizeOf9
  v9 := Tryz.zeroValue9
  t20 := Tryz.underlying20
  a20 := Tryz.isAgg20
  z20 := Tryz.sizeOf20
  v20 := Tryz.zeroValue20
  t31 := Tryz.underlying94
  a31 := Tryz.isAgg94
  z31 := Tryz.sizeOf94
  v31 := Tryz.zeroValue94
  t37 := Tryz.underlying115
  a37 := Tryz.isAgg115
  z37 := Tryz.sizeOf115
  v37 := Tryz.zeroValue115
  t70 := Tryz.underlying123
  a70 := Tryz.isAgg123
  z70 := Tryz.sizeOf123
  v70 := Tryz.zeroValue123
  t72 := Tryz.underlying125
  a72 := Tryz.isAgg125
  z72 := Tryz.sizeOf125
  v72 := Tryz.zeroValue125
  t75 := Tryz.underlying128
  a75 := Tryz.isAgg128
  z75 := Tryz.sizeOf128
  v75 := Tryz.zeroValue128
  t76 := Tryz.underlying129
  a76 := Tryz.isAgg129
  z76 := Tryz.sizeOf129
  v76 := Tryz.zeroValue129
  t127 := Tryz.underlying140
  a127 := Tryz.isAgg140
  z127 := Tryz.sizeOf140
  v127 := Tryz.zeroValue140
  t164 := Tryz.underlying146
  a164 := Tryz.isAgg146
  z164 := Tryz.sizeOf146
  v164 := Tryz.zeroValue146 }
theorem Tryz.Builder_Extra_156 : Builder.Extra Tryz.prog Tryz.lays156_ren := {
  sizeBuilder := by kernel_rfl
  liesBuilder := by kernel_rfl
  t5 := Tryz.underlying5
  a5 := Tryz.isAgg5
  z5 := Tryz.sizeOf5
  v5 := Tryz.zeroValue5
  infoByte := by kernel_rfl
  cellsByte := by kernel_rfl
  sizeByte := by kernel_rfl
  neB5 := by decide }
open Go.RowKit in
theorem Tryz.strings_Join_none (a : Option Addr) (c : Nat) (sep : ByteArray) (w : World) :
    Calls Tryz.prog 76 #[.slice a 0 c, .string sep] w fun e w' => e = .returned (.string ⟨#[]⟩) ∧ w' = w := Any.strings_Join_none Tryz.lays156 Tryz.Builder_Extra_156 a c sep w
open Go.RowKit in
theorem Tryz.strings_Join (bk o c : Nat) (xs : List ByteArray) (sep : ByteArray) (w : World) (hcells : ∀ (j : Nat) x, xs[j]? = some x → w.cell? ⟨bk, o + j, none⟩ = some (.string x)) (hbk : bk < w.heap.size) (hN : xs.length ≤ 140737488355328) (hcap : xs.length ≤ c) (hlen : (Lib.join (xs.map (·.data.toList)) sep.data.toList).length ≤ 140737488355328) :
    Calls Tryz.prog 76 #[.slice (some ⟨bk, o, none⟩) xs.length c, .string sep] w fun e w' => e = .returned (.string ⟨(Lib.join (xs.map (·.data.toList)) sep.data.toList).toArray⟩) ∧ Below w.heap.size w w' := Any.strings_Join Tryz.lays156 Tryz.Builder_Extra_156 bk o c xs sep w hcells hbk hN hcap hlen
def Tryz.lays219_ren : Go.Shelf.Ren := ⟨fun | 219 => 125 | 217 => 133 | 225 => 134 | 224 => 135 | 267 => 136 | 266 => 139 | 314 => 140 | n => n, fun | 9 => 9 | 3 => 3 | 4 => 4 | 5 => 5 | 46 => 155 | 146 => 157 | 51 => 156 | n => n, fun | 1 => 0 | n => n⟩
theorem Tryz.lays219 : Go.Proofs.Lays.n219 Tryz.prog Tryz.lays219_ren := {
  mixed := by kernel_rfl
  f217 := Tryz.func133.trans (congrArg some (by kernel_rfl))
  f219 := Tryz.func125.trans (congrArg some (by kernel_rfl))
  f224 := Tryz.func135.trans (congrArg some (by kernel_rfl))
  f225 := Tryz.func134.trans (congrArg some (by kernel_rfl))
  f266 := Tryz.func139.trans (congrArg some (by kernel_rfl))
  f267 := Tryz.func136.trans (congrArg some (by kernel_rfl))
  f314 := Tryz.func140.trans (congrArg some (by kernel_rfl))
  t3 := Tryz.underlying3
  a3 := Tryz.isAgg3
  z3 := Tryz.sizeOf3
  v3 := Tryz.zeroValue3
  t4 := Tryz.underlying4
  a4 := Tryz.isAgg4
  z4 := Tryz.sizeOf4
  v4 := Tryz.zeroValue4
  t5 := Tryz.underlying5
  a5 := Tryz.isAgg5
  z5 := Tryz.sizeOf5
  v5 := Tryz.zeroValue5
  t9 := Tryz.underlying9
  a9 := Tryz.isAgg9
  z9 := Tryz.sizeOf9
  v9 := Tryz.zeroValue9
  t46 := Tryz.underlying155
  a46 := Tryz.isAgg155
  z46 := Tryz.sizeOf155
  v46 := Tryz.zeroValue155
  t51 := Tryz.underlying156
  a51 := Tryz.isAgg156
  z51 := Tryz.sizeOf156
  v51 := Tryz.zeroValue156
  t146 := Tryz.underlying157
  a146 := Tryz.isAgg157
  z146 := Tryz.sizeOf157
  v146 := Tryz.zeroValue157
  g1 := by kernel_rfl }
open Go.RowKit Go.Lib in
theorem Tryz.stringslite_Index_one (s : ByteArray) (c : UInt8) (w : World) :
    Calls Tryz.prog 125 #[.string s, .string ⟨#[c]⟩] w fun e w' => e = .returned (.int .i64 (Lib.indexByte s.data.toList c)) ∧ w' = w := Any.stringslite_Index_one Tryz.lays219 s c w
end Go.Proofs
/- DnText: what the texts of the program and of the specification return. -/
namespace Go.Proofs.YtmanlnlhpgdbpaaGreat
open Go.RowKit
attribute [local go_sem ↓] Go.wp_at_zero Go.wp_at_succ

theorem escS_size (s : ByteArray) : (escS s).size ≤ 2 * s.size := by
  have := escTo_len s.data.toList s.data.toList.length
  rw [size_len] at this
  exact this
/-- the text of one pair -/
def rdnS (r : ByteArray × ByteArray) : ByteArray := r.1 ++ ⟨#[61]⟩ ++ escS r.2
def partsTo (d : RdnL) (k : Nat) : List ByteArray := (d.take k).map rdnS
theorem partsTo_len (d : RdnL) (k : Nat) (h : k ≤ d.length) : (partsTo d k).length = k := by simp [partsTo]; omega
theorem partsTo_succ (d : RdnL) (k : Nat) (h : k < d.length) : partsTo d (k + 1) = partsTo d k ++ [rdnS d[k]] := by unfold partsTo; rw [List.take_succ_eq_append_getElem h, List.map_append]; rfl

/-- the text of a name -/
def textL (d : RdnL) : List UInt8 := Lib.join (d.map (fun r => (rdnS r).data.toList)) [44]
def textS (d : RdnL) : ByteArray := ⟨(textL d).toArray⟩
theorem rdnS_size (r : ByteArray × ByteArray) (h1 : r.1.size ≤ 1048576) (h2 : r.2.size ≤ 1048576) : (rdnS r).data.toList.length ≤ 4000000 := by
  have := escS_size r.2
  rw [size_len]
  unfold rdnS
  rw [ByteArray.size_append, ByteArray.size_append, sz1]
  omega
theorem join_len (l : List (List UInt8)) (m : Nat) (h : ∀ x ∈ l, x.length ≤ m) : (Lib.join l [44]).length ≤ l.length * (m + 1) := by
  cases l with
  | nil => simp [Lib.join_nil]
  | cons x l =>
    rw [Lib.join_cons]
    have : ∀ (r : List (List UInt8)), (∀ x ∈ r, x.length ≤ m) → (Lib.joinTail [44] r).length ≤ r.length * (m + 1) := by
      intro r
      induction r with
      | nil => intro _; simp [Lib.joinTail]
      | cons y r ih =>
        intro hr
        have h1 := ih (fun x hx => hr x (List.mem_cons_of_mem _ hx))
        have h2 := hr y (List.mem_cons_self ..)
        simp only [Lib.joinTail, List.map_cons, List.flatten_cons, List.length_append, List.length_cons, List.length_nil] at h1 ⊢
        rw [Nat.add_mul]; omega
    have h1 := this l (fun y hy => h y (List.mem_cons_of_mem _ hy))
    have h2 := h x (List.mem_cons_self ..)
    rw [List.length_append, List.length_cons, Nat.add_mul]; omega
theorem text_len (d : RdnL) (h : Fits d) : (textL d).length ≤ d.length * 4000001 := by
  have := join_len (d.map (fun r => (rdnS r).data.toList)) 4000000 (fun x hx => by
    obtain ⟨r, hr, rfl⟩ := List.mem_map.1 hx
    exact rdnS_size r (h.2 r hr).1 (h.2 r hr).2)
  rw [List.length_map] at this
  exact this
set_option maxRecDepth 100000 in
set_option maxHeartbeats 1000000 in
theorem DnText_in (ao : Option Addr) (d : RdnL) (cap : Nat) (w : World) (hd : DnAt w ao d) (hf : Fits d) (hr : dnB d = true) :
    Calls Tryz.prog 45 #[.slice ao d.length cap] w fun e w' => e = .returned (.string (textS d)) ∧ Below w.heap.size w w' := by
  have hl := hf.1
  have HD := Lib.hid hd; have HF := Lib.hid hf; clear hd hf
  go_enter Tryz.func45, Tryz.ntmps45
  go_wp2_with (first | (go_at_call 74; refine (DnRight_any _ _ _ _ HD.out HF.out).mono ?_; rintro e w1 ⟨rfl, hb1⟩; rw [hr]))
  clear hr
  have hz1 := hb1.size
  go_loopw [3, 10] (fun v i wr => ∃ k : Nat, k ≤ d.length ∧ i = .int .i64 k ∧ wr.ownsRow w.heap.size 9 1 v (partsTo d k).length (ss (partsTo d k)) ∧ Below w.heap.size w wr) (fun _ i _ => d.length - (intOf i).toNat)
  case atStart => exact ⟨0, Nat.zero_le _, rfl, ⟨rfl, .inl ⟨rfl, rfl⟩⟩, hb1⟩
  case round =>
    obtain ⟨k, hk, rfl, hown, hbel⟩ := hrel
    have hsz := hbel.size
    have hpl := partsTo_len d k hk
    by_cases hlt : k < d.length
    · obtain ⟨b, off, rfl, hb0, hd1, hd2⟩ := HD.out.at hlt
      have hb : b < wr.heap.size := Nat.lt_of_lt_of_le hb0 hsz
      have hc1 := (hbel.cell (p := ⟨b, off + k * 2, none⟩) hb0).trans hd1
      have hc2 := (hbel.cell (p := ⟨b, off + k * 2 + 1, none⟩) hb0).trans hd2
      have hz := HF.out.small hlt
      have HN := Lib.hid (partsTo_succ d k hlt)
      generalize partsTo d k = pre at *
      have HP := Lib.hid hpl; clear hpl
      have g1 : (0 : Int) ≤ (k : Int) := by omega
      have g2 : (k : Int) < (d.length : Int) := by omega
      have HE : Hid (rdnS d[k] = d[k].1 ++ ⟨#[61]⟩ ++ escS d[k].2) := Lib.hid rfl
      have HPl : Hid (pre.length ≤ 1000000000) := Lib.hid (by have := HP.out; omega)
      generalize d[k].1 = A at *
      generalize d[k].2 = V at *
      have D1 := Lib.hid hd1; have D2 := Lib.hid hd2; clear hd1 hd2
      have hes := escS_size V
      have ha1 := cat A ⟨#[61]⟩ (by rw [sz1]; omega)
      have ha2 := cat (A ++ ⟨#[61]⟩) (escS V) (by rw [ByteArray.size_append, sz1]; omega)
      clear hes
      go_wp2_with fail
      go_region_held3 (fun w' => w'.cell? ⟨b, off + k * 2, none⟩ = some (.string A) ∧ w'.cell? ⟨b, off + k * 2 + 1, none⟩ = some (.string V))
        (first | go_keep | exact ⟨(hbel3.cell (p := ⟨b, off + k * 2, none⟩) hb0).trans D1.out, (hbel3.cell (p := ⟨b, off + k * 2 + 1, none⟩) hb0).trans D2.out⟩ | exact ⟨(hb2.cell (p := ⟨b, off + k * 2, none⟩) hb).trans hc1, (hb2.cell (p := ⟨b, off + k * 2 + 1, none⟩) hb).trans hc2⟩)
        (first | (go_at_call 75; refine (escapeValue_any _ _ hz.2).mono ?_; rintro e w2 ⟨rfl, hb2⟩; have O2 := own_below hown.drew hb2; have L2 := Nat.le_trans hsz hb2.size; have B2 := hbel.drew.trans (hb2.mono hsz)) | (refine step_str w.heap.size (by rfl) _ _ (by rfl) _ pre (by rfl) O2 _ (by rfl) HPl.out L2 B2 ?_; intro g cp w3 hown3 hbel3 hsz3))
      go_wp2
      go_roundw
      case rel => exact ⟨k + 1, by omega, by go_num, by rw [HN.out, HE.out]; exact hown3, hbel3⟩
      case measure => simp [intOf]; omega
    · have e : k = d.length := by omega
      subst e
      have HE : Hid (textS d = ⟨(Lib.join ((partsTo d d.length).map (·.data.toList)) [44]).toArray⟩) := Lib.hid (by unfold textS textL partsTo; rw [List.take_length, List.map_map]; rfl)
      have HT := Lib.hid (text_len d HF.out)
      have HPt : Hid ((partsTo d d.length).map (·.data.toList) = d.map (fun r => (rdnS r).data.toList)) := Lib.hid (by unfold partsTo; rw [List.take_length, List.map_map]; rfl)
      obtain ⟨ao', cap', rfl⟩ := own_slice hown
      by_cases h0 : d.length = 0
      · have hd0 : d = [] := List.length_eq_zero_iff.1 h0
        subst hd0
        have hown' := Lib.hid hown
        clear hown
        go_wp2_with (first | (go_at_call 76; refine (Tryz.strings_Join_none _ _ _ _).mono ?_; rintro e w2 ⟨rfl, hw⟩; subst hw))
        go_ret
        exact ⟨ret_str (by rw [HE.out]; rfl), hbel⟩
      · obtain ⟨g, cp, hv, hg1, hg2⟩ := hown.form (by rw [partsTo_len d _ (Nat.le_refl _)]; omega)
        have e2 : ao' = some ⟨g, 0, none⟩ := by injection hv
        subst e2
        have hJ := Tryz.strings_Join g 0 cap' (partsTo d d.length) ⟨#[44]⟩ wr (fun j x hj => by
          have := hown.cells (g := g) rfl j (.string x) (by unfold ss; rw [List.getElem?_map, hj]; rfl)
          rw [add_plain] at this; rw [Nat.zero_add]; exact this) hg2 (by rw [partsTo_len d _ (Nat.le_refl _)]; omega) (own_cap hown) (by
            have h := HT.out
            rw [HPt.out]; exact Nat.le_trans h (by omega))
        have HJ := Lib.hid hJ
        have HO := Lib.hid hown
        clear hJ hown hv
        rw [partsTo_len d _ (Nat.le_refl _)] at HJ ⊢
        go_wp2_with (first | (go_at_call 76; refine HJ.out.mono ?_; rintro e w2 ⟨rfl, hb2⟩))
        go_ret
        exact ⟨ret_str HE.out.symm, hbel.trans (hb2.mono hsz)⟩
end Go.Proofs.YtmanlnlhpgdbpaaGreat
/- DnText: what the specification's text returns. -/
namespace Go.Proofs.YtmanlnlhpgdbpaaGreat
open Go.RowKit
attribute [local go_sem ↓] Go.wp_at_zero Go.wp_at_succ

/-- the text of the first k pairs -/
def textTo (d : RdnL) (k : Nat) : ByteArray := textS (d.take k)
theorem join_snoc (l : List (List UInt8)) (x sep : List UInt8) (h : l ≠ []) : Lib.join (l ++ [x]) sep = Lib.join l sep ++ sep ++ x := by
  rcases l with _ | ⟨y, l⟩
  · exact absurd rfl h
  · rw [List.cons_append, Lib.join_cons, Lib.join_cons]
    simp [Lib.joinTail, List.append_assoc]
theorem textTo_one (d : RdnL) (h : 0 < d.length) : textTo d 1 = rdnS d[0] := by
  unfold textTo textS textL
  rw [List.take_succ_eq_append_getElem h, List.take_zero, List.nil_append, List.map_singleton, Lib.join_one]
theorem textTo_succ (d : RdnL) (k : Nat) (h : k < d.length) (h0 : 0 < k) : textTo d (k + 1) = textTo d k ++ ⟨#[44]⟩ ++ rdnS d[k] := by
  unfold textTo textS textL
  rw [List.take_succ_eq_append_getElem h, List.map_append, List.map_singleton, join_snoc _ _ _ (by
    intro e
    have := congrArg List.length e
    rw [List.length_map, List.length_take, List.length_nil] at this; omega)]
  apply ByteArray.ext
  simp
theorem textTo_size (d : RdnL) (k : Nat) (h : Fits d) (h6 : d.length ≤ 6) : (textTo d k).size ≤ 30000000 := by
  have h1 := text_len (d.take k) ⟨by have := h.1; simp; omega, fun r hr => h.2 r (List.mem_of_mem_take hr)⟩
  have h2 : (d.take k).length ≤ 6 := by rw [List.length_take]; omega
  have h3 : (textTo d k).size = (textL (d.take k)).length := rfl
  rw [h3]
  omega
theorem cat_assoc (a b c : ByteArray) : a ++ b ++ c = a ++ (b ++ c) := by apply ByteArray.ext; simp

set_option maxRecDepth 100000 in
set_option maxHeartbeats 1000000 in
theorem l02Text_any (ao : Option Addr) (d : RdnL) (cap : Nat) (w : World) (hd : DnAt w ao d) (hf : Fits d) (h6 : d.length ≤ 6) :
    Calls Tryz.prog 71 #[.slice ao d.length cap] w fun e w' => e = .returned (.string (textS d)) ∧ Below w.heap.size w w' := by
  have HD := Lib.hid hd; have HF := Lib.hid hf; clear hd hf
  go_enter Tryz.func71, Tryz.ntmps71
  go_wp2
  go_loopw [3, 4] (fun t i wr => ∃ k : Nat, k ≤ d.length ∧ i = .int .i64 k ∧ t = .string (textTo d k) ∧ Below w.heap.size w wr) (fun _ i _ => d.length - (intOf i).toNat)
  case atStart => exact ⟨0, Nat.zero_le _, rfl, rfl, Below.refl _ _⟩
  case round =>
    obtain ⟨k, hk, rfl, rfl, hbel⟩ := hrel
    have hsz := hbel.size
    by_cases hlt : k < d.length
    · obtain ⟨b, off, rfl, hb0, hd1, hd2⟩ := HD.out.at hlt
      have hb : b < wr.heap.size := Nat.lt_of_lt_of_le hb0 hsz
      have hc1 := (hbel.cell (p := ⟨b, off + k * 2, none⟩) hb0).trans hd1
      have hc2 := (hbel.cell (p := ⟨b, off + k * 2 + 1, none⟩) hb0).trans hd2
      clear hd1 hd2
      have hz := HF.out.small hlt
      have hts := textTo_size d k HF.out h6
      have g1 : (0 : Int) ≤ (k : Int) := by omega
      have g2 : (k : Int) < (d.length : Int) := by omega
      have HE : Hid (rdnS d[k] = d[k].1 ++ ⟨#[61]⟩ ++ escS d[k].2) := Lib.hid rfl
      by_cases h0 : k = 0
      · subst h0
        have HN := Lib.hid (textTo_one d hlt)
        rw [show off + 0 * 2 = off by omega] at hc1 hc2
        have e0 : textTo d 0 = ByteArray.empty := rfl
        generalize textTo d 0 = T at *
        have E0 := Lib.hid e0
        clear e0
        generalize d[0].1 = A at *
        generalize d[0].2 = V at *
        have hes := escS_size V
        have ha0 := cat T A (by omega)
        have ha1 := cat (T ++ A) ⟨#[61]⟩ (by rw [ByteArray.size_append, sz1]; omega)
        have ha2 := cat (T ++ A ++ ⟨#[61]⟩) (escS V) (by rw [ByteArray.size_append, ByteArray.size_append, sz1]; omega)
        clear hes
        go_wp2_with fail
        go_region_held3 (fun w' => w'.cell? ⟨b, off, none⟩ = some (.string A) ∧ w'.cell? ⟨b, off + 1, none⟩ = some (.string V))
          (first | go_keep | exact ⟨(hb2.cell (p := ⟨b, off, none⟩) hb).trans hc1, (hb2.cell (p := ⟨b, off + 1, none⟩) hb).trans hc2⟩)
          (first | (go_at_call 90; refine (l02Escape_any _ _ hz.2).mono ?_; rintro e w2 ⟨rfl, hb2⟩))
        go_wp2
        go_roundw
        case rel => exact ⟨1, by omega, by go_num, by rw [HN.out, HE.out, E0.out]; simp, hbel.drew.trans (hb2.mono hsz)⟩
        case measure => simp [intOf]; omega
      · have HN := Lib.hid (textTo_succ d k hlt (by omega))
        have h0' : 0 < k := by omega
        generalize textTo d k = T at *
        generalize d[k].1 = A at *
        generalize d[k].2 = V at *
        have hes := escS_size V
        have ha := cat T ⟨#[44]⟩ (by rw [sz1]; omega)
        have ha0 := cat (T ++ ⟨#[44]⟩) A (by rw [ByteArray.size_append, sz1]; omega)
        have ha1 := cat (T ++ ⟨#[44]⟩ ++ A) ⟨#[61]⟩ (by rw [ByteArray.size_append, ByteArray.size_append, sz1, sz1]; omega)
        have ha2 := cat (T ++ ⟨#[44]⟩ ++ A ++ ⟨#[61]⟩) (escS V) (by rw [ByteArray.size_append, ByteArray.size_append, ByteArray.size_append, sz1, sz1]; omega)
        clear hes h0
        go_wp2_with fail
        go_region_held3 (fun w' => w'.cell? ⟨b, off + k * 2, none⟩ = some (.string A) ∧ w'.cell? ⟨b, off + k * 2 + 1, none⟩ = some (.string V))
          (first | go_keep | exact ⟨(hb2.cell (p := ⟨b, off + k * 2, none⟩) hb).trans hc1, (hb2.cell (p := ⟨b, off + k * 2 + 1, none⟩) hb).trans hc2⟩)
          (first | (go_at_call 90; refine (l02Escape_any _ _ hz.2).mono ?_; rintro e w2 ⟨rfl, hb2⟩))
        go_wp2
        go_roundw
        case rel => exact ⟨k + 1, by omega, by go_num, by rw [HN.out, HE.out]; simp only [cat_assoc], hbel.drew.trans (hb2.mono hsz)⟩
        case measure => simp [intOf]; omega
    · have HE : Hid (textTo d k = textS d) := Lib.hid (by unfold textTo; rw [List.take_of_length_le (by omega)])
      go_wp2
      go_ret
      exact ⟨ret_str HE.out, hbel⟩
def dnTextS (d : RdnL) : ByteArray := if dnB d = true then textS d else ByteArray.empty
theorem dnText_yes {d : RdnL} (h : dnB d = true) : dnTextS d = textS d := by unfold dnTextS; rw [if_pos h]
theorem dnText_no {d : RdnL} (h : dnB d = false) : dnTextS d = ByteArray.empty := by unfold dnTextS; rw [h]; rfl
set_option maxHeartbeats 400000 in
theorem DnText_any (ao : Option Addr) (d : RdnL) (cap : Nat) (w : World) (hd : DnAt w ao d) (hf : Fits d) :
    Calls Tryz.prog 45 #[.slice ao d.length cap] w fun e w' => e = .returned (.string (dnTextS d)) ∧ Below w.heap.size w w' := by
  cases hr : dnB d
  · have HE := Lib.hid (dnText_no hr)
    go_enter Tryz.func45, Tryz.ntmps45
    go_wp2_with (first | (go_at_call 74; refine (DnRight_any _ _ _ _ hd hf).mono ?_; rintro e w1 ⟨rfl, hb1⟩; rw [hr]))
    go_ret
    exact ⟨ret_str HE.out.symm, hb1⟩
  · rw [dnText_yes hr]
    exact DnText_in ao d cap w hd hf hr
set_option maxHeartbeats 400000 in
theorem SpecDnText_any (ao : Option Addr) (d : RdnL) (cap : Nat) (w : World) (hd : DnAt w ao d) (hf : Fits d) :
    Calls Tryz.prog 62 #[.slice ao d.length cap] w fun e w' => e = .returned (.string (dnTextS d)) ∧ Below w.heap.size w w' := by
  have hl := hf.1
  cases hr : dnB d
  · have HE := Lib.hid (dnText_no hr)
    by_cases h4 : 400 < d.length
    · go_enter Tryz.func62, Tryz.ntmps62
      go_wp2
      go_ret
      exact ⟨ret_str HE.out.symm, Below.refl _ _⟩
    · go_enter Tryz.func62, Tryz.ntmps62
      go_wp2_with (first | (go_at_call 63; refine (SpecDnRight_any _ _ _ _ hd hf).mono ?_; rintro e w1 ⟨rfl, hb1⟩; rw [hr]))
      go_ret
      exact ⟨ret_str HE.out.symm, hb1⟩
  · have HE := Lib.hid (dnText_yes hr)
    have h6 := dnB_six hr
    go_enter Tryz.func62, Tryz.ntmps62
    go_wp2_with (first | (go_at_call 63; refine (SpecDnRight_any _ _ _ _ hd hf).mono ?_; rintro e w1 ⟨rfl, hb1⟩; rw [hr]) | (go_at_call 71; refine (l02Text_any _ _ _ _ (hd.below hb1) hf h6).mono ?_; rintro e w2 ⟨rfl, hb2⟩))
    go_ret
    exact ⟨ret_str HE.out.symm, hb1.trans (hb2.mono hb1.size)⟩
end Go.Proofs.YtmanlnlhpgdbpaaGreat
/- The helpers of the laws: marks. -/
namespace Go.Proofs.YtmanlnlhpgdbpaaGreat
open Go.RowKit
attribute [local go_sem ↓] Go.wp_at_zero Go.wp_at_succ

theorem toS_list (l : List UInt8) : (toS l).data.toList = l := by simp [toS]
theorem toS_size (l : List UInt8) : (toS l).size = l.length := by rw [← size_len, toS_list]
theorem one_str (W : World) (n : Nat) (hn : n < 256) :
    (convert 115 9 (.slice (some ⟨W.heap.size, 0, none⟩) 1 1)).run Tryz.prog (W.alloc (.cells #[.int .u8 (n : Int)] 5)) = .ok (.string ⟨#[UInt8.ofNat n]⟩) (W.alloc (.cells #[.int .u8 (n : Int)] 5)) := by
  refine str22 _ ⟨W.heap.size, 0, none⟩ 1 [UInt8.ofNat n] 1 rfl fun j hj => ?_
  match j, hj with
  | 0, _ =>
    rw [add_plain, World.cell?_alloc_mark]
    simp; omega
set_option maxRecDepth 100000 in
set_option maxHeartbeats 1000000 in
theorem markText_any (n : Nat) (w : World) (h0 : 0 < n) (hn : n ≤ 1000000000) :
    Calls Tryz.prog 52 #[.int .i64 n] w fun e w' => e = .returned (.string (mkT n)) ∧ Below w.heap.size w w' := by
  go_enter Tryz.func52, Tryz.ntmps52
  go_wp2
  go_loopw [0, 3] (fun t u wr => ∃ (f k : Nat) (o : List UInt8), k ≤ n ∧ t = .int .i64 k ∧ u = .string (toS o) ∧ digs 20 n [] = digs f k o ∧ k < 10 ^ f ∧ f ≤ 20 ∧ o.length + f ≤ 20 ∧ Below w.heap.size w wr) (fun t _ _ => (intOf t).toNat)
  case atStart => exact ⟨20, n, [], Nat.le_refl _, rfl, rfl, rfl, by omega, by omega, by simp, Below.refl _ _⟩
  case round =>
    obtain ⟨f, k, o, hk, rfl, rfl, hD, hf, hf2, ho, hbel⟩ := hrel
    have HD := Lib.hid hD; clear hD
    have hsz := hbel.size
    by_cases hk0 : 0 < k
    · obtain ⟨g, rfl⟩ : ∃ g, f = g + 1 := ⟨f - 1, by
        rcases f with _ | f
        · simp at hf; omega
        · simp⟩
      have HN : Hid (digs 20 n [] = digs g (k / 10) (UInt8.ofNat (48 + k % 10) :: o)) := Lib.hid (by rw [HD.out, digs, if_neg (by omega)])
      have HF : Hid (k / 10 < 10 ^ g) := Lib.hid (by rw [Nat.pow_succ] at hf; omega)
      have HC : Hid ((⟨#[UInt8.ofNat (48 + k % 10)]⟩ : ByteArray) ++ toS o = toS (UInt8.ofNat (48 + k % 10) :: o)) := Lib.hid (by apply ByteArray.ext; simp [toS])
      clear hf
      have hos : (toS o).size ≤ 20 := by rw [toS_size]; omega
      have hcv := one_str wr (48 + k % 10) (by omega)
      have hca := cat ⟨#[UInt8.ofNat (48 + k % 10)]⟩ (toS o) (by rw [sz1]; omega)
      have e1 : ((48 + k % 10 : Nat) : Int) = 48 + (k : Int) % 10 := by omega
      rw [e1] at hcv
      clear e1
      generalize UInt8.ofNat (48 + k % 10) = c at *
      go_wp2
      refine ⟨⟨g, k / 10, c :: o, by omega, by go_num, by rw [HC.out], HN.out, HF.out, by omega, by simp only [List.length_cons]; omega, more hbel _⟩, ?_⟩
      simp [intOf]; omega
    · have HE : Hid (⟨#[109]⟩ ++ toS o = mkT n) := Lib.hid (by
        have e : k = 0 := by omega
        subst e
        have : digs f 0 o = o := by cases f <;> simp [digs]
        unfold mkT mkL
        rw [HD.out, this]
        apply ByteArray.ext; simp [toS])
      have hos : (toS o).size ≤ 20 := by rw [toS_size]; omega
      have hca := cat ⟨#[109]⟩ (toS o) (by rw [sz1]; omega)
      go_wp2
      go_ret
      exact ⟨ret_str HE.out, hbel⟩
/-- n pairs of marks, from k on -/
def marks : Nat → Nat → RdnL
  | _, 0 => []
  | k, n + 1 => marks k n ++ [(mkT (k + 2 * n), mkT (k + 2 * n + 1))]
theorem marks_len (k n : Nat) : (marks k n).length = n := by
  induction n with
  | zero => rfl
  | succ n ih => rw [marks, List.length_append, ih]; rfl
theorem marks_get (k n i : Nat) (h : i < n) (h' : i < (marks k n).length) : (marks k n)[i] = (mkT (k + 2 * i), mkT (k + 2 * i + 1)) := by
  induction n with
  | zero => omega
  | succ n ih =>
    have hl := marks_len k n
    simp only [marks]
    by_cases e : i < n
    · rw [List.getElem_append_left (by omega)]; exact ih e (by omega)
    · have : i = n := by omega
      subst this
      rw [List.getElem_append_right (by omega)]
      simp [hl]
/-- a block of pairs, the first k marked, the rest as they were -/
def MarkTo (w : World) (g n k j : Nat) : Prop := ∃ C : Array Value, w.heap[g]? = some (.cells C 77 (0, 0)) ∧ C.size = n * 2 ∧ C.toList.take (j * 2) = rs (marks k j)
theorem MarkTo.below {w w' : World} {g n k j : Nat} (h : MarkTo w g n k j) (hb : Below w.heap.size w w') : MarkTo w' g n k j := by
  obtain ⟨C, h1, h2⟩ := h
  exact ⟨C, (hb.block g (Array.getElem?_eq_some_iff.1 h1).1).trans h1, h2⟩
end Go.Proofs.YtmanlnlhpgdbpaaGreat
/- Reading names: the plain mathematics. -/
namespace Go.Proofs.YtmanlnlhpgdbpaaGreat
open Go.RowKit

/-- where a pair ends -/
def endF : Bool → List UInt8 → Nat
  | _, [] => 0
  | b, c :: l => if c = 44 ∧ b = false then 0 else 1 + endF ((c == 92) && !b) l
/-- a value without its backslashes -/
def unescF : Bool → List UInt8 → List UInt8
  | _, [] => []
  | b, c :: l => if ((c == 92) && !b) = true then unescF true l else c :: unescF false l
theorem endF_le (b : Bool) (l : List UInt8) : endF b l ≤ l.length := by
  induction l generalizing b with
  | nil => simp [endF]
  | cons c l ih =>
    unfold endF
    split
    · simp
    · have := ih ((c == 92) && !b)
      rw [List.length_cons]; omega
theorem toS_self (s : ByteArray) : toS s.data.toList = s := by simp [toS]
/-- a pair out of its text -/
def rdn1 (l : List UInt8) : ByteArray × ByteArray := (toS (l.takeWhile (· != 61)), toS (unescF false ((l.dropWhile (· != 61)).drop 1)))
def scanN : Nat → List UInt8 → RdnL
  | 0, _ => []
  | _ + 1, [] => []
  | n + 1, c :: l => rdn1 ((c :: l).take (endF false (c :: l))) :: scanN n ((c :: l).drop (endF false (c :: l) + 1))
def scanL (l : List UInt8) : RdnL := scanN l.length l
theorem scanN_more (n m : Nat) (l : List UInt8) (hn : l.length ≤ n) (hm : l.length ≤ m) : scanN n l = scanN m l := by
  induction n generalizing m l with
  | zero =>
    have : l = [] := List.eq_nil_of_length_eq_zero (by omega)
    subst this
    cases m <;> rfl
  | succ n ih =>
    cases l with
    | nil => cases m <;> rfl
    | cons c l =>
      cases m with
      | zero => simp at hm
      | succ m =>
        unfold scanN
        rw [ih m _ (by rw [List.length_drop, List.length_cons] at *; omega) (by rw [List.length_drop, List.length_cons] at *; omega)]
theorem scanL_nil : scanL [] = [] := rfl
theorem scanL_cons {l : List UInt8} (h : l ≠ []) : scanL l = rdn1 (l.take (endF false l)) :: scanL (l.drop (endF false l + 1)) := by
  cases l with
  | nil => exact absurd rfl h
  | cons c l =>
    show scanN (l.length + 1) (c :: l) = _
    unfold scanN scanL
    rw [scanN_more l.length _ _ (by rw [List.length_drop, List.length_cons]; omega) (Nat.le_refl _)]
theorem scanL_len (l : List UInt8) : (scanL l).length ≤ l.length := by
  have : ∀ n (l : List UInt8), (scanN n l).length ≤ n := by
    intro n
    induction n with
    | zero => intro l; simp [scanN]
    | succ n ih =>
      intro l
      cases l with
      | nil => simp [scanN]
      | cons c l => simp only [scanN, List.length_cons]; have := ih ((c :: l).drop (endF false (c :: l) + 1)); omega
  exact this _ _

/-- the parts of a text -/
def cutF : List UInt8 → List UInt8 → List (List UInt8)
  | b, [] => [b]
  | b, [c] => if c = 44 then [b, []] else [b ++ [c]]
  | b, c :: d :: l => if c = 92 then cutF (b ++ [c, d]) l else if c = 44 then b :: cutF [] (d :: l) else cutF (b ++ [c]) (d :: l)
theorem cutF_nil (b : List UInt8) : cutF b [] = [b] := by rw [cutF]
theorem cutF_one (b : List UInt8) (c : UInt8) : cutF b [c] = if c = 44 then [b, []] else [b ++ [c]] := by rw [cutF]
theorem cutF_two (b : List UInt8) (c d : UInt8) (l : List UInt8) : cutF b (c :: d :: l) = if c = 92 then cutF (b ++ [c, d]) l else if c = 44 then b :: cutF [] (d :: l) else cutF (b ++ [c]) (d :: l) := by rw [cutF]
def unesc2 : List UInt8 → List UInt8
  | [] => []
  | [c] => [c]
  | c :: d :: l => if c = 92 then d :: unesc2 l else c :: unesc2 (d :: l)
def rdn2 (l : List UInt8) : ByteArray × ByteArray := if 61 ∈ l then (toS (l.takeWhile (· != 61)), toS (unesc2 ((l.dropWhile (· != 61)).drop 1))) else (toS [], toS [])

/-- bytes, each with a backslash or not -/
def encI (x : List (Bool × UInt8)) : List UInt8 := x.flatMap fun p => if p.1 = true then [92, p.2] else [p.2]
def OkI (x : List (Bool × UInt8)) : Prop := ∀ p ∈ x, p.1 = false → p.2 ≠ 92 ∧ p.2 ≠ 44
theorem encI_cons (p : Bool × UInt8) (x : List (Bool × UInt8)) : encI (p :: x) = (if p.1 = true then [92, p.2] else [p.2]) ++ encI x := by unfold encI; simp
theorem encI_append (x y : List (Bool × UInt8)) : encI (x ++ y) = encI x ++ encI y := by unfold encI; simp
theorem OkI.tail {p : Bool × UInt8} {x : List (Bool × UInt8)} (h : OkI (p :: x)) : OkI x := fun q hq => h q (List.mem_cons_of_mem _ hq)
theorem endF_enc (x : List (Bool × UInt8)) (h : OkI x) (t : List UInt8) : endF false (encI x ++ t) = (encI x).length + endF false t := by
  induction x with
  | nil => simp [encI]
  | cons p x ih =>
    obtain ⟨b, c⟩ := p
    have ih := ih h.tail
    rw [encI_cons]
    cases b
    · have hp := h (false, c) (List.mem_cons_self ..) rfl
      simp only [Bool.false_eq_true, if_false, List.cons_append, List.nil_append, List.append_assoc]
      have e1 : endF false (c :: (encI x ++ t)) = 1 + endF ((c == 92) && !false) (encI x ++ t) := by rw [endF, if_neg (fun hh => hp.2 hh.1)]
      have : ((c == 92) && !false) = false := by simp [hp.1]
      rw [e1, this, ih, List.length_cons]; omega
    · simp only [if_true, List.cons_append, List.nil_append, List.append_assoc]
      have e1 : endF false (92 :: c :: (encI x ++ t)) = 1 + endF true (c :: (encI x ++ t)) := by
        rw [endF, if_neg (by simp)]; rfl
      have e2 : endF true (c :: (encI x ++ t)) = 1 + endF false (encI x ++ t) := by
        rw [endF, if_neg (by simp)]; simp
      rw [e1, e2, ih, List.length_cons, List.length_cons]; omega
theorem unescF_enc (x : List (Bool × UInt8)) (h : OkI x) (t : List UInt8) : unescF false (encI x ++ t) = x.map (·.2) ++ unescF false t := by
  induction x with
  | nil => simp [encI]
  | cons p x ih =>
    obtain ⟨b, c⟩ := p
    have ih := ih h.tail
    rw [encI_cons]
    cases b
    · have hp := h (false, c) (List.mem_cons_self ..) rfl
      simp only [Bool.false_eq_true, if_false, List.cons_append, List.nil_append, List.append_assoc, List.map_cons]
      rw [unescF, if_neg (by simp [hp.1]), ih]
    · simp only [if_true, List.cons_append, List.nil_append, List.append_assoc, List.map_cons]
      rw [unescF, if_pos (by simp), unescF, if_neg (by simp), ih]
theorem unesc2_enc (x : List (Bool × UInt8)) (h : OkI x) : unesc2 (encI x) = x.map (·.2) := by
  induction x with
  | nil => simp [encI, unesc2]
  | cons p x ih =>
    obtain ⟨b, c⟩ := p
    have ih := ih h.tail
    rw [encI_cons]
    cases b
    · have hp := h (false, c) (List.mem_cons_self ..) rfl
      simp only [Bool.false_eq_true, if_false, List.cons_append, List.nil_append, List.map_cons]
      rcases he : encI x with _ | ⟨d, l⟩
      · rw [he] at ih; simp only [unesc2] at ih ⊢; rw [← ih]
      · rw [unesc2, if_neg hp.1, ← he, ih]
    · simp only [if_true, List.cons_append, List.nil_append, List.map_cons]
      rw [unesc2, if_pos rfl, ih]
theorem cutF_enc (x : List (Bool × UInt8)) (h : OkI x) (b t : List UInt8) : cutF b (encI x ++ t) = cutF (b ++ encI x) t := by
  induction x generalizing b with
  | nil => simp [encI]
  | cons p x ih =>
    obtain ⟨q, c⟩ := p
    have ih := ih h.tail
    rw [encI_cons]
    cases q
    · have hp := h (false, c) (List.mem_cons_self ..) rfl
      simp only [Bool.false_eq_true, if_false, List.cons_append, List.nil_append, List.append_assoc]
      have e : cutF b (c :: (encI x ++ t)) = cutF (b ++ [c]) (encI x ++ t) := by
        rcases he : encI x ++ t with _ | ⟨d, l⟩
        · rw [cutF_one, if_neg hp.2, cutF_nil]
        · rw [cutF_two, if_neg hp.1, if_neg hp.2]
      rw [e, ih]; simp
    · simp only [if_true, List.cons_append, List.nil_append, List.append_assoc]
      rw [cutF_two, if_pos rfl, ih]; simp

/-- the bytes of a value, with its backslashes -/
def valI (l : List UInt8) : List (Bool × UInt8) := (List.range l.length).map fun i => (oddI ((l.getD i 0).toNat : Int) i l.length, l.getD i 0)
theorem valI_enc (l : List UInt8) : encI (valI l) = escL l := by
  unfold encI valI escL escTo
  rw [List.flatMap_map]
theorem valI_snd (l : List UInt8) : (valI l).map (·.2) = l := by
  unfold valI
  rw [List.map_map]
  apply List.ext_getElem?
  intro i
  rw [List.getElem?_map]
  rcases Nat.lt_or_ge i l.length with h | h
  · rw [List.getElem?_range h, List.getElem?_eq_getElem h]; simp [h]
  · rw [List.getElem?_eq_none (by simpa using h), List.getElem?_eq_none h]; rfl
theorem odd_no {c : UInt8} {i n : Nat} (h : oddI (c.toNat : Int) i n = false) : c ≠ 92 ∧ c ≠ 44 := by
  unfold oddI at h
  simp only [Bool.or_eq_false_iff] at h
  obtain ⟨⟨⟨⟨⟨⟨⟨⟨⟨h44, h43⟩, h34⟩, h92⟩, h60⟩, h62⟩, h59⟩, h61⟩, h35⟩, h32⟩ := h
  constructor
  · intro e; subst e; revert h92; decide
  · intro e; subst e; revert h44; decide
theorem valI_ok (l : List UInt8) : OkI (valI l) := by
  intro p hp h
  unfold valI at hp
  obtain ⟨i, _, rfl⟩ := List.mem_map.1 hp
  exact odd_no h
/-- the bytes of a pair -/
def rdnI (r : ByteArray × ByteArray) : List (Bool × UInt8) := (r.1.data.toList ++ [61]).map (fun c => (false, c)) ++ valI r.2.data.toList
theorem encI_plain (l : List UInt8) : encI (l.map (fun c => (false, c))) = l := by
  induction l with
  | nil => rfl
  | cons c l ih => rw [List.map_cons, encI_cons, ih]; rfl
theorem rdnI_enc (r : ByteArray × ByteArray) : encI (rdnI r) = (rdnS r).data.toList := by
  unfold rdnI rdnS
  rw [encI_append, encI_plain, valI_enc]
  simp [escS]
theorem name_bytes {s : ByteArray} (h : nmL s = true) : ∀ c ∈ s.data.toList, c ≠ 92 ∧ c ≠ 44 ∧ c ≠ 61 := by
  have h1 : allB s.data.toList = true := by unfold nmL at h; simp at h; exact h.2
  unfold allB at h1
  rw [List.all_eq_true] at h1
  intro c hc
  have := h1 c hc
  refine ⟨?_, ?_, ?_⟩ <;> (intro e; subst e; revert this; decide)
theorem rdnI_ok {r : ByteArray × ByteArray} (h : rdnB r = true) : OkI (rdnI r) := by
  unfold rdnB at h
  simp only [Bool.and_eq_true] at h
  intro p hp hf
  unfold rdnI at hp
  rw [List.mem_append] at hp
  rcases hp with hp | hp
  · obtain ⟨c, hc, rfl⟩ := List.mem_map.1 hp
    rw [List.mem_append] at hc
    rcases hc with hc | hc
    · have := name_bytes h.1 c hc; exact ⟨this.1, this.2.1⟩
    · simp at hc; subst hc; decide
  · exact valI_ok _ p hp hf
theorem takeWhile_name {l t : List UInt8} (h : ∀ c ∈ l, c ≠ 61) : (l ++ 61 :: t).takeWhile (· != 61) = l ∧ (l ++ 61 :: t).dropWhile (· != 61) = 61 :: t := by
  induction l with
  | nil => simp
  | cons c l ih =>
    have hc := h c (List.mem_cons_self ..)
    have ih := ih (fun x hx => h x (List.mem_cons_of_mem _ hx))
    have hb : (c != 61) = true := by simpa using hc
    rw [List.cons_append, List.takeWhile_cons, List.dropWhile_cons, hb]
    exact ⟨by rw [if_pos rfl, ih.1], by rw [if_pos rfl, ih.2]⟩
theorem rdn_list (r : ByteArray × ByteArray) : (rdnS r).data.toList = r.1.data.toList ++ 61 :: escL r.2.data.toList := by unfold rdnS; simp [escS]
theorem rdn1_text {r : ByteArray × ByteArray} (h : rdnB r = true) : rdn1 (rdnS r).data.toList = r := by
  have hn : nmL r.1 = true := by unfold rdnB at h; simp only [Bool.and_eq_true] at h; exact h.1
  obtain ⟨h1, h2⟩ := takeWhile_name (l := r.1.data.toList) (t := escL r.2.data.toList) (fun c hc => (name_bytes hn c hc).2.2)
  unfold rdn1
  rw [rdn_list, h1, h2, List.drop_succ_cons, List.drop_zero, ← valI_enc]
  have := unescF_enc (valI r.2.data.toList) (valI_ok _) []
  rw [List.append_nil, valI_snd] at this
  rw [this]
  simp [unescF, toS_self]
theorem rdn2_text {r : ByteArray × ByteArray} (h : rdnB r = true) : rdn2 (rdnS r).data.toList = r := by
  have hn : nmL r.1 = true := by unfold rdnB at h; simp only [Bool.and_eq_true] at h; exact h.1
  obtain ⟨h1, h2⟩ := takeWhile_name (l := r.1.data.toList) (t := escL r.2.data.toList) (fun c hc => (name_bytes hn c hc).2.2)
  unfold rdn2
  rw [rdn_list, if_pos (by simp), h1, h2, List.drop_succ_cons, List.drop_zero, ← valI_enc, unesc2_enc _ (valI_ok _), valI_snd, toS_self, toS_self]
theorem text_cons (r : ByteArray × ByteArray) (d : RdnL) : textL (r :: d) = (rdnS r).data.toList ++ (if d = [] then [] else 44 :: textL d) := by
  unfold textL
  rw [List.map_cons, Lib.join_cons]
  cases d with
  | nil => simp [Lib.joinTail]
  | cons s d => rw [if_neg (by simp), List.map_cons, Lib.join_cons]; simp [Lib.joinTail]
theorem rdn_ne (r : ByteArray × ByteArray) : (rdnS r).data.toList ≠ [] := by rw [rdn_list]; simp
/-- a name is got back from its text -/
theorem scan_text (d : RdnL) (h : d.all rdnB = true) : scanL (textL d) = d := by
  induction d with
  | nil => rfl
  | cons r d ih =>
    rw [List.all_cons, Bool.and_eq_true] at h
    have ih := ih h.2
    have hne : textL (r :: d) ≠ [] := by rw [text_cons]; intro e; exact rdn_ne r (List.append_eq_nil_iff.1 e).1
    have he : endF false (textL (r :: d)) = (rdnS r).data.toList.length := by
      rw [text_cons, ← rdnI_enc, endF_enc _ (rdnI_ok h.1)]
      split
      · simp [endF]
      · simp [endF]
    rw [scanL_cons hne, he, text_cons, List.take_left, rdn1_text h.1]
    by_cases hd : d = []
    · subst hd
      rw [if_pos rfl, List.append_nil, List.drop_eq_nil_of_le (by omega), scanL_nil]
    · rw [if_neg hd, List.drop_append, List.drop_eq_nil_of_le (by omega), List.nil_append, show (rdnS r).data.toList.length + 1 - (rdnS r).data.toList.length = 1 by omega, List.drop_succ_cons, List.drop_zero, ih]
theorem cut_text (d : RdnL) (h : d.all rdnB = true) (hne : d ≠ []) : (cutF [] (textL d)).map rdn2 = d := by
  induction d with
  | nil => exact absurd rfl hne
  | cons r d ih =>
    rw [List.all_cons, Bool.and_eq_true] at h
    rw [text_cons, ← rdnI_enc, cutF_enc _ (rdnI_ok h.1), List.nil_append]
    by_cases hd : d = []
    · subst hd
      rw [if_pos rfl, cutF_nil, List.map_singleton, rdnI_enc, rdn2_text h.1]
    · rw [if_neg hd]
      have ih := ih h.2 hd
      have e : cutF (encI (rdnI r)) (44 :: textL d) = encI (rdnI r) :: cutF [] (textL d) := by
        rcases ht : textL d with _ | ⟨c, l⟩
        · rw [cutF_one, if_pos rfl, cutF_nil]
        · rw [cutF_two, if_neg (by decide), if_pos rfl]
      rw [e, List.map_cons, ih, rdnI_enc, rdn2_text h.1]
end Go.Proofs.YtmanlnlhpgdbpaaGreat
