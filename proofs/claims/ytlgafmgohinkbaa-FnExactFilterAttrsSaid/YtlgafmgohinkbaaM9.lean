/- Merged texts: szNode, toNode, eqNode, MemL, MemE, markNode, markString, heldString, eqString, FilterAttrsW, Opn. -/
import Derived.Test.YtlgafmgohinkbaaM4
import Derived.Test.YtlgafmgohinkbaaM2
import Derived.Laws.MakeOwn
import Derived.SliceStrings
import Derived.Test.YtlgafmgohinkbaaM1
import Derived.Deep.RegionHeld
import Derived.Test.YtlgafmgohinkbaaM3
import Derived.Test.YtlgafmgohinkbaaM7
import Derived.Test.YtlgafmgohinkbaaM8
import Derived.Test.YtlgafmgohinkbaaRows
/- The helpers of the laws: sizes. -/
namespace Go.Proofs.Ytlgafmgohinkbaa
open Go.RowKit
attribute [local go_sem ↓] Go.wp_at_zero Go.wp_at_succ

set_option maxRecDepth 100000 in
set_option maxHeartbeats 4000000 in
theorem szNode_at  (a0 : Int) (a1 : ByteArray) (a2 : ByteArray) (a3 : Int)  (left : Int) (w : World)  (hl : nodeE.long (a0, a1, a2, a3)) (g0 : 0 ≤ left) (g1 : left ≤ 1048576) :
    Calls Try.prog 70 #[.agg #[.int .i64 a0, .string a1, .string a2, .int .i64 a3], .int .i64 left] w fun e w' => e = .returned (.int .i64 (leftR (nodeE.sz (a0, a1, a2, a3)) left)) ∧ Below w.heap.size w w' := by
  have HE : Hid (nodeE.sz (a0, a1, a2, a3) = 0 + (a1.size + (a2.size + (0)))) := Lib.hid rfl
  have z1 : a1.size ≤ 9223372036854775807 := by have := hl.2.1; simp only [strE, maxLen] at this; omega
  have z2 : a2.size ≤ 9223372036854775807 := by have := hl.2.2.1; simp only [strE, maxLen] at this; omega
  clear hl
  generalize nodeE.sz (a0, a1, a2, a3) = z at *
  by_cases g3 : (a1.size : Int) ≤ left
  · have c1 : ¬ left - (a1.size : Int) < 0 := by omega
    by_cases g4 : (a2.size : Int) ≤ left - (a1.size : Int)
    · have c2 : ¬ left - (a1.size : Int) - (a2.size : Int) < 0 := by omega
      have HR : Hid (leftR z left = left - (a1.size : Int) - (a2.size : Int)) := Lib.hid (by rw [leftR_pos (by rw [HE.out]; omega), HE.out]; omega)
      go_enter Try.func70, Try.ntmps70
      go_wp2
      go_ret
      exact ⟨ret_int (by rw [HR.out]), (Below.refl _ _).alloc (Nat.le_refl _) _⟩
    · have c2 : left - (a1.size : Int) - (a2.size : Int) < 0 := by omega
      have HR : Hid (leftR z left = -1) := Lib.hid (leftR_neg (by rw [HE.out]; omega))
      go_enter Try.func70, Try.ntmps70
      go_wp2
      go_ret
      exact ⟨ret_int (by rw [HR.out]), (Below.refl _ _).alloc (Nat.le_refl _) _⟩
  · have c1 : left - (a1.size : Int) < 0 := by omega
    have HR : Hid (leftR z left = -1) := Lib.hid (leftR_neg (by rw [HE.out]; omega))
    go_enter Try.func70, Try.ntmps70
    go_wp2
    go_ret
    exact ⟨ret_int (by rw [HR.out]), (Below.refl _ _).alloc (Nat.le_refl _) _⟩
set_option maxRecDepth 100000 in
set_option maxHeartbeats 4000000 in
theorem szNodeS_at {S : Bs} (v : Value) (d : List NodeT) (left : Int) (w : World) (hd : SlAt nodeE S w d v) (hf : (slE nodeE).long d) (h0 : 0 ≤ left) (h1 : left ≤ 1048576) :
    Calls Try.prog 11 #[v, .int .i64 left] w fun e w' => e = .returned (.int .i64 (leftR (d.length + szL nodeE d) left)) ∧ Below w.heap.size w w' := by
  obtain ⟨ao, cap, rfl⟩ := hd.sl
  have hl : d.length ≤ 9223372036854775807 := hf.1
  have HD := Lib.hid hd; have HF := Lib.hid hf; clear hd hf
  by_cases g : (d.length : Int) ≤ left
  · have c1 : ¬ left - (d.length : Int) < 0 := by omega
    go_enter Try.func11, Try.ntmps11
    go_wp2
    go_loopw [1, 5] (fun t i wr => ∃ k : Nat, k ≤ d.length ∧ i = .int .i64 k ∧ ((d.length + szL nodeE (d.take k) : Nat) : Int) ≤ left ∧ t = .int .i64 (left - (d.length + szL nodeE (d.take k) : Nat)) ∧ Below w.heap.size w wr) (fun _ i _ => d.length - (intOf i).toNat)
    case atStart => exact ⟨0, Nat.zero_le _, rfl, by simp [szL]; omega, by simp [szL], Below.refl _ _⟩
    case round =>
      clear c1
      obtain ⟨k, hk, rfl, hle, rfl, hbel⟩ := hrel
      have hsz := hbel.size
      by_cases hlt : k < d.length
      · obtain ⟨b, off, a0, a1, a2, a3, rfl, _, hb0, hx, ⟨hc0, hc1, hc2, hc3⟩, _⟩ := node_row (HD.out.frame (Same.of_below' hbel)) hlt
        have HZ : Hid (nodeE.long (a0, a1, a2, a3)) := Lib.hid (by have := HF.out.2 _ (List.getElem_mem hlt); rw [hx] at this; exact this)
        have HT : Hid (szL nodeE (d.take (k + 1)) = szL nodeE (d.take k) + nodeE.sz (a0, a1, a2, a3)) := Lib.hid (by rw [szL_take nodeE d k hlt, hx])
        have HTl := Lib.hid (szL_le nodeE d (k + 1))
        clear hx
        generalize hq : d.length + szL nodeE (d.take k) = q at *
        have Hq := Lib.hid hq; clear hq
        have HC := Lib.hid (szNode_at a0 a1 a2 a3 (left - (q : Int)) wr  HZ.out (by omega) (by omega))
        generalize nodeE.sz (a0, a1, a2, a3) = r at *
        go_wp2_with fail
        refine HC.out.mono ?_
        rintro e w2 ⟨rfl, hb2⟩
        have B2 := Lib.hid (hbel.trans (hb2.mono hsz)); clear hb2
        by_cases hfit : (r : Int) ≤ left - (q : Int)
        · rw [leftR_pos hfit]
          have c2 : ¬ left - (q : Int) - (r : Int) < 0 := by omega
          go_wp2
          go_roundw
          case rel =>
            have e := HT.out
            have e3 := Hq.out
            exact ⟨k + 1, by omega, by go_num, by omega, by rw [e]; congr 1; omega, B2.out⟩
          case measure => simp [intOf]; omega
        · rw [leftR_neg hfit]
          have HR : Hid (leftR (d.length + szL nodeE d) left = -1) := Lib.hid (leftR_neg (by
            have := HT.out; have := HTl.out; have := Hq.out; omega))
          go_wp2
          go_ret
          exact ⟨ret_int (by rw [HR.out]), B2.out⟩
      · have HR : Hid (leftR (d.length + szL nodeE d) left = left - (d.length + szL nodeE (d.take k) : Nat)) := Lib.hid (by
          rw [List.take_of_length_le (by omega)] at hle ⊢
          exact leftR_pos hle)
        go_wp2
        go_ret
        exact ⟨ret_int (by rw [HR.out]), hbel⟩
  · have HR : Hid (leftR (d.length + szL nodeE d) left = -1) := Lib.hid (leftR_neg (by omega))
    have c1 : left - (d.length : Int) < 0 := by omega
    go_enter Try.func11, Try.ntmps11
    go_wp2
    go_ret
    exact ⟨ret_int (by rw [HR.out]), Below.refl _ _⟩
end Go.Proofs.Ytlgafmgohinkbaa
/- The helpers of the laws: copies. -/
namespace Go.Proofs.Ytlgafmgohinkbaa
open Go.RowKit
attribute [local go_sem ↓] Go.wp_at_zero Go.wp_at_succ

theorem Try.infoTNode : (Try.prog.info? 104).map (fun i => (i.zero, i.size, i.bytes)) = some (some (.agg #[.int .i64 0, .string ByteArray.empty, .string ByteArray.empty, .int .i64 0]), 4, 48) := by kernel_rfl
theorem mkNode (n : Nat) (hn : n ≤ 1048576) (W : World) : ∃ C : Array Value, C.size = n * 4 ∧
    (Instr.makeSlice 25 (.int .i64 (n : Int)) (.int .i64 (n : Int))).run Try.prog W = .ok (.slice (some ⟨W.heap.size, 0, none⟩) n n) (W.alloc (.cells C 104)) := by
  obtain ⟨i0, hi, hz0, hz1, hz2⟩ := info_parts Try.infoTNode
  have := run_make (P := Try.prog) W 25 104 i0 _ Try.underlying25 hi hz0 .i64 .i64 (n : Int) (n : Int) (by omega) (by omega) (by rw [hz2]; omega) (by omega)
  rw [hz1] at this
  refine ⟨madeCells (Value.cells (.agg #[.int .i64 0, .string ByteArray.empty, .string ByteArray.empty, .int .i64 0])) (n * 4), size_madeCells _ _, ?_⟩
  simpa using this
set_option maxRecDepth 100000 in
set_option maxHeartbeats 4000000 in
theorem toNode_at  (a0 : Int) (a1 : ByteArray) (a2 : ByteArray) (a3 : Int)  (w : World)   :
    Calls Try.prog 72 #[.agg #[.int .i64 a0, .string a1, .string a2, .int .i64 a3]] w fun e w' => e = .returned (.agg #[.int .i64 a0, .string a1, .string a2, .int .i64 a3]) ∧ nodeE.Own (Fresh w w') w' (a0, a1, a2, a3) [.int .i64 a0, .string a1, .string a2, .int .i64 a3] ∧ Below w.heap.size w w' := by
  go_enter Try.func72, Try.ntmps72
  go_wp2
  refine bodyPost_ret (v := .agg #[.int .i64 a0, .string a1, .string a2, .int .i64 a3]) (by simp [results, Try.results72, go_sem]) rfl ⟨rfl, ?_, ?_⟩
  · exact node_pack a0 a1 a2 a3 trivial
  · exact more' (more' (more' (Below.refl _ _) _) _) _
set_option maxRecDepth 100000 in
set_option maxHeartbeats 4000000 in
theorem toNodeS_at {S : Bs} (v : Value) (d : List NodeT) (w : World) (hd : SlAt nodeE S w d v) (hz : d.length + szL nodeE d ≤ 1048576) :
    Calls Try.prog 13 #[v] w fun e w' => ∃ u, e = .returned u ∧ SlOwn nodeE (Fresh w w') w' d u ∧ Below w.heap.size w w' := by
  obtain ⟨ao, cap, rfl⟩ := hd.sl
  have HD := Lib.hid hd; clear hd
  have HL := Lib.hid hz
  have hl : d.length ≤ 1048576 := by omega
  clear hz
  obtain ⟨C, hC, hmk⟩ := mkNode d.length hl w
  have HC := Lib.hid hC; clear hC
  go_enter Try.func13, Try.ntmps13
  go_wp2
  clear hmk
  go_loopw [4] (fun i wr => ∃ k : Nat, k ≤ d.length ∧ i = .int .i64 k ∧ Build nodeE wr w.heap.size d.length (d.take k) ∧ Below w.heap.size w wr) (fun i _ => d.length - (intOf i).toNat)
  case atStart => exact ⟨0, Nat.zero_le _, rfl, Build.new _ _ _ _ HC.out, (Below.refl _ _).alloc (Nat.le_refl _) _⟩
  case round =>
    obtain ⟨k, hk, rfl, hR, hbel⟩ := hrel
    have HR := Lib.hid hR; clear hR
    have hsz := hbel.size
    by_cases hlt : k < d.length
    · obtain ⟨b, off, a0, a1, a2, a3, rfl, _, hb0, hx, ⟨hc0, hc1, hc2, hc3⟩, _⟩ := node_row (HD.out.frame (Same.of_below' hbel)) hlt
      have HT : Hid (d.take (k + 1) = d.take k ++ [(a0, a1, a2, a3)]) := Lib.hid (by rw [List.take_succ_eq_append_getElem hlt, hx])
      have HK : Hid ((d.take k).length = k) := Lib.hid (by rw [List.length_take]; omega)
      have HZ : Hid (nodeE.sz (a0, a1, a2, a3) ≤ 1048576) := Lib.hid (by have h1 := szL_mem nodeE (List.getElem_mem hlt); rw [hx] at h1; have := HL.out; omega)
      clear hx
      go_wp2_with fail
      refine (toNode_at a0 a1 a2 a3 wr ).mono ?_
      rintro e w2 ⟨rfl, hq, hb2⟩
      have HR2 := Lib.hid (HR.out.below hb2)
      have B2 := Lib.hid (hbel.trans (hb2.mono hsz))
      have HQ := Lib.hid hq
      have HB := Lib.hid hb2
      clear hb2 hq hc0 hc1 hc2 hc3
      obtain ⟨x0, c0⟩ := HR2.out.cell (k := k) (u := 0) hlt (by decide)
      have c0 : w2.cell? ⟨w.heap.size, k * 4, none⟩ = some x0 := c0
      have f0 := HR2.out.soft (k * 4)
      obtain ⟨x1, c1⟩ := HR2.out.cell (k := k) (u := 1) hlt (by decide)
      have c1 : w2.cell? ⟨w.heap.size, k * 4 + 1, none⟩ = some x1 := c1
      have f1 := HR2.out.soft (k * 4 + 1)
      obtain ⟨x2, c2⟩ := HR2.out.cell (k := k) (u := 2) hlt (by decide)
      have c2 : w2.cell? ⟨w.heap.size, k * 4 + 2, none⟩ = some x2 := c2
      have f2 := HR2.out.soft (k * 4 + 2)
      obtain ⟨x3, c3⟩ := HR2.out.cell (k := k) (u := 3) hlt (by decide)
      have c3 : w2.cell? ⟨w.heap.size, k * 4 + 3, none⟩ = some x3 := c3
      have f3 := HR2.out.soft (k * 4 + 3)
      go_wp2
      go_roundw
      case rel => exact ⟨k + 1, by omega, by go_num, by rw [HT.out]; exact HR.out.row (o := k * 4) (cs := [.int .i64 a0, .string a1, .string a2, .int .i64 a3]) (by rw [HK.out]; exact hlt) (by rw [HK.out]; rfl) HB.out HQ.out, ((((B2.out.setCell (Nat.le_refl _) _).setCell (Nat.le_refl _) _).setCell (Nat.le_refl _) _).setCell (Nat.le_refl _) _)⟩
      case measure => simp [intOf]; omega
    · have e : d.take k = d := List.take_of_length_le (by omega)
      rw [e] at HR
      clear e
      go_wp2
      go_ret
      exact ⟨_, rfl, HR.out.own, hbel⟩
end Go.Proofs.Ytlgafmgohinkbaa
/- The helpers of the laws: comparisons. -/
namespace Go.Proofs.Ytlgafmgohinkbaa
open Go.RowKit
attribute [local go_sem ↓] Go.wp_at_zero Go.wp_at_succ

set_option maxRecDepth 100000 in
set_option maxHeartbeats 4000000 in
theorem eqNode_at  (w0 : World) (a0 : Int) (a1 : ByteArray) (a2 : ByteArray) (a3 : Int)   (w : World) (hB : Below w0.heap.size w0 w)    :
    Calls Try.prog 74 #[.agg #[.int .i64 a0, .string a1, .string a2, .int .i64 a3], .agg #[.int .i64 a0, .string a1, .string a2, .int .i64 a3]] w fun e w' => e = .returned (.bool true) ∧ Below w0.heap.size w0 w' := by
  have hk0 : (a0 == a0) = true := by simp
  have hj0 : (a0 != a0) = false := by simp
  have hk1 : (a1.toList == a1.toList) = true := by simp
  have hk2 : (a2.toList == a2.toList) = true := by simp
  have hk3 : (a3 == a3) = true := by simp
  have hj3 : (a3 != a3) = false := by simp
  have HB := Lib.hid hB
  clear hB
  go_enter Try.func74, Try.ntmps74
  go_wp2
  go_ret
  exact ⟨rfl, more' (more' HB.out _) _⟩
set_option maxRecDepth 100000 in
set_option maxHeartbeats 4000000 in
theorem eqNodeS_at {S S' : Bs} (v u : Value) (d : List NodeT) (w : World) (hd : SlAt nodeE S w d v) (hu : SlAt nodeE S' w d u) (hz : d.length + szL nodeE d ≤ 1048576) :
    Calls Try.prog 15 #[v, u] w fun e w' => e = .returned (.bool true) ∧ Below w.heap.size w w' := by
  obtain ⟨ao, ca, rfl⟩ := hd.sl
  obtain ⟨bo, cb, rfl⟩ := hu.sl
  have HA := Lib.hid hd; have HB := Lib.hid hu; clear hd hu
  have HL := Lib.hid hz
  have hl : d.length ≤ 1048576 := by omega
  clear hz
  go_enter Try.func15, Try.ntmps15
  go_wp2
  go_loopw [5] (fun i wr => ∃ k : Nat, k ≤ d.length ∧ i = .int .i64 k ∧ Below w.heap.size w wr) (fun i _ => d.length - (intOf i).toNat)
  case atStart => exact ⟨0, Nat.zero_le _, rfl, Below.refl _ _⟩
  case round =>
    obtain ⟨k, hk, rfl, hbel⟩ := hrel
    have hsz := hbel.size
    by_cases hlt : k < d.length
    · obtain ⟨p, off, a0, a1, a2, a3, rfl, _, hp0, hx, hc, _⟩ := node_row (HA.out.frame (Same.of_below' hbel)) hlt
      obtain ⟨q, off', x0, x1, x2, x3, rfl, _, hq0, hx', hd, _⟩ := node_row (HB.out.frame (Same.of_below' hbel)) hlt
      have hxx := hx.symm.trans hx'
      simp only [Prod.mk.injEq] at hxx
      obtain ⟨rfl, rfl, rfl, rfl⟩ := hxx
      have HZ : Hid (nodeE.sz (a0, a1, a2, a3) ≤ 1048576) := Lib.hid (by have h1 := szL_mem nodeE (List.getElem_mem hlt); rw [hx] at h1; have := HL.out; omega)
      clear hx hx'
      have C : Hid (∀ W : World, Below wr.heap.size wr W → Calls Try.prog 74 #[.agg #[.int .i64 a0, .string a1, .string a2, .int .i64 a3], .agg #[.int .i64 a0, .string a1, .string a2, .int .i64 a3]] W fun e w' => e = .returned (.bool true) ∧ Below wr.heap.size wr w') := Lib.hid (fun W b => eqNode_at wr a0 a1 a2 a3 W b   )
      have SK : Hid (∀ W : World, Below wr.heap.size wr W → (Below wr.heap.size wr W ∧ (W.cell? ⟨p, off + k * 4, none⟩ = some (.int .i64 a0) ∧ W.cell? ⟨p, off + k * 4 + 1, none⟩ = some (.string a1) ∧ W.cell? ⟨p, off + k * 4 + 2, none⟩ = some (.string a2) ∧ W.cell? ⟨p, off + k * 4 + 3, none⟩ = some (.int .i64 a3)) ∧ (W.cell? ⟨q, off' + k * 4, none⟩ = some (.int .i64 a0) ∧ W.cell? ⟨q, off' + k * 4 + 1, none⟩ = some (.string a1) ∧ W.cell? ⟨q, off' + k * 4 + 2, none⟩ = some (.string a2) ∧ W.cell? ⟨q, off' + k * 4 + 3, none⟩ = some (.int .i64 a3)))) :=
        Lib.hid (fun W h => ⟨h, ⟨(h.cell (p := ⟨p, _, none⟩) hp0).trans hc.1, (h.cell (p := ⟨p, _, none⟩) hp0).trans hc.2.1, (h.cell (p := ⟨p, _, none⟩) hp0).trans hc.2.2.1, (h.cell (p := ⟨p, _, none⟩) hp0).trans hc.2.2.2⟩, ⟨(h.cell (p := ⟨q, _, none⟩) hq0).trans hd.1, (h.cell (p := ⟨q, _, none⟩) hq0).trans hd.2.1, (h.cell (p := ⟨q, _, none⟩) hq0).trans hd.2.2.1, (h.cell (p := ⟨q, _, none⟩) hq0).trans hd.2.2.2⟩⟩)
      have hbd : Below wr.heap.size wr wr.drew := (Below.refl _ _).drew
      have hb0 : Below wr.heap.size wr wr := Below.refl _ _
      have HBl := Lib.hid hbel
      clear hc hd hbel
      have g1 : (0 : Int) ≤ (k : Int) := by omega
      have g2 : (k : Int) < (d.length : Int) := by omega
      go_wp2_with fail
      go_region_held3 (fun W => Below wr.heap.size wr W ∧ (W.cell? ⟨p, off + k * 4, none⟩ = some (.int .i64 a0) ∧ W.cell? ⟨p, off + k * 4 + 1, none⟩ = some (.string a1) ∧ W.cell? ⟨p, off + k * 4 + 2, none⟩ = some (.string a2) ∧ W.cell? ⟨p, off + k * 4 + 3, none⟩ = some (.int .i64 a3)) ∧ (W.cell? ⟨q, off' + k * 4, none⟩ = some (.int .i64 a0) ∧ W.cell? ⟨q, off' + k * 4 + 1, none⟩ = some (.string a1) ∧ W.cell? ⟨q, off' + k * 4 + 2, none⟩ = some (.string a2) ∧ W.cell? ⟨q, off' + k * 4 + 3, none⟩ = some (.int .i64 a3)))
        (exact SK.out _ (by assumption))
        (first | (go_at_call 74; refine (C.out _ (by assumption)).mono ?_; rintro e w2 ⟨rfl, hb2⟩) | (fail "none"))
      all_goals
        go_wp2
        go_roundw
        case rel => exact ⟨k + 1, by omega, by go_num, HBl.out.trans (hb2.mono HBl.out.size)⟩
        case measure => simp [intOf]; omega
    · go_wp2
      go_ret
      exact ⟨rfl, hbel⟩
end Go.Proofs.Ytlgafmgohinkbaa
/- Laws whose result lies in memory: what a walk of them needs. -/
namespace Go.Proofs.Ytlgafmgohinkbaa
open Go Go.RowKit

/-- what holds behind a statement, however its order was drawn -/
def OnlyNormal (F : Act → World → Prop) (e : Exit) (a : Act) (w : World) : Prop := match e with | .normal => F a w | _ => False
theorem region_join (F : Act → Act → World → Prop) {P : Program} {c : Code} {Q : Exit → Act → World → Prop} {a : Act} {w : World} (h : c.wp P (OnlyNormal (F a)) a w) (hq : ∀ a' w', F a a' w' → Q .normal a' w') : c.wp P Q a w :=
  Code.wp_mono (fun e a' w' he => by cases e <;> first | exact hq _ _ he | exact he.elim) h
theorem Blk.turn {S : Bs} {w w' : World} {g : Nat} {cs : List Value} (h : Blk w g cs) (ht : Turn S w w') (hg : ¬ S g) : Blk w' g cs := by
  have hl := h.lt
  obtain ⟨T, e⟩ := h
  exact ⟨T, (ht.block g hl hg).trans e⟩
theorem cnt_fit {α : Type} {e : Enc α} (l : List α) (hc : e.c ≤ 50) (h : l.length + szL e l ≤ 1048576) : cntL e l ≤ 52428800 := by
  have h1 := cntL_le e l
  have h2 : e.c * (l.length + szL e l) ≤ 50 * 1048576 := Nat.mul_le_mul hc h
  omega
end Go.Proofs.Ytlgafmgohinkbaa
/- An owned entry and an owned answer, taken apart. -/
namespace Go.Proofs.Ytlgafmgohinkbaa
open Go Go.RowKit
theorem entry_ownp {S : Bs} {w : World} {a0 : List RdnT} {a1 : List AttrT} {v0 v1 : Value} (h : entryE.Own S w (a0, a1) [v0, v1]) :
    ∃ S0 S1 : Bs, SlOwn rdnE S0 w a0 v0 ∧ (∀ k, S0 k → S k) ∧ SlOwn attrE S1 w a1 v1 ∧ (∀ k, S1 k → S k) ∧ ∀ k, S0 k → ¬ S1 k := by
  obtain ⟨b0, b1, y0, y1, S0, S1, e1, e2, q0, i0, q1, i1, d, _⟩ := entry_own h
  simp only [Prod.mk.injEq] at e1
  obtain ⟨rfl, rfl⟩ := e1
  simp only [List.cons.injEq, and_true] at e2
  obtain ⟨rfl, rfl⟩ := e2
  exact ⟨S0, S1, q0, i0, q1, i1, d⟩
theorem entryOut_ownp {S : Bs} {w : World} {a0 : List RdnT} {a1 : List AttrT} {a2 : Int} {v0 v1 : Value} (h : entryOutE.Own S w ((a0, a1), a2) [v0, v1, .int .i64 a2]) :
    ∃ S0 S1 : Bs, SlOwn rdnE S0 w a0 v0 ∧ (∀ k, S0 k → S k) ∧ SlOwn attrE S1 w a1 v1 ∧ (∀ k, S1 k → S k) ∧ ∀ k, S0 k → ¬ S1 k := by
  obtain ⟨b0, b1, b2, y0, y1, S0, S1, e1, e2, q0, i0, q1, i1, d, _⟩ := entryOut_own h
  simp only [Prod.mk.injEq] at e1
  obtain ⟨⟨rfl, rfl⟩, rfl⟩ := e1
  simp only [List.cons.injEq, and_true] at e2
  obtain ⟨rfl, rfl⟩ := e2
  exact ⟨S0, S1, q0, i0, q1, i1, d⟩
example : ruleE.c ≤ 50 := by decide
example : attrE.c ≤ 50 := by decide
end Go.Proofs.Ytlgafmgohinkbaa
/- The helpers of the laws: marks. -/
namespace Go.Proofs.Ytlgafmgohinkbaa
open Go.RowKit
attribute [local go_sem ↓] Go.wp_at_zero Go.wp_at_succ

set_option maxRecDepth 100000 in
set_option maxHeartbeats 4000000 in
theorem markNodeS_at {S : Bs} (v : Value) (d : List NodeT) (k : Nat) (w : World) (h : SlOwn nodeE S w d v) (hl : d.length ≤ 1048576) (hz : szL nodeE d ≤ 1048576) (hk1 : 0 < k) (hk2 : k + cntL nodeE d ≤ 1000000000) :
    Calls Try.prog 19 #[v, .int .i64 k] w fun e w' => e = .returned (.int .i64 ((k + cntL nodeE d : Nat) : Int)) ∧ SlOwn nodeE S w' (mkAll nodeE k d) v ∧ Turn S w w' := by
  obtain ⟨ao, cap, rfl⟩ := h.at.sl
  have HS := Lib.hid h; clear h
  have HTx : Hid (∀ (X : World) (m : Nat) (q : Int), q = (m : Int) → 0 < m → m ≤ 1000000000 → Calls Try.prog 80 #[.int .i64 q] X fun e w' => e = .returned (.string (mkT m)) ∧ Below X.heap.size X w') := Lib.hid (fun X m q e h1 h2 => by subst e; exact markText_any m X h1 h2)
  go_enter Try.func19, Try.ntmps19
  go_wp2
  go_loopw [1, 5] (fun t i wr => ∃ j : Nat, j ≤ d.length ∧ i = .int .i64 j ∧ t = .int .i64 ((k + cntL nodeE (d.take j) : Nat) : Int) ∧ SlOwn nodeE S wr (mkTo nodeE k d j) (.slice ao d.length cap) ∧ Turn S w wr) (fun _ i _ => d.length - (intOf i).toNat)
  case atStart => exact ⟨0, Nat.zero_le _, rfl, by simp [cntL], by rw [mkTo_zero]; exact HS.out, Turn.refl _ _⟩
  case round =>
    obtain ⟨j, hj, rfl, rfl, hO, hT⟩ := hrel
    have HO := Lib.hid hO; have HT := Lib.hid hT; clear hO hT
    have hcl := cntL_take_le nodeE d j
    by_cases hlt : j < d.length
    · obtain ⟨g, Sr, cs, rfl, hcap, hSg, hSr, hSub, hR, hrow, hown⟩ := mk_open HO.out hlt
      have HCs := Lib.hid (cntL_take nodeE d j hlt)
      have hcs : cntL nodeE (d.take j) + (nodeE).cnt d[j] ≤ cntL nodeE d := by have := cntL_take_le nodeE d (j + 1); rw [HCs.out] at this; exact this
      obtain ⟨a0, a1, a2, a3, hx, rfl, _⟩ := node_own hown
      rw [hx] at hcs
      have hct : (nodeE).cnt (a0, a1, a2, a3) = 1 + (1 + (1 + (1))) := rfl
      rw [hct] at hcs
      have HX := Lib.hid hx
      clear hx hown
      have HR0 := Lib.hid hR; have HW0 := Lib.hid hrow; have HT0 := HT; clear hR hrow
      generalize hc : cntL nodeE (d.take j) = c at *
      have Hc := Lib.hid hc; clear hc
      have g1 : (0 : Int) ≤ (j : Int) := by omega
      have g2 : (j : Int) < (d.length : Int) := by omega
      have c0 := HW0.out.cells 0 (by simp)
      have c0 : wr.cell? ⟨g, j * 4, none⟩ = some (.int .i64 a0) := c0
      have f0 : wr.frozen? ⟨g, j * 4, none⟩ = false := HW0.out.soft _
      have c1 := HW0.out.cells 1 (by simp)
      have c1 : wr.cell? ⟨g, j * 4 + 1, none⟩ = some (.string a1) := c1
      have f1 : wr.frozen? ⟨g, j * 4 + 1, none⟩ = false := HW0.out.soft _
      have c2 := HW0.out.cells 2 (by simp)
      have c2 : wr.cell? ⟨g, j * 4 + 2, none⟩ = some (.string a2) := c2
      have f2 : wr.frozen? ⟨g, j * 4 + 2, none⟩ = false := HW0.out.soft _
      have c3 := HW0.out.cells 3 (by simp)
      have c3 : wr.cell? ⟨g, j * 4 + 3, none⟩ = some (.int .i64 a3) := c3
      have f3 : wr.frozen? ⟨g, j * 4 + 3, none⟩ = false := HW0.out.soft _
      go_wp2_with fail
      refine calls_by (fun W => (∃ cs : List Value, RowAt W g (j * (nodeE).n) cs ∧ cs = [.int .i64 ((k + c : Nat) : Int), .string a1, .string a2, .int .i64 a3]) ∧ Rest nodeE S W (mkTo nodeE k d j) g j Sr ∧ Turn S w W) ⟨⟨_, (HW0.out.store (j := 0) (by simp) _), by simp only [List.set_cons_zero, List.set_cons_succ, List.cons.injEq, Value.int.injEq, Value.bool.injEq, true_and, and_true] <;> omega⟩, (HR0.out.store (u := 0) (by decide) _), (HT0.out.trans (Turn.store _ _ _ hSg))⟩ ?_
      try clear c0; try clear f0; try clear c1; try clear f1; try clear c2; try clear f2; try clear c3; try clear f3
      clear HR0 HW0 HT0 
      rintro X1 ⟨⟨cs, hw, rfl⟩, hr, ht⟩
      have HW0 := Lib.hid hw; have HR0 := Lib.hid hr; have HT0 := Lib.hid ht; clear hw hr ht
      refine (HTx.out X1 (k + c + 1) _ (by omega) (by omega) (by omega)).mono ?_
      rintro e X2 ⟨rfl, hb⟩
      have HW1 := Lib.hid (HW0.out.same (hb.block _ HW0.out.lt)); have HR1 := Lib.hid (HR0.out.turn (by rw [mkTo_length _ _ _ hj]; exact hlt) (Turn.of_below hb)); have HT1 := Lib.hid (HT0.out.trans (Turn.of_below hb))
      clear hb HW0 HR0 HT0 
      have HW0 := HW1; have HR0 := HR1; have HT0 := HT1; clear HW1 HR1 HT1
      have c0 := HW0.out.cells 0 (by simp)
      have c0 : X2.cell? ⟨g, j * 4, none⟩ = some (.int .i64 ((k + c : Nat) : Int)) := c0
      have f0 : X2.frozen? ⟨g, j * 4, none⟩ = false := HW0.out.soft _
      have c1 := HW0.out.cells 1 (by simp)
      have c1 : X2.cell? ⟨g, j * 4 + 1, none⟩ = some (.string a1) := c1
      have f1 : X2.frozen? ⟨g, j * 4 + 1, none⟩ = false := HW0.out.soft _
      have c2 := HW0.out.cells 2 (by simp)
      have c2 : X2.cell? ⟨g, j * 4 + 2, none⟩ = some (.string a2) := c2
      have f2 : X2.frozen? ⟨g, j * 4 + 2, none⟩ = false := HW0.out.soft _
      have c3 := HW0.out.cells 3 (by simp)
      have c3 : X2.cell? ⟨g, j * 4 + 3, none⟩ = some (.int .i64 a3) := c3
      have f3 : X2.frozen? ⟨g, j * 4 + 3, none⟩ = false := HW0.out.soft _
      go_wp2_with fail
      refine calls_by (fun W => (∃ cs : List Value, RowAt W g (j * (nodeE).n) cs ∧ cs = [.int .i64 ((k + c : Nat) : Int), .string (mkT (k + c + 1)), .string a2, .int .i64 a3]) ∧ Rest nodeE S W (mkTo nodeE k d j) g j Sr ∧ Turn S w W) ⟨⟨_, (HW0.out.store (j := 1) (by simp) _), by simp only [List.set_cons_zero, List.set_cons_succ, List.cons.injEq, Value.int.injEq, Value.bool.injEq, true_and, and_true] <;> omega⟩, (HR0.out.store (u := 1) (by decide) _), (HT0.out.trans (Turn.store _ _ _ hSg))⟩ ?_
      try clear c0; try clear f0; try clear c1; try clear f1; try clear c2; try clear f2; try clear c3; try clear f3
      clear HR0 HW0 HT0 
      rintro X3 ⟨⟨cs, hw, rfl⟩, hr, ht⟩
      have HW0 := Lib.hid hw; have HR0 := Lib.hid hr; have HT0 := Lib.hid ht; clear hw hr ht
      refine (HTx.out X3 (k + c + 1 + 1) _ (by omega) (by omega) (by omega)).mono ?_
      rintro e X4 ⟨rfl, hb⟩
      have HW1 := Lib.hid (HW0.out.same (hb.block _ HW0.out.lt)); have HR1 := Lib.hid (HR0.out.turn (by rw [mkTo_length _ _ _ hj]; exact hlt) (Turn.of_below hb)); have HT1 := Lib.hid (HT0.out.trans (Turn.of_below hb))
      clear hb HW0 HR0 HT0 
      have HW0 := HW1; have HR0 := HR1; have HT0 := HT1; clear HW1 HR1 HT1
      have c0 := HW0.out.cells 0 (by simp)
      have c0 : X4.cell? ⟨g, j * 4, none⟩ = some (.int .i64 ((k + c : Nat) : Int)) := c0
      have f0 : X4.frozen? ⟨g, j * 4, none⟩ = false := HW0.out.soft _
      have c1 := HW0.out.cells 1 (by simp)
      have c1 : X4.cell? ⟨g, j * 4 + 1, none⟩ = some (.string (mkT (k + c + 1))) := c1
      have f1 : X4.frozen? ⟨g, j * 4 + 1, none⟩ = false := HW0.out.soft _
      have c2 := HW0.out.cells 2 (by simp)
      have c2 : X4.cell? ⟨g, j * 4 + 2, none⟩ = some (.string a2) := c2
      have f2 : X4.frozen? ⟨g, j * 4 + 2, none⟩ = false := HW0.out.soft _
      have c3 := HW0.out.cells 3 (by simp)
      have c3 : X4.cell? ⟨g, j * 4 + 3, none⟩ = some (.int .i64 a3) := c3
      have f3 : X4.frozen? ⟨g, j * 4 + 3, none⟩ = false := HW0.out.soft _
      go_wp2
      go_roundw
      case rel =>
        refine ⟨j + 1, by omega, by go_num, ?_, mk_close (cs := [.int .i64 ((k + c : Nat) : Int), .string (mkT (k + c + 1)), .string (mkT (k + c + 1 + 1)), .int .i64 ((k + c + 1 + 1 + 1 : Nat) : Int)]) ((HR0.out.store (u := 2) (by decide) _).store (u := 3) (by decide) _) hlt hcap (RowAt.cong ((HW0.out.store (j := 2) (by simp) _).store (j := 3) (by simp) _) ?_) ?_, ((HT0.out.trans (Turn.store _ _ _ hSg)).trans (Turn.store _ _ _ hSg))⟩
        · rw [HCs.out, HX.out, hct]; first | (congr 1; done) | (congr 1; omega)
        · simp only [List.set_cons_zero, List.set_cons_succ, List.cons.injEq, Value.int.injEq, Value.bool.injEq, true_and, and_true]
          first | done | omega | (refine ⟨?_, ?_⟩ <;> first | omega | (rw [Bool.eq_iff_iff]; simp; omega)) | (rw [Bool.eq_iff_iff]; simp; omega)
        · rw [Hc.out, HX.out]
          exact node_pack ((k + c : Nat) : Int) (mkT (k + c + 1)) (mkT (k + c + 1 + 1)) ((k + c + 1 + 1 + 1 : Nat) : Int)   trivial
      case measure => simp [intOf]; omega
    · have e : j = d.length := by omega
      subst e
      have HOO : Hid (SlOwn nodeE S wr (mkAll nodeE k d) (.slice ao d.length cap)) := Lib.hid (by have := HO.out; rw [mkTo_all] at this; exact this)
      have hce : cntL nodeE (d.take d.length) = cntL nodeE d := by rw [List.take_length]
      rw [hce]
      go_wp2
      go_ret
      exact ⟨rfl, HOO.out, HT.out⟩
end Go.Proofs.Ytlgafmgohinkbaa
/- The helpers of the laws: marks. -/
namespace Go.Proofs.Ytlgafmgohinkbaa
open Go.RowKit
attribute [local go_sem ↓] Go.wp_at_zero Go.wp_at_succ

set_option maxRecDepth 100000 in
set_option maxHeartbeats 4000000 in
theorem markStringS_at {S : Bs} (v : Value) (d : List ByteArray) (k : Nat) (w : World) (h : SlOwn strE S w d v) (hl : d.length ≤ 1048576) (hz : szL strE d ≤ 1048576) (hk1 : 0 < k) (hk2 : k + cntL strE d ≤ 1000000000) :
    Calls Try.prog 20 #[v, .int .i64 k] w fun e w' => e = .returned (.int .i64 ((k + cntL strE d : Nat) : Int)) ∧ SlOwn strE S w' (mkAll strE k d) v ∧ Turn S w w' := by
  obtain ⟨ao, cap, rfl⟩ := h.at.sl
  have HS := Lib.hid h; clear h
  have HTx : Hid (∀ (X : World) (m : Nat) (q : Int), q = (m : Int) → 0 < m → m ≤ 1000000000 → Calls Try.prog 80 #[.int .i64 q] X fun e w' => e = .returned (.string (mkT m)) ∧ Below X.heap.size X w') := Lib.hid (fun X m q e h1 h2 => by subst e; exact markText_any m X h1 h2)
  go_enter Try.func20, Try.ntmps20
  go_wp2
  go_loopw [1, 5] (fun t i wr => ∃ j : Nat, j ≤ d.length ∧ i = .int .i64 j ∧ t = .int .i64 ((k + cntL strE (d.take j) : Nat) : Int) ∧ SlOwn strE S wr (mkTo strE k d j) (.slice ao d.length cap) ∧ Turn S w wr) (fun _ i _ => d.length - (intOf i).toNat)
  case atStart => exact ⟨0, Nat.zero_le _, rfl, by simp [cntL], by rw [mkTo_zero]; exact HS.out, Turn.refl _ _⟩
  case round =>
    obtain ⟨j, hj, rfl, rfl, hO, hT⟩ := hrel
    have HO := Lib.hid hO; have HT := Lib.hid hT; clear hO hT
    have hcl := cntL_take_le strE d j
    by_cases hlt : j < d.length
    · obtain ⟨g, Sr, cs, rfl, hcap, hSg, hSr, hSub, hR, hrow, hown⟩ := mk_open HO.out hlt
      have HCs := Lib.hid (cntL_take strE d j hlt)
      have hcs : cntL strE (d.take j) + (strE).cnt d[j] ≤ cntL strE d := by have := cntL_take_le strE d (j + 1); rw [HCs.out] at this; exact this
      obtain ⟨a0, hx, rfl⟩ := txt_own hown
      rw [hx] at hcs
      have hct : (strE).cnt a0 = 1 := rfl
      rw [hct] at hcs
      have HX := Lib.hid hx
      clear hx hown
      have HR0 := Lib.hid hR; have HW0 := Lib.hid hrow; have HT0 := HT; clear hR hrow
      have HJ : Hid (j * (strE).n = j) := Lib.hid (Nat.mul_one j)
      rw [HJ.out] at HW0
      generalize hc : cntL strE (d.take j) = c at *
      have Hc := Lib.hid hc; clear hc
      have g1 : (0 : Int) ≤ (j : Int) := by omega
      have g2 : (j : Int) < (d.length : Int) := by omega
      go_wp2_with fail
      refine (HTx.out wr (k + c) _ (by omega) (by omega) (by omega)).mono ?_
      rintro e X1 ⟨rfl, hb⟩
      have HW1 := Lib.hid (HW0.out.same (hb.block _ HW0.out.lt)); have HR1 := Lib.hid (HR0.out.turn (by rw [mkTo_length _ _ _ hj]; exact hlt) (Turn.of_below hb)); have HT1 := Lib.hid (HT0.out.trans (Turn.of_below hb))
      clear hb HW0 HR0 HT0 
      have HW0 := HW1; have HR0 := HR1; have HT0 := HT1; clear HW1 HR1 HT1
      have c0 := HW0.out.cells 0 (by simp)
      have c0 : X1.cell? ⟨g, j, none⟩ = some (.string a0) := c0
      have f0 : X1.frozen? ⟨g, j, none⟩ = false := HW0.out.soft _
      go_wp2
      go_roundw
      case rel =>
        refine ⟨j + 1, by omega, by go_num, ?_, mk_close (cs := [.string (mkT (k + c))]) (HR0.out.store1 rfl _) hlt hcap (RowAt.cong (by rw [HJ.out]; exact (HW0.out.store (j := 0) (by simp) _)) ?_) ?_, (HT0.out.trans (Turn.store _ _ _ hSg))⟩
        · rw [HCs.out, HX.out, hct]; first | (congr 1; done) | (congr 1; omega)
        · simp only [List.set_cons_zero, List.set_cons_succ, List.cons.injEq, Value.int.injEq, Value.bool.injEq, true_and, and_true]
          first | done | omega | (refine ⟨?_, ?_⟩ <;> first | omega | (rw [Bool.eq_iff_iff]; simp; omega)) | (rw [Bool.eq_iff_iff]; simp; omega)
        · rw [Hc.out, HX.out]
          exact rfl
      case measure => simp [intOf]; omega
    · have e : j = d.length := by omega
      subst e
      have HOO : Hid (SlOwn strE S wr (mkAll strE k d) (.slice ao d.length cap)) := Lib.hid (by have := HO.out; rw [mkTo_all] at this; exact this)
      have hce : cntL strE (d.take d.length) = cntL strE d := by rw [List.take_length]
      rw [hce]
      go_wp2
      go_ret
      exact ⟨rfl, HOO.out, HT.out⟩
end Go.Proofs.Ytlgafmgohinkbaa
/- The helpers of the laws: marks asked. -/
namespace Go.Proofs.Ytlgafmgohinkbaa
open Go.RowKit
attribute [local go_sem ↓] Go.wp_at_zero Go.wp_at_succ

set_option maxRecDepth 100000 in
set_option maxHeartbeats 4000000 in
theorem heldStringS_at {S : Bs} (v : Value) (d : List ByteArray) (k : Nat) (w : World) (h : SlAt strE S w (mkAll strE k d) v) (hl : d.length ≤ 1048576) (hz : szL strE d ≤ 1048576) (hk1 : 0 < k) (hk2 : k + cntL strE d ≤ 1000000000) :
    Calls Try.prog 21 #[v, .int .i64 k] w fun e w' => e = .returned (.int .i64 ((k + cntL strE d : Nat) : Int)) ∧ Below w.heap.size w w' := by
  obtain ⟨ao, cap, rfl⟩ := h.sl
  have hml := mkAll_length strE k d
  rw [hml]
  rw [hml] at h
  have HS := Lib.hid h; clear h
  have HTx : Hid (∀ (X : World) (m : Nat) (q : Int), q = (m : Int) → 0 < m → m ≤ 1000000000 → Calls Try.prog 80 #[.int .i64 q] X fun e w' => e = .returned (.string (mkT m)) ∧ Below X.heap.size X w') := Lib.hid (fun X m q e h1 h2 => by subst e; exact markText_any m X h1 h2)
  go_enter Try.func21, Try.ntmps21
  go_wp2
  go_loopw [1, 5] (fun t i wr => ∃ j : Nat, j ≤ d.length ∧ i = .int .i64 j ∧ t = .int .i64 ((k + cntL strE (d.take j) : Nat) : Int) ∧ Below w.heap.size w wr) (fun _ i _ => d.length - (intOf i).toNat)
  case atStart => exact ⟨0, Nat.zero_le _, rfl, by simp [cntL], Below.refl _ _⟩
  case round =>
    obtain ⟨j, hj, rfl, rfl, hbel⟩ := hrel
    have hcl := cntL_take_le strE d j
    by_cases hlt : j < d.length
    · obtain ⟨b, off, x0, rfl, _, hb0, hx, hc0⟩ := str_row (HS.out.frame (Same.of_below' hbel)) (k := j) (by rw [hml]; exact hlt)
      have HCs := Lib.hid (cntL_take strE d j hlt)
      have hcs : cntL strE (d.take j) + (strE).cnt d[j] ≤ cntL strE d := by have := cntL_take_le strE d (j + 1); rw [HCs.out] at this; exact this
      rw [mkAll_get strE k d j hlt] at hx
      have hx : mkT (k + cntL strE (d.take j)) = x0 := hx
      subst hx
      have hct : strE.cnt d[j] = 1 := rfl
      rw [hct] at hcs
      generalize d[j] = a0 at *
      generalize hc' : cntL strE (d.take j) = c at *
      clear hc'
      have SK : Hid (∀ W : World, Below wr.heap.size wr W → (Below wr.heap.size wr W ∧ W.cell? ⟨b, off + j, none⟩ = some (.string (mkT (k + c))))) := Lib.hid (fun W h => ⟨h, (h.cell (p := ⟨b, _, none⟩) hb0).trans hc0⟩)
      have hw0 : Below wr.heap.size wr wr := Below.refl _ _
      have hbd : Below wr.heap.size wr wr.drew := hw0.drew
      have HBl := Lib.hid hbel
      clear hbel hc0
      have g1 : (0 : Int) ≤ (j : Int) := by omega
      have g2 : (j : Int) < (d.length : Int) := by omega
      have HT1 : Hid (∀ (X : World) (q : Int), q = ((k + c : Nat) : Int) → Below wr.heap.size wr X → Calls Try.prog 80 #[.int .i64 q] X fun e w' => e = .returned (.string (mkT (k + c))) ∧ Below wr.heap.size wr w') := Lib.hid (fun X q e h => (HTx.out X (k + c) q e (by omega) (by omega)).mono fun _ _ z => ⟨z.1, h.trans (z.2.mono h.size)⟩)
      have hkk : ((mkT (k + c)).toList == (mkT (k + c)).toList) = true := by simp
      generalize mkT (k + c) = A0 at *
      go_wp2_with fail
      go_region_held3 (fun W => Below wr.heap.size wr W ∧ W.cell? ⟨b, off + j, none⟩ = some (.string A0))
        (exact SK.out _ (by assumption))
        (first | (go_at_call 80; refine (HT1.out _ _ (by omega) (by assumption)).mono ?_; rintro e X1 ⟨rfl, hx1⟩) | (fail "none"))
      clear HT1 hkk
      go_wp2
      go_roundw
      case rel => exact ⟨j + 1, by omega, by go_num, by rw [HCs.out, hct]; first | (congr 1; done) | (congr 1; omega), HBl.out.trans (hx1.mono HBl.out.size)⟩
      case measure => simp [intOf]; omega
    · have e : j = d.length := by omega
      subst e
      have hce : cntL strE (d.take d.length) = cntL strE d := by rw [List.take_length]
      rw [hce]
      go_wp2
      go_ret
      exact ⟨rfl, hbel⟩
end Go.Proofs.Ytlgafmgohinkbaa
/- The helpers of the laws: comparisons. -/
namespace Go.Proofs.Ytlgafmgohinkbaa
open Go.RowKit
attribute [local go_sem ↓] Go.wp_at_zero Go.wp_at_succ

set_option maxRecDepth 100000 in
set_option maxHeartbeats 4000000 in
theorem eqStringS_at {S S' : Bs} (v u : Value) (d : List ByteArray) (w : World) (hd : SlAt strE S w d v) (hu : SlAt strE S' w d u) (hz : d.length + szL strE d ≤ 1048576) :
    Calls Try.prog 18 #[v, u] w fun e w' => e = .returned (.bool true) ∧ Below w.heap.size w w' := by
  obtain ⟨ao, ca, rfl⟩ := hd.sl
  obtain ⟨bo, cb, rfl⟩ := hu.sl
  have HA := Lib.hid hd; have HB := Lib.hid hu; clear hd hu
  have HL := Lib.hid hz
  have hl : d.length ≤ 1048576 := by omega
  clear hz
  go_enter Try.func18, Try.ntmps18
  go_wp2
  go_loopw [5] (fun i wr => ∃ k : Nat, k ≤ d.length ∧ i = .int .i64 k ∧ Below w.heap.size w wr) (fun i _ => d.length - (intOf i).toNat)
  case atStart => exact ⟨0, Nat.zero_le _, rfl, Below.refl _ _⟩
  case round =>
    obtain ⟨k, hk, rfl, hbel⟩ := hrel
    have hsz := hbel.size
    by_cases hlt : k < d.length
    · obtain ⟨p, off, A, rfl, _, hp0, hx, c1⟩ := str_row (HA.out.frame (Same.of_below' hbel)) hlt
      obtain ⟨q, off', A', rfl, _, hq0, hx', c2⟩ := str_row (HB.out.frame (Same.of_below' hbel)) hlt
      obtain rfl : A = A' := hx.symm.trans hx'
      clear hx hx'
      have hkk : (A.toList == A.toList) = true := by simp
      have g1 : (0 : Int) ≤ (k : Int) := by omega
      have g2 : (k : Int) < (d.length : Int) := by omega
      have hbd := hbel.drew
      have c1' : wr.drew.cell? ⟨p, off + k, none⟩ = some (.string A) := c1
      have c2' : wr.drew.cell? ⟨q, off' + k, none⟩ = some (.string A) := c2
      go_wp2_with fail
      go_region_held3 (fun W => Below w.heap.size w W ∧ W.cell? ⟨p, off + k, none⟩ = some (.string A) ∧ W.cell? ⟨q, off' + k, none⟩ = some (.string A))
        (first | exact ⟨hbel, c1, c2⟩ | exact ⟨hbd, c1', c2'⟩)
        (fail "none")
      all_goals
        go_wp2
        go_roundw
        case rel => exact ⟨k + 1, by omega, by go_num, by first | exact hbel | exact hbd⟩
        case measure => simp [intOf]; omega
    · go_wp2
      go_ret
      exact ⟨rfl, hbel⟩
end Go.Proofs.Ytlgafmgohinkbaa
/- The law FnExactFilterAttrs: its walk. -/
namespace Go.Proofs.Ytlgafmgohinkbaa
open Go.RowKit
attribute [local go_sem ↓] Go.wp_at_zero Go.wp_at_succ

set_option maxRecDepth 100000 in
set_option maxHeartbeats 4000000 in
theorem FilterAttrs_walk (v0 : Value) (d0 : List NodeT) (w : World) (h0 : SlAt nodeE (All w) w d0 v0) (f0 : (slE nodeE).long d0) :
    Calls Try.prog 4 #[v0] w fun e w' => e = .returned (.bool true) ∧ Below w.heap.size w w' := by
  have HQ0 : Hid (d0.length + szL nodeE d0 ≤ 1048576 → ∀ (Y : World) (S S' : Bs) (x u : Value), SlAt nodeE S Y d0 x → SlAt nodeE S' Y d0 u → Calls Try.prog 15 #[x, u] Y fun e w' => e = .returned (.bool true) ∧ Below Y.heap.size Y w') := Lib.hid (fun z Y S S' x u h1 h2 => eqNodeS_at x u d0 Y h1 h2 z)
  have HS0 : Hid (∀ (l : Int) (W : World), Below w.heap.size w W → 0 ≤ l → l ≤ 1048576 → Calls Try.prog 11 #[v0, .int .i64 l] W fun e w' => e = .returned (.int .i64 (leftR (d0.length + szL nodeE d0) l)) ∧ Below W.heap.size W w') := Lib.hid (fun l W b p q => szNodeS_at v0 d0 l W (h0.frame (Same.of_below' b)) f0 p q)
  have HT0 : Hid (d0.length + szL nodeE d0 ≤ 1048576 → ∀ Y : World, Below w.heap.size w Y → Calls Try.prog 13 #[v0] Y fun e w' => ∃ u, e = .returned u ∧ SlOwn nodeE (Fresh Y w') w' d0 u ∧ Below Y.heap.size Y w') := Lib.hid (fun z Y b => toNodeS_at v0 d0 Y (h0.frame (Same.of_below' b)) z)
  have HSp : Hid (d0.length + szL nodeE d0 ≤ 1048576 → ∀ (Y : World) (S0 : Bs) (u0 : Value), SlAt nodeE S0 Y d0 u0 → Calls Try.prog 16 #[u0] Y fun e w' => (∃ u9 : Value, e = .returned u9 ∧ SlOwn strE (Fresh Y w') w' (attrsR d0) u9) ∧ Below Y.heap.size Y w') := Lib.hid (fun z0 Y S0 u0 h0 => SpecFilterAttrs_any u0 d0 Y h0 z0)
  have HIm : Hid (d0.length + szL nodeE d0 ≤ 1048576 → ∀ (Y : World) (S0 : Bs) (u0 : Value), SlAt nodeE S0 Y d0 u0 → Calls Try.prog 17 #[u0] Y fun e w' => (∃ u9 : Value, e = .returned u9 ∧ SlOwn strE (Fresh Y w') w' (attrsR d0) u9) ∧ Below Y.heap.size Y w') := Lib.hid (fun z0 Y S0 u0 h0 => FilterAttrs_any u0 d0 Y h0 z0)
  obtain ⟨o0, k0, rfl⟩ := h0.sl
  clear h0 f0
  go_enter Try.func4, Try.ntmps4
  have B : Hid (Below w.heap.size w w) := Lib.hid (Below.refl _ _)
  go_wp2_with fail
  refine (HS0.out (1048576) w B.out (by omega) (by omega)).mono ?_
  rintro e W1 ⟨rfl, hb⟩
  have B1 := Lib.hid (B.out.trans (hb.mono B.out.size)); clear B; have B := B1; clear B1
  have O0 := Lib.hid (hb.size)
  clear hb HS0
  by_cases g0 : ((d0.length + szL nodeE d0 : Nat) : Int) ≤ 1048576
  rotate_left
  · rw [leftR_neg g0]
    clear g0
    go_wp2
    go_ret
    exact ⟨rfl, B.out⟩
  rw [leftR_pos g0]
  have HZ0 : Hid (d0.length + szL nodeE d0 ≤ 1048576) := Lib.hid (by omega)
  have p0 : (0 : Int) ≤ ((d0.length + szL nodeE d0 : Nat) : Int) := by omega
  have c0 : ¬ 1048576 - ((d0.length + szL nodeE d0 : Nat) : Int) < 0 := by omega
  generalize ((d0.length + szL nodeE d0 : Nat) : Int) = t0 at *
  have HT := Lib.hid (HT0.out HZ0.out); clear HT0; have HT0 := HT; clear HT
  have HQ := Lib.hid (HQ0.out HZ0.out); clear HQ0; have HQ0 := HQ; clear HQ
  have HS := Lib.hid (HSp.out HZ0.out); have HI := Lib.hid (HIm.out HZ0.out); clear HSp HIm
  have O1 := Lib.hid (B.out.size)
  have HRz : Hid ((attrsR d0).length + szL strE (attrsR d0) ≤ 1048576) := Lib.hid (Nat.le_trans (attrsR_sz d0) HZ0.out)
  generalize attrsR d0 = R at *
  have HQR : Hid (∀ (Y : World) (S S' : Bs) (x u : Value), SlAt strE S Y R x → SlAt strE S' Y R u → Calls Try.prog 18 #[x, u] Y fun e w' => e = .returned (.bool true) ∧ Below Y.heap.size Y w') := Lib.hid (fun Y S S' x u h1 h2 => eqStringS_at x u R Y h1 h2 HRz.out)
  go_wp2_with fail
  refine (HT0.out _ B.out).mono ?_
  rintro e W2 ⟨x0, rfl, q, hb⟩
  have B1 := Lib.hid (B.out.trans (hb.mono B.out.size)); clear B; have B := B1; clear B1
  have O2 := Lib.hid (hb.size)
  have Qx0 := Lib.hid q.at; clear q hb
  obtain ⟨px0, cx0, rfl⟩ := Qx0.out.sl
  go_wp2_with fail
  refine (HS.out _ _ _ Qx0.out).mono ?_
  rintro e W3 ⟨⟨u9, rfl, q⟩, hb⟩
  clear Qx0
  have B1 := Lib.hid (B.out.trans (hb.mono B.out.size)); clear B; have B := B1; clear B1
  have O3 := Lib.hid (hb.size)
  have Qw := Lib.hid q; clear q hb
  obtain ⟨pw, cw, rfl⟩ := Qw.out.at.sl
  go_wp2_with fail
  refine (HT0.out _ B.out).mono ?_
  rintro e W4 ⟨y0, rfl, q, hb⟩
  have P := Lib.hid (Qw.out.frame (Same.of_below' hb)); clear Qw; have Qw := P; clear P
  have B1 := Lib.hid (B.out.trans (hb.mono B.out.size)); clear B; have B := B1; clear B1
  have O4 := Lib.hid (hb.size)
  have Qy0 := Lib.hid q.at; have OY0 := Lib.hid q; clear q hb
  obtain ⟨py0, cy0, rfl⟩ := Qy0.out.sl
  go_wp2_with fail
  refine (HI.out _ _ _ Qy0.out).mono ?_
  rintro e W5 ⟨⟨u9, rfl, q⟩, hb⟩
  have P := Lib.hid (Qw.out.frame (Same.of_below' hb)); clear Qw; have Qw := P; clear P
  have P := Lib.hid (Qy0.out.frame (Same.of_below' hb)); clear Qy0; have Qy0 := P; clear P
  have P := Lib.hid (OY0.out.frame (Same.of_below' hb)); clear OY0; have OY0 := P; clear P
  have B1 := Lib.hid (B.out.trans (hb.mono B.out.size)); clear B; have B := B1; clear B1
  have O5 := Lib.hid (hb.size)
  have Qg := Lib.hid q; clear q hb
  obtain ⟨pg, cg, rfl⟩ := Qg.out.at.sl
  go_wp2_with fail
  refine (HQR.out _ _ _ _ _ Qg.out.at Qw.out.at).mono ?_
  rintro e W6 ⟨rfl, hb⟩
  have P := Lib.hid (Qw.out.frame (Same.of_below' hb)); clear Qw; have Qw := P; clear P
  have P := Lib.hid (Qy0.out.frame (Same.of_below' hb)); clear Qy0; have Qy0 := P; clear P
  have P := Lib.hid (OY0.out.frame (Same.of_below' hb)); clear OY0; have OY0 := P; clear P
  have P := Lib.hid (Qg.out.frame (Same.of_below' hb)); clear Qg; have Qg := P; clear P
  have B1 := Lib.hid (B.out.trans (hb.mono B.out.size)); clear B; have B := B1; clear B1
  have O6 := Lib.hid (hb.size)
  clear hb
  go_wp2_with fail
  refine (HT0.out _ B.out).mono ?_
  rintro e W7 ⟨z0, rfl, q, hb⟩
  have P := Lib.hid (Qw.out.frame (Same.of_below' hb)); clear Qw; have Qw := P; clear P
  have P := Lib.hid (Qy0.out.frame (Same.of_below' hb)); clear Qy0; have Qy0 := P; clear P
  have P := Lib.hid (OY0.out.frame (Same.of_below' hb)); clear OY0; have OY0 := P; clear P
  have P := Lib.hid (Qg.out.frame (Same.of_below' hb)); clear Qg; have Qg := P; clear P
  have B1 := Lib.hid (B.out.trans (hb.mono B.out.size)); clear B; have B := B1; clear B1
  have O7 := Lib.hid (hb.size)
  have Qz0 := Lib.hid q.at; clear q hb
  obtain ⟨pz0, cz0, rfl⟩ := Qz0.out.sl
  go_wp2_with fail
  refine (HQ0.out _ _ _ _ _ Qy0.out Qz0.out).mono ?_
  rintro e W8 ⟨rfl, hb⟩
  have P := Lib.hid (Qw.out.frame (Same.of_below' hb)); clear Qw; have Qw := P; clear P
  have P := Lib.hid (Qy0.out.frame (Same.of_below' hb)); clear Qy0; have Qy0 := P; clear P
  have P := Lib.hid (OY0.out.frame (Same.of_below' hb)); clear OY0; have OY0 := P; clear P
  have P := Lib.hid (Qg.out.frame (Same.of_below' hb)); clear Qg; have Qg := P; clear P
  have P := Lib.hid (Qz0.out.frame (Same.of_below' hb)); clear Qz0; have Qz0 := P; clear P
  have B1 := Lib.hid (B.out.trans (hb.mono B.out.size)); clear B; have B := B1; clear B1
  have O8 := Lib.hid (hb.size)
  clear hb
  clear Qz0
  clear Qy0
  go_wp2_with fail
  have mz := HZ0.out; have mc0 := cnt_fit (e := nodeE) d0 (by decide) mz
  refine (markNodeS_at _ d0 (1) _ OY0.out (by omega) (by omega) (by omega) (by omega)).mono ?_
  rintro e W9 ⟨rfl, _, ht⟩
  clear mz
  have P := Lib.hid (Qw.out.frame (ht.same (by rintro k ⟨z1, z2⟩ ⟨z3, z4⟩; have := O0.out; have := O1.out; have := O2.out; have := O3.out; have := O4.out; have := O5.out; have := O6.out; have := O7.out; have := O8.out; omega))); clear Qw; have Qw := P; clear P
  have P := Lib.hid (Qg.out.frame (ht.same (by rintro k ⟨z1, z2⟩ ⟨z3, z4⟩; have := O0.out; have := O1.out; have := O2.out; have := O3.out; have := O4.out; have := O5.out; have := O6.out; have := O7.out; have := O8.out; omega))); clear Qg; have Qg := P; clear P
  have B1 := Lib.hid (ht.below B.out (by rintro k ⟨z3, z4⟩; have := O0.out; have := O1.out; have := O2.out; have := O3.out; have := O4.out; have := O5.out; have := O6.out; have := O7.out; have := O8.out; omega)); clear B; have B := B1; clear B1
  have O9 := Lib.hid (ht.size)
  clear OY0 ht
  have hk : ¬ ((1 + cntL nodeE d0 : Nat) : Int) < 0 := by omega
  go_wp2_with fail
  refine (HQR.out _ _ _ _ _ Qg.out.at Qw.out.at).mono ?_
  rintro e W10 ⟨rfl, hb⟩
  have P := Lib.hid (Qw.out.frame (Same.of_below' hb)); clear Qw; have Qw := P; clear P
  have P := Lib.hid (Qg.out.frame (Same.of_below' hb)); clear Qg; have Qg := P; clear P
  have B1 := Lib.hid (B.out.trans (hb.mono B.out.size)); clear B; have B := B1; clear B1
  have O10 := Lib.hid (hb.size)
  clear hb
  clear hk mc0
  have mz := HRz.out; have mc := cnt_fit (e := strE) R (by decide) mz
  have HH : Hid (∀ (Y : World) (S : Bs), SlAt strE S Y (mkAll strE 1 R) (.slice pg R.length cg) → Calls Try.prog 21 #[.slice pg R.length cg, .int .i64 1] Y fun e w' => e = .returned (.int .i64 ((1 + cntL strE R : Nat) : Int)) ∧ Below Y.heap.size Y w') := Lib.hid (fun Y S h => heldStringS_at _ R 1 Y h (by omega) (by omega) (by omega) (by omega))
  go_wp2_with fail
  refine (markStringS_at _ R 1 _ Qg.out (by omega) (by omega) (by omega) (by omega)).mono ?_
  rintro e W11 ⟨rfl, r, ht⟩
  have QM := Lib.hid r.at; clear r
  have P := Lib.hid (Qw.out.frame (ht.same (by rintro k ⟨z1, z2⟩ ⟨z3, z4⟩; have := O0.out; have := O1.out; have := O2.out; have := O3.out; have := O4.out; have := O5.out; have := O6.out; have := O7.out; have := O8.out; have := O9.out; have := O10.out; omega))); clear Qw; have Qw := P; clear P
  have B1 := Lib.hid (ht.below B.out (by rintro k ⟨z3, z4⟩; have := O0.out; have := O1.out; have := O2.out; have := O3.out; have := O4.out; have := O5.out; have := O6.out; have := O7.out; have := O8.out; have := O9.out; have := O10.out; omega)); clear B; have B := B1; clear B1
  have O11 := Lib.hid (ht.size)
  clear Qg ht
  have hq1 : ¬ ((1 + cntL strE R : Nat) : Int) < 0 := by omega
  generalize ((1 + cntL strE R : Nat) : Int) = Q at *
  have hq2 : (Q != Q) = false := by simp
  clear mz mc
  go_wp2_with fail
  refine (HH.out _ _ QM.out).mono ?_
  rintro e W12 ⟨rfl, hb⟩
  have P := Lib.hid (Qw.out.frame (Same.of_below' hb)); clear Qw; have Qw := P; clear P
  have P := Lib.hid (QM.out.frame (Same.of_below' hb)); clear QM; have QM := P; clear P
  have B1 := Lib.hid (B.out.trans (hb.mono B.out.size)); clear B; have B := B1; clear B1
  have O12 := Lib.hid (hb.size)
  clear hb
  go_wp2_with fail
  refine (HT0.out _ B.out).mono ?_
  rintro e W13 ⟨x0, rfl, q, hb⟩
  have P := Lib.hid (Qw.out.frame (Same.of_below' hb)); clear Qw; have Qw := P; clear P
  have P := Lib.hid (QM.out.frame (Same.of_below' hb)); clear QM; have QM := P; clear P
  have B1 := Lib.hid (B.out.trans (hb.mono B.out.size)); clear B; have B := B1; clear B1
  have O13 := Lib.hid (hb.size)
  have Qx0 := Lib.hid q.at; clear q hb
  obtain ⟨px0, cx0, rfl⟩ := Qx0.out.sl
  go_wp2_with fail
  refine (HI.out _ _ _ Qx0.out).mono ?_
  rintro e W14 ⟨⟨u9, rfl, q⟩, hb⟩
  clear Qx0
  have P := Lib.hid (Qw.out.frame (Same.of_below' hb)); clear Qw; have Qw := P; clear P
  have P := Lib.hid (QM.out.frame (Same.of_below' hb)); clear QM; have QM := P; clear P
  have B1 := Lib.hid (B.out.trans (hb.mono B.out.size)); clear B; have B := B1; clear B1
  have O14 := Lib.hid (hb.size)
  have Qh := Lib.hid q; clear q hb
  obtain ⟨ph, ch, rfl⟩ := Qh.out.at.sl
  go_wp2_with fail
  refine (HQR.out _ _ _ _ _ Qh.out.at Qw.out.at).mono ?_
  rintro e W15 ⟨rfl, hb⟩
  have P := Lib.hid (Qw.out.frame (Same.of_below' hb)); clear Qw; have Qw := P; clear P
  have P := Lib.hid (QM.out.frame (Same.of_below' hb)); clear QM; have QM := P; clear P
  have P := Lib.hid (Qh.out.frame (Same.of_below' hb)); clear Qh; have Qh := P; clear P
  have B1 := Lib.hid (B.out.trans (hb.mono B.out.size)); clear B; have B := B1; clear B1
  have O15 := Lib.hid (hb.size)
  clear hb
  go_wp2_with fail
  refine (HH.out _ _ QM.out).mono ?_
  rintro e W16 ⟨rfl, hb⟩
  have P := Lib.hid (Qw.out.frame (Same.of_below' hb)); clear Qw; have Qw := P; clear P
  have P := Lib.hid (QM.out.frame (Same.of_below' hb)); clear QM; have QM := P; clear P
  have P := Lib.hid (Qh.out.frame (Same.of_below' hb)); clear Qh; have Qh := P; clear P
  have B1 := Lib.hid (B.out.trans (hb.mono B.out.size)); clear B; have B := B1; clear B1
  have O16 := Lib.hid (hb.size)
  clear hb
  go_wp2
  go_ret
  exact ⟨rfl, B.out⟩
end Go.Proofs.Ytlgafmgohinkbaa
/- Arguments of the laws: where they lie. -/
namespace Go.Proofs.Ytlgafmgohinkbaa
open Go.RowKit

open Go.ChangeShapes Go.WideShapes Go.Joins Go.Deep
theorem opn_str : Opens Try.prog 9 strE := opens_str Try.underlying9
theorem Try.cellStr : Try.prog.cellsOf 9 = strE.n := by kernel_rfl
theorem opn_int : Opens Try.prog 2 intE := opens_int Try.underlying2
theorem opn_bool : Opens Try.prog 4 boolE := opens_bool Try.underlying4
theorem Try.cellRdn : Try.prog.cellsOf 208 = rdnE.n := by kernel_rfl
set_option maxRecDepth 100000 in
theorem opn_rdn : Opens Try.prog 208 rdnE := opens_struct Try.underlying208 Try.cellRdn (ff_cons _ (by rfl) (by rfl) (by kernel_rfl) opn_str (ff_last _ (by rfl) (by rfl) (by kernel_rfl) (by rfl) opn_str))
theorem opn_strS : Opens Try.prog 29 (slE strE) := opens_sl Try.underlying29 Try.cellStr (by decide) opn_str
theorem Try.cellAttr : Try.prog.cellsOf 210 = attrE.n := by kernel_rfl
set_option maxRecDepth 100000 in
theorem opn_attr : Opens Try.prog 210 attrE := opens_struct Try.underlying210 Try.cellAttr (ff_cons _ (by rfl) (by rfl) (by kernel_rfl) opn_str (ff_last _ (by rfl) (by rfl) (by kernel_rfl) (by rfl) opn_strS))
theorem opn_rdnS : Opens Try.prog 123 (slE rdnE) := opens_sl Try.underlying123 Try.cellRdn (by decide) opn_rdn
theorem opn_attrS : Opens Try.prog 124 (slE attrE) := opens_sl Try.underlying124 Try.cellAttr (by decide) opn_attr
theorem Try.cellEntry : Try.prog.cellsOf 126 = entryE.n := by kernel_rfl
set_option maxRecDepth 100000 in
theorem opn_entry : Opens Try.prog 126 entryE := opens_struct Try.underlying126 Try.cellEntry (ff_cons _ (by rfl) (by rfl) (by kernel_rfl) opn_rdnS (ff_last _ (by rfl) (by rfl) (by kernel_rfl) (by rfl) opn_attrS))
theorem Try.cellNode : Try.prog.cellsOf 102 = nodeE.n := by kernel_rfl
set_option maxRecDepth 100000 in
theorem opn_node : Opens Try.prog 102 nodeE := opens_struct Try.underlying102 Try.cellNode (ff_cons _ (by rfl) (by rfl) (by kernel_rfl) opn_int (ff_cons _ (by rfl) (by rfl) (by kernel_rfl) opn_str (ff_cons _ (by rfl) (by rfl) (by kernel_rfl) opn_str (ff_last _ (by rfl) (by rfl) (by kernel_rfl) (by rfl) opn_int))))
theorem Try.cellClass : Try.prog.cellsOf 134 = classE.n := by kernel_rfl
set_option maxRecDepth 100000 in
theorem opn_class : Opens Try.prog 134 classE := opens_struct Try.underlying134 Try.cellClass (ff_cons _ (by rfl) (by rfl) (by kernel_rfl) opn_str (ff_cons _ (by rfl) (by rfl) (by kernel_rfl) opn_strS (ff_cons _ (by rfl) (by rfl) (by kernel_rfl) opn_strS (ff_last _ (by rfl) (by rfl) (by kernel_rfl) (by rfl) opn_strS))))
theorem Try.cellMod : Try.prog.cellsOf 35 = modE.n := by kernel_rfl
set_option maxRecDepth 100000 in
theorem opn_mod : Opens Try.prog 35 modE := opens_struct Try.underlying35 Try.cellMod (ff_cons _ (by rfl) (by rfl) (by kernel_rfl) opn_int (ff_cons _ (by rfl) (by rfl) (by kernel_rfl) opn_str (ff_last _ (by rfl) (by rfl) (by kernel_rfl) (by rfl) opn_strS)))
theorem opn_entryS : Opens Try.prog 42 (slE entryE) := opens_sl Try.underlying42 Try.cellEntry (by decide) opn_entry
theorem opn_nodeS : Opens Try.prog 22 (slE nodeE) := opens_sl Try.underlying22 Try.cellNode (by decide) opn_node
theorem opn_classS : Opens Try.prog 50 (slE classE) := opens_sl Try.underlying50 Try.cellClass (by decide) opn_class
set_option maxRecDepth 100000 in
theorem opv_rdn {H : Type} {enc : TypeId × Value → H} {w : World} {base : Nat} {spare : Nat → Bool} {held : Bool} {r : Reach} {b0 : Nat} {v : Value} {d : DataW H} {p : List MemPlace} (hv : Value.okWide Try.prog w r b0 208 v) (h : DataW.Trod enc Try.prog w base spare held 208 v d p) :
    ∃ (a0 : ByteArray) (a1 : ByteArray) , v = .agg #[.string a0, .string a1] ∧ (True) ∧ rdnE.long (a0, a1) := by
  obtain ⟨cs, a, rfl, h1, h2⟩ := opv_struct Try.underlying208 opn_rdn hv h
  obtain ⟨a0, a1, rfl, e1, hq⟩ := rdn_atq h1
  refine ⟨a0, a1, agg_eq e1, ?_, h2⟩
  exact hq
set_option maxRecDepth 100000 in
theorem opv_attr {H : Type} {enc : TypeId × Value → H} {w : World} {base : Nat} {spare : Nat → Bool} {held : Bool} {r : Reach} {b0 : Nat} {v : Value} {d : DataW H} {p : List MemPlace} (hv : Value.okWide Try.prog w r b0 210 v) (h : DataW.Trod enc Try.prog w base spare held 210 v d p) :
    ∃ (a0 : ByteArray) (a1 : (List ByteArray)) (v1 : Value), v = .agg #[.string a0, v1] ∧ (SlAt strE (All w) w a1 v1) ∧ attrE.long (a0, a1) := by
  obtain ⟨cs, a, rfl, h1, h2⟩ := opv_struct Try.underlying210 opn_attr hv h
  obtain ⟨a0, a1, v1, rfl, e1, hq⟩ := attr_atq h1
  refine ⟨a0, a1, v1, agg_eq e1, ?_, h2⟩
  exact hq.1
set_option maxRecDepth 100000 in
theorem opv_entry {H : Type} {enc : TypeId × Value → H} {w : World} {base : Nat} {spare : Nat → Bool} {held : Bool} {r : Reach} {b0 : Nat} {v : Value} {d : DataW H} {p : List MemPlace} (hv : Value.okWide Try.prog w r b0 126 v) (h : DataW.Trod enc Try.prog w base spare held 126 v d p) :
    ∃ (a0 : (List RdnT)) (a1 : (List AttrT)) (v0 v1 : Value), v = .agg #[v0, v1] ∧ (SlAt rdnE (All w) w a0 v0 ∧ SlAt attrE (All w) w a1 v1) ∧ entryE.long (a0, a1) := by
  obtain ⟨cs, a, rfl, h1, h2⟩ := opv_struct Try.underlying126 opn_entry hv h
  obtain ⟨a0, a1, v0, v1, rfl, e1, hq⟩ := entry_atq h1
  refine ⟨a0, a1, v0, v1, agg_eq e1, ?_, h2⟩
  exact ⟨hq.1, hq.2.1⟩
set_option maxRecDepth 100000 in
theorem opv_node {H : Type} {enc : TypeId × Value → H} {w : World} {base : Nat} {spare : Nat → Bool} {held : Bool} {r : Reach} {b0 : Nat} {v : Value} {d : DataW H} {p : List MemPlace} (hv : Value.okWide Try.prog w r b0 102 v) (h : DataW.Trod enc Try.prog w base spare held 102 v d p) :
    ∃ (a0 : Int) (a1 : ByteArray) (a2 : ByteArray) (a3 : Int) , v = .agg #[.int .i64 a0, .string a1, .string a2, .int .i64 a3] ∧ (True) ∧ nodeE.long (a0, a1, a2, a3) := by
  obtain ⟨cs, a, rfl, h1, h2⟩ := opv_struct Try.underlying102 opn_node hv h
  obtain ⟨a0, a1, a2, a3, rfl, e1, hq⟩ := node_atq h1
  refine ⟨a0, a1, a2, a3, agg_eq e1, ?_, h2⟩
  exact hq
set_option maxRecDepth 100000 in
theorem opv_class {H : Type} {enc : TypeId × Value → H} {w : World} {base : Nat} {spare : Nat → Bool} {held : Bool} {r : Reach} {b0 : Nat} {v : Value} {d : DataW H} {p : List MemPlace} (hv : Value.okWide Try.prog w r b0 134 v) (h : DataW.Trod enc Try.prog w base spare held 134 v d p) :
    ∃ (a0 : ByteArray) (a1 : (List ByteArray)) (a2 : (List ByteArray)) (a3 : (List ByteArray)) (v1 v2 v3 : Value), v = .agg #[.string a0, v1, v2, v3] ∧ (SlAt strE (All w) w a1 v1 ∧ SlAt strE (All w) w a2 v2 ∧ SlAt strE (All w) w a3 v3) ∧ classE.long (a0, a1, a2, a3) := by
  obtain ⟨cs, a, rfl, h1, h2⟩ := opv_struct Try.underlying134 opn_class hv h
  obtain ⟨a0, a1, a2, a3, v1, v2, v3, rfl, e1, hq⟩ := class_atq h1
  refine ⟨a0, a1, a2, a3, v1, v2, v3, agg_eq e1, ?_, h2⟩
  exact ⟨hq.1, hq.2.1, hq.2.2.1⟩
set_option maxRecDepth 100000 in
theorem opv_mod {H : Type} {enc : TypeId × Value → H} {w : World} {base : Nat} {spare : Nat → Bool} {held : Bool} {r : Reach} {b0 : Nat} {v : Value} {d : DataW H} {p : List MemPlace} (hv : Value.okWide Try.prog w r b0 35 v) (h : DataW.Trod enc Try.prog w base spare held 35 v d p) :
    ∃ (a0 : Int) (a1 : ByteArray) (a2 : (List ByteArray)) (v2 : Value), v = .agg #[.int .i64 a0, .string a1, v2] ∧ (SlAt strE (All w) w a2 v2) ∧ modE.long (a0, a1, a2) := by
  obtain ⟨cs, a, rfl, h1, h2⟩ := opv_struct Try.underlying35 opn_mod hv h
  obtain ⟨a0, a1, a2, v2, rfl, e1, hq⟩ := mod_atq h1
  refine ⟨a0, a1, a2, v2, agg_eq e1, ?_, h2⟩
  exact hq.1
end Go.Proofs.Ytlgafmgohinkbaa
