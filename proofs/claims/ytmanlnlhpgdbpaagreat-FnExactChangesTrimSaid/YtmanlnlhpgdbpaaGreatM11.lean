/- Merged texts: ChS3, ChS4, ChZ, ShOpen, Opn, MemL, MemE, szRdn, szString, szAttr, szEntry, szChange, szChanges, toChanges, eqRdn. -/
import Derived.Test.YtmanlnlhpgdbpaaGreatM7
import Derived.Test.YtmanlnlhpgdbpaaGreatM10
import Derived.Test.YtmanlnlhpgdbpaaGreatM1
import Derived.Lib.SmallJoins
import Derived.Deep.Slices
import Derived.OpenShut
import Derived.ChangeSame
import Derived.Test.YtmanlnlhpgdbpaaGreatM2
import Derived.Test.YtmanlnlhpgdbpaaGreatRows
import Derived.Test.YtmanlnlhpgdbpaaGreatM6
import Derived.Deep.RegionHeld
import Derived.Test.YtmanlnlhpgdbpaaGreatM3
import Derived.Laws.MakeOwn
import Derived.SliceStrings
/- Change logs: what the specification's ChangesSince returns. -/
namespace Go.Proofs.YtmanlnlhpgdbpaaGreat
open Go.RowKit
attribute [local go_sem ↓] Go.wp_at_zero Go.wp_at_succ

set_option maxRecDepth 100000 in
set_option maxHeartbeats 1000000 in
theorem l08Ill_any (c : Int) (w : World) : Calls Tryz.prog 41 #[.int .i64 c] w fun e w' => e = .returned (.agg #[.int .i64 0, .slice none 0 0, .slice none 0 0, .int .i64 c]) ∧ Below w.heap.size w w' := by
  go_enter Tryz.func41, Tryz.ntmps41
  go_wp2
  refine bodyPost_ret (v := .agg #[.int .i64 0, .slice none 0 0, .slice none 0 0, .int .i64 c]) (by simp [results, Tryz.results41, go_sem]) rfl ?_
  exact ⟨rfl, more' (Below.refl _ _) _⟩
set_option maxRecDepth 100000 in
set_option maxHeartbeats 2000000 in
theorem SpecChangesSince_any {S : Bs} (n q : Int) (v : Value) (d : List ChangeT) (w : World) (hd : SlAt changeE S w d v) (hz : d.length + szL changeE d ≤ 1048576) (hq : -9223372036854775808 ≤ q ∧ q ≤ 9223372036854775807) :
    Calls Tryz.prog 26 #[.agg #[.int .i64 n, v], .int .i64 q] w (GivesC w (sinceR n d q)) := by
  have CR : Hid (∀ W : World, Below w.heap.size w W → Calls Tryz.prog 8 #[.agg #[.int .i64 n, v]] W fun e w' => e = .returned (.bool (chsB n d)) ∧ Below W.heap.size W w') := Lib.hid (fun W b => SpecChangesRight_any n v d W (hd.frame (Same.of_below' b)) hz)
  have CI : Hid (∀ (W : World) (c : Int), Calls Tryz.prog 41 #[.int .i64 c] W fun e w' => e = .returned (.agg #[.int .i64 0, .slice none 0 0, .slice none 0 0, .int .i64 c]) ∧ Below W.heap.size W w') := Lib.hid (fun W c => l08Ill_any c W)
  have CL : Hid (∀ (W : World) (u : Value), SlAt changeE S W (fromL n d (q + 1)) u → Calls Tryz.prog 56 #[u] W fun e w' => (∃ u, e = .returned u ∧ SlOwn changeE (Fresh W w') w' (fromL n d (q + 1)) u) ∧ Below W.heap.size W w') := Lib.hid (fun W u h => l08List_any u _ W h (Nat.le_trans (fromL_sz n (q + 1) d) hz))
  obtain ⟨ao, ca, rfl⟩ := hd.sl
  have HD := Lib.hid hd
  have HP := Lib.hid (@chsB_parts n d)
  have HR : Hid (sinceR n d q = if chsB n d = true then (if q < n - d.length - 1 ∨ n ≤ q then ((0, []), [], 8) else ((0, []), fromL n d (q + 1), 0)) else ((0, []), [], 1)) := Lib.hid rfl
  clear hd hz
  generalize sinceR n d q = R at *
  generalize chsB n d = r at *
  go_enter Tryz.func26, Tryz.ntmps26
  go_wp2_with fail
  refine calls_by (fun W => Below w.heap.size w W ∧ Blk W w.heap.size [.int .i64 n, .slice ao d.length ca] ∧ Blk W (w.heap.size + 1) [.int .i64 0, .slice none 0 0, .slice none 0 0, .int .i64 0]) ⟨more' (more' (Below.refl _ _) _) _, (Blk.new _ _ _).alloc _, blk_at _ _ _ (by simp)⟩ ?_
  rintro W1 ⟨b1, t1, r1⟩
  refine (CR.out W1 b1).mono ?_
  rintro e w2 ⟨rfl, hb⟩
  have b2 := b1.trans (hb.mono b1.size); have T2 := Lib.hid (t1.below hb); have R2 := Lib.hid (r1.below hb)
  clear hb t1 r1 b1 CR
  cases r
  · have HRR : Hid (R = ((0, []), [], 1)) := Lib.hid (by rw [HR.out]; rfl)
    go_wp2_with fail
    refine (CI.out w2 1).mono ?_
    rintro e w3 ⟨rfl, hb⟩
    have b3 := b2.trans (hb.mono b2.size); have R3 := Lib.hid (R2.out.below hb)
    clear hb
    have rf0 := R3.out.soft 0; have rz0 := R3.out.cell 0 rfl
    have rf1 := R3.out.soft 1; have rz1 := R3.out.cell 1 rfl
    have rf2 := R3.out.soft 2; have rz2 := R3.out.cell 2 rfl
    have rf3 := R3.out.soft 3; have rz3 := R3.out.cell 3 rfl
    have TE := ((((R3.out.set 0 (.int .i64 0)).set 1 (.slice none 0 0)).set 2 (.slice none 0 0)).set 3 (.int .i64 1))
    have rj0 := TE.cell 0 rfl
    have rj1 := TE.cell 1 rfl
    have rj2 := TE.cell 2 rfl
    have rj3 := TE.cell 3 rfl
    clear TE
    have BE := Lib.hid ((((b3.setCell (p := ⟨w.heap.size + 1, 0, none⟩) (by show w.heap.size ≤ w.heap.size + 1; omega) (.int .i64 0)).setCell (p := ⟨w.heap.size + 1, 1, none⟩) (by show w.heap.size ≤ w.heap.size + 1; omega) (.slice none 0 0)).setCell (p := ⟨w.heap.size + 1, 2, none⟩) (by show w.heap.size ≤ w.heap.size + 1; omega) (.slice none 0 0)).setCell (p := ⟨w.heap.size + 1, 3, none⟩) (by show w.heap.size ≤ w.heap.size + 1; omega) (.int .i64 1))
    go_wp2
    refine bodyPost_ret (v := .agg #[.int .i64 0, .slice none 0 0, .slice none 0 0, .int .i64 1]) (by simp [results, Tryz.results26, go_sem, rj0, rj1, rj2, rj3]) rfl ?_
    rw [HRR.out]
    exact gives_ill 1 BE.out
  obtain ⟨hn1, hn2, hd40, hf1, _⟩ := HP.out rfl
  have x0 := T2.out.cell 0 rfl; have x1 := T2.out.cell 1 rfl
  have x1l : w2.cell? ⟨w.heap.size, 1, none⟩ = some (.slice ao d.length ca) := x1
  by_cases c0 : q < 0
  · have HRR : Hid (R = ((0, []), [], 8)) := Lib.hid (by rw [HR.out, if_pos rfl, if_pos (by omega)])
    go_wp2_with fail
    refine (CI.out w2 8).mono ?_
    rintro e w3 ⟨rfl, hb⟩
    have b3 := b2.trans (hb.mono b2.size); have R3 := Lib.hid (R2.out.below hb)
    clear hb
    have rf0 := R3.out.soft 0; have rz0 := R3.out.cell 0 rfl
    have rf1 := R3.out.soft 1; have rz1 := R3.out.cell 1 rfl
    have rf2 := R3.out.soft 2; have rz2 := R3.out.cell 2 rfl
    have rf3 := R3.out.soft 3; have rz3 := R3.out.cell 3 rfl
    have TE := ((((R3.out.set 0 (.int .i64 0)).set 1 (.slice none 0 0)).set 2 (.slice none 0 0)).set 3 (.int .i64 8))
    have rj0 := TE.cell 0 rfl
    have rj1 := TE.cell 1 rfl
    have rj2 := TE.cell 2 rfl
    have rj3 := TE.cell 3 rfl
    clear TE
    have BE := Lib.hid ((((b3.setCell (p := ⟨w.heap.size + 1, 0, none⟩) (by show w.heap.size ≤ w.heap.size + 1; omega) (.int .i64 0)).setCell (p := ⟨w.heap.size + 1, 1, none⟩) (by show w.heap.size ≤ w.heap.size + 1; omega) (.slice none 0 0)).setCell (p := ⟨w.heap.size + 1, 2, none⟩) (by show w.heap.size ≤ w.heap.size + 1; omega) (.slice none 0 0)).setCell (p := ⟨w.heap.size + 1, 3, none⟩) (by show w.heap.size ≤ w.heap.size + 1; omega) (.int .i64 8))
    go_wp2
    refine bodyPost_ret (v := .agg #[.int .i64 0, .slice none 0 0, .slice none 0 0, .int .i64 8]) (by simp [results, Tryz.results26, go_sem, rj0, rj1, rj2, rj3]) rfl ?_
    rw [HRR.out]
    exact gives_ill 8 BE.out
  by_cases c1 : n ≤ q
  · have HRR : Hid (R = ((0, []), [], 8)) := Lib.hid (by rw [HR.out, if_pos rfl, if_pos (by omega)])
    go_wp2_with fail
    refine (CI.out w2 8).mono ?_
    rintro e w3 ⟨rfl, hb⟩
    have b3 := b2.trans (hb.mono b2.size); have R3 := Lib.hid (R2.out.below hb)
    clear hb
    have rf0 := R3.out.soft 0; have rz0 := R3.out.cell 0 rfl
    have rf1 := R3.out.soft 1; have rz1 := R3.out.cell 1 rfl
    have rf2 := R3.out.soft 2; have rz2 := R3.out.cell 2 rfl
    have rf3 := R3.out.soft 3; have rz3 := R3.out.cell 3 rfl
    have TE := ((((R3.out.set 0 (.int .i64 0)).set 1 (.slice none 0 0)).set 2 (.slice none 0 0)).set 3 (.int .i64 8))
    have rj0 := TE.cell 0 rfl
    have rj1 := TE.cell 1 rfl
    have rj2 := TE.cell 2 rfl
    have rj3 := TE.cell 3 rfl
    clear TE
    have BE := Lib.hid ((((b3.setCell (p := ⟨w.heap.size + 1, 0, none⟩) (by show w.heap.size ≤ w.heap.size + 1; omega) (.int .i64 0)).setCell (p := ⟨w.heap.size + 1, 1, none⟩) (by show w.heap.size ≤ w.heap.size + 1; omega) (.slice none 0 0)).setCell (p := ⟨w.heap.size + 1, 2, none⟩) (by show w.heap.size ≤ w.heap.size + 1; omega) (.slice none 0 0)).setCell (p := ⟨w.heap.size + 1, 3, none⟩) (by show w.heap.size ≤ w.heap.size + 1; omega) (.int .i64 8))
    go_wp2
    refine bodyPost_ret (v := .agg #[.int .i64 0, .slice none 0 0, .slice none 0 0, .int .i64 8]) (by simp [results, Tryz.results26, go_sem, rj0, rj1, rj2, rj3]) rfl ?_
    rw [HRR.out]
    exact gives_ill 8 BE.out
  by_cases c2 : q < n - (d.length : Int) - 1
  · have HRR : Hid (R = ((0, []), [], 8)) := Lib.hid (by rw [HR.out, if_pos rfl, if_pos (by omega)])
    go_wp2_with fail
    refine (CI.out w2 8).mono ?_
    rintro e w3 ⟨rfl, hb⟩
    have b3 := b2.trans (hb.mono b2.size); have R3 := Lib.hid (R2.out.below hb)
    clear hb
    have rf0 := R3.out.soft 0; have rz0 := R3.out.cell 0 rfl
    have rf1 := R3.out.soft 1; have rz1 := R3.out.cell 1 rfl
    have rf2 := R3.out.soft 2; have rz2 := R3.out.cell 2 rfl
    have rf3 := R3.out.soft 3; have rz3 := R3.out.cell 3 rfl
    have TE := ((((R3.out.set 0 (.int .i64 0)).set 1 (.slice none 0 0)).set 2 (.slice none 0 0)).set 3 (.int .i64 8))
    have rj0 := TE.cell 0 rfl
    have rj1 := TE.cell 1 rfl
    have rj2 := TE.cell 2 rfl
    have rj3 := TE.cell 3 rfl
    clear TE
    have BE := Lib.hid ((((b3.setCell (p := ⟨w.heap.size + 1, 0, none⟩) (by show w.heap.size ≤ w.heap.size + 1; omega) (.int .i64 0)).setCell (p := ⟨w.heap.size + 1, 1, none⟩) (by show w.heap.size ≤ w.heap.size + 1; omega) (.slice none 0 0)).setCell (p := ⟨w.heap.size + 1, 2, none⟩) (by show w.heap.size ≤ w.heap.size + 1; omega) (.slice none 0 0)).setCell (p := ⟨w.heap.size + 1, 3, none⟩) (by show w.heap.size ≤ w.heap.size + 1; omega) (.int .i64 8))
    go_wp2
    refine bodyPost_ret (v := .agg #[.int .i64 0, .slice none 0 0, .slice none 0 0, .int .i64 8]) (by simp [results, Tryz.results26, go_sem, rj0, rj1, rj2, rj3]) rfl ?_
    rw [HRR.out]
    exact gives_ill 8 BE.out
  have HRR : Hid (R = ((0, []), fromL n d (q + 1), 0)) := Lib.hid (by rw [HR.out, if_pos rfl, if_neg (by omega)])
  obtain ⟨j, hj⟩ : ∃ j : Nat, (d.length : Int) - (n - 1 - q) = (j : Int) := ⟨((d.length : Int) - (n - 1 - q)).toNat, by omega⟩
  have HL : Hid (fromL n d (q + 1) = d.drop j) := Lib.hid (by unfold fromL; congr 1; omega)
  obtain ⟨ao', hcut, hdr⟩ := cutCh w ao d j ca (by omega) HD.out
  have HDR := Lib.hid hdr
  have hwj : IntKind.i64.wrap (j : Int) = (j : Int) := IntWalk.i64_in _ (by omega)
  rw [List.length_drop] at hcut
  have CLL : Hid (Calls Tryz.prog 56 #[.slice ao' (d.length - j) (ca - j)] w2 fun e w' => (∃ u, e = .returned u ∧ SlOwn changeE (Fresh w2 w') w' (fromL n d (q + 1)) u) ∧ Below w2.heap.size w2 w') := Lib.hid (CL.out w2 _ (by rw [HL.out]; have h1 := HDR.out.frame (Same.of_below' b2); rw [List.length_drop] at h1; exact h1))
  clear HR HP CL hdr
  generalize fromL n d (q + 1) = L at *
  go_wp2_with fail
  refine CLL.out.mono ?_
  rintro e w3 ⟨⟨u, rfl, ho⟩, hb⟩
  have b3 := b2.trans (hb.mono b2.size); have R3 := Lib.hid (R2.out.below hb); have HO := Lib.hid ho
  have hw2 : w.heap.size + 1 < w2.heap.size := R2.out.lt
  obtain ⟨p7, k7, rfl⟩ := ho.at.sl
  clear hb ho
  have rf0 := R3.out.soft 0; have rz0 := R3.out.cell 0 rfl
  have rf1 := R3.out.soft 1; have rz1 := R3.out.cell 1 rfl
  have rf2 := R3.out.soft 2; have rz2 := R3.out.cell 2 rfl
  have rf3 := R3.out.soft 3; have rz3 := R3.out.cell 3 rfl
  have TE := ((((R3.out.set 0 (.int .i64 0)).set 1 (.slice none 0 0)).set 2 (.slice p7 L.length k7)).set 3 (.int .i64 0))
  have rj0 := TE.cell 0 rfl
  have rj1 := TE.cell 1 rfl
  have rj2 := TE.cell 2 rfl
  have rj3 := TE.cell 3 rfl
  clear TE
  have BE := Lib.hid ((((b3.setCell (p := ⟨w.heap.size + 1, 0, none⟩) (by show w.heap.size ≤ w.heap.size + 1; omega) (.int .i64 0)).setCell (p := ⟨w.heap.size + 1, 1, none⟩) (by show w.heap.size ≤ w.heap.size + 1; omega) (.slice none 0 0)).setCell (p := ⟨w.heap.size + 1, 2, none⟩) (by show w.heap.size ≤ w.heap.size + 1; omega) (.slice p7 L.length k7)).setCell (p := ⟨w.heap.size + 1, 3, none⟩) (by show w.heap.size ≤ w.heap.size + 1; omega) (.int .i64 0))
  go_wp2
  refine bodyPost_ret (v := .agg #[.int .i64 0, .slice none 0 0, .slice p7 L.length k7, .int .i64 0]) (by simp [results, Tryz.results26, go_sem, rj0, rj1, rj2, rj3]) rfl ?_
  rw [HRR.out]
  refine ⟨⟨_, _, rfl, changesOut_pack 0 [] L 0 _ _ Nil (Fresh w2 w3) ⟨own_nilS _ _ _, fun _ h => h.elim, ?_, fun b h => ⟨by have := h.1; omega, by have := h.2; show _ < (World.heap _).size; simp only [setCell_size]; omega⟩, fun _ h => h.elim, trivial⟩⟩, BE.out⟩
  exact ((((HO.out.frame (Same.set _ (g := w.heap.size + 1) 0 _ (by intro h; have := h.1; omega))).frame (Same.set _ (g := w.heap.size + 1) 1 _ (by intro h; have := h.1; omega))).frame (Same.set _ (g := w.heap.size + 1) 2 _ (by intro h; have := h.1; omega))).frame (Same.set _ (g := w.heap.size + 1) 3 _ (by intro h; have := h.1; omega)))
end Go.Proofs.YtmanlnlhpgdbpaaGreat
/- Change logs: what the specification's ChangesTrim returns. -/
namespace Go.Proofs.YtmanlnlhpgdbpaaGreat
open Go.RowKit
attribute [local go_sem ↓] Go.wp_at_zero Go.wp_at_succ

def lenC : Option Value → Nat
  | some (.slice _ n _) => n
  | _ => 0
set_option maxRecDepth 100000 in
set_option maxHeartbeats 1000000 in
theorem l08Copy_any {S : Bs} (n : Int) (v : Value) (d : List ChangeT) (w : World) (hd : SlAt changeE S w d v) (hz : d.length + szL changeE d ≤ 1048576) :
    Calls Tryz.prog 58 #[.agg #[.int .i64 n, v]] w fun e w' => (∃ p k, e = .returned (.agg #[.int .i64 n, .slice p d.length k]) ∧ SlOwn changeE (Fresh w w') w' d (.slice p d.length k)) ∧ Below w.heap.size w w' := by
  have CL : Hid (∀ W : World, Below w.heap.size w W → Calls Tryz.prog 56 #[v] W fun e w' => (∃ u, e = .returned u ∧ SlOwn changeE (Fresh W w') w' d u) ∧ Below W.heap.size W w') := Lib.hid (fun W b => l08List_any v d W (hd.frame (Same.of_below' b)) hz)
  obtain ⟨ao, ca, rfl⟩ := hd.sl
  clear hd hz
  go_enter Tryz.func58, Tryz.ntmps58
  go_wp2
  refine wp_world (fun W => Below w.heap.size w W ∧ Blk W w.heap.size [.int .i64 n, .slice ao d.length ca] ∧ Blk W (w.heap.size + 1) [.int .i64 0, .slice none 0 0]) ⟨more' (more' (Below.refl _ _) _) _, (Blk.new _ _ _).alloc _, blk_at _ _ _ (by simp)⟩ ?_
  rintro W1 ⟨b1, t1, r1⟩
  have T1 := Lib.hid t1; have R1 := Lib.hid r1; clear t1 r1
  have hw6 : w.heap.size + 1 < W1.heap.size := R1.out.lt
  have SK : Hid (∀ Z' : World, Below W1.heap.size W1 Z' → Z'.cell? ⟨w.heap.size, 0, none⟩ = some (.int .i64 n) ∧ Z'.cell? ⟨w.heap.size, 1, none⟩ = some (.slice ao d.length ca)) := Lib.hid (fun Z' h => ⟨(T1.out.below h).cell 0 rfl, (T1.out.below h).cell 1 rfl⟩)
  have BD : Below W1.heap.size W1 W1.drew := (Below.refl _ _).drew
  refine wp_region_held_drew (S := (fun Z' => Z'.cell? ⟨w.heap.size, 0, none⟩ = some (.int .i64 n) ∧ Z'.cell? ⟨w.heap.size, 1, none⟩ = some (.slice ao d.length ca))) (by kernel_rfl) ?_ (fun hHeld => ?_)
  · (try dsimp only)
    first | exact SK.out _ (by assumption) | exact SK.out _ BD | exact SK.out _ (more' (by assumption) _) | exact SK.out _ (more' BD _) | exact SX.out _ _
  refine wpAnyH_take (i := 0) (oi := { dst := some 3, op := Op.fieldAddr 29 (Operand.tmp 1) 0, type := 0, pos := "l08_change.go:33", after := #[], guard := none }) (v := ?_) rfl (by kernel_rfl) (by kernel_rfl) (by kernel_rfl) (fun _ _ _ h => h) (Or.inl ⟨by rfl, ?_⟩) (by assumption) ?_
  rotate_left
  · intro w hSw; (try dsimp only at hSw); go_simp; (try with_reducible rfl)
  (try simp only [Act.put, List.setIfInBounds_toArray, List.set_cons_zero, List.set_cons_succ])
  refine wpAnyH_take (i := 1) (oi := { dst := some 4, op := Op.load 2 (Operand.tmp 3), type := 2, pos := "l08_change.go:33", after := #[{ on := 0, ground := Ground.data }], guard := none }) (v := ?_) rfl (by kernel_rfl) (by kernel_rfl) (by kernel_rfl) (fun _ _ _ h => h) (Or.inl ⟨by rfl, ?_⟩) (by assumption) ?_
  rotate_left
  · intro w hSw; (try dsimp only at hSw); go_simp; (try with_reducible rfl)
  (try simp only [Act.put, List.setIfInBounds_toArray, List.set_cons_zero, List.set_cons_succ])
  refine wpAnyH_take (i := 2) (oi := { dst := some 5, op := Op.fieldAddr 29 (Operand.tmp 1) 1, type := 0, pos := "l08_change.go:33", after := #[], guard := none }) (v := ?_) rfl (by kernel_rfl) (by kernel_rfl) (by kernel_rfl) (fun _ _ _ h => h) (Or.inl ⟨by rfl, ?_⟩) (by assumption) ?_
  rotate_left
  · intro w hSw; (try dsimp only at hSw); go_simp; (try with_reducible rfl)
  (try simp only [Act.put, List.setIfInBounds_toArray, List.set_cons_zero, List.set_cons_succ])
  refine wpAnyH_take (i := 3) (oi := { dst := some 6, op := Op.load 27 (Operand.tmp 5), type := 27, pos := "l08_change.go:33", after := #[{ on := 2, ground := Ground.data }], guard := none }) (v := ?_) rfl (by kernel_rfl) (by kernel_rfl) (by kernel_rfl) (fun _ _ _ h => h) (Or.inl ⟨by rfl, ?_⟩) (by assumption) ?_
  rotate_left
  · intro w hSw; (try dsimp only at hSw); go_simp; (try with_reducible rfl)
  (try simp only [Act.put, List.setIfInBounds_toArray, List.set_cons_zero, List.set_cons_succ])
  refine wpAnyH_ready (rs := [4]) (by kernel_rfl) (by simp) ?_
  refine AllReadyH.cons (o := { dst := some 7, op := Op.call { callee := Callee.value (Operand.func 56), args := #[Operand.tmp 6], argTypes := #[27] }, type := 27, pos := "l08_change.go:33", after := #[{ on := 3, ground := Ground.data }], guard := none }) rfl (fun K hK => ?_) (AllReadyH.nil)
  go_simp
  refine (CL.out W1.drew (b1.trans (BD.mono b1.size))).mono ?_
  rintro e w7 ⟨⟨u, rfl, ho⟩, hb⟩
  have D7 : Below W1.heap.size W1 w7 := BD.trans (hb.mono BD.size)
  have b7 := b1.trans (D7.mono b1.size); have R7 := Lib.hid (R1.out.below D7); have T7 := Lib.hid (T1.out.below D7); have HO := Lib.hid ho
  obtain ⟨p7, k7, rfl⟩ := ho.at.sl
  clear hb ho
  have f0 := R7.out.soft 0; have f1 := R7.out.soft 1
  have z0 := R7.out.cell 0 rfl; have z1 := R7.out.cell 1 rfl
  have SX : Hid (∀ y0 y1 : Value, ((w7.setCell ⟨w.heap.size + 1, 0, none⟩ y0).setCell ⟨w.heap.size + 1, 1, none⟩ y1).cell? ⟨w.heap.size, 0, none⟩ = some (.int .i64 n) ∧ ((w7.setCell ⟨w.heap.size + 1, 0, none⟩ y0).setCell ⟨w.heap.size + 1, 1, none⟩ y1).cell? ⟨w.heap.size, 1, none⟩ = some (.slice ao d.length ca)) := Lib.hid (fun y0 y1 => ⟨((T7.out.far (by omega) y0).far (by omega) y1).cell 0 rfl, ((T7.out.far (by omega) y0).far (by omega) y1).cell 1 rfl⟩)
  clear hHeld
  refine hK.out _ _ ?_ (fun hHeld => ?_)
  · (try dsimp only)
    first | exact SK.out _ (by assumption) | exact SK.out _ BD | exact SK.out _ (more' (by assumption) _) | exact SK.out _ (more' BD _) | exact SX.out _ _
  clear hK K
  (try simp only [Act.put, List.setIfInBounds_toArray, List.set_cons_zero, List.set_cons_succ])
  refine wpAnyH_take (i := 5) (oi := { dst := some 8, op := Op.build 29 #[(0, Operand.tmp 4), (1, Operand.tmp 7)], type := 29, pos := "l08_change.go:33", after := #[{ on := 1, ground := Ground.data }, { on := 4, ground := Ground.data }], guard := none }) (v := ?_) rfl (by kernel_rfl) (by kernel_rfl) (by kernel_rfl) (fun _ _ _ h => h) (Or.inl ⟨by rfl, ?_⟩) (by assumption) ?_
  rotate_left
  · intro w hSw; (try dsimp only at hSw); go_simp; (try with_reducible rfl)
  (try simp only [Act.put, List.setIfInBounds_toArray, List.set_cons_zero, List.set_cons_succ])
  refine wpAnyH_ready (rs := [6]) (by kernel_rfl) (by simp) ?_
  refine AllReadyH.cons (o := { dst := none, op := Op.store 29 (Operand.tmp 2) (Operand.tmp 8), type := 0, pos := "l08_change.go:33", after := #[{ on := 5, ground := Ground.data }, { on := 4, ground := Ground.chain }, { on := 0, ground := Ground.phase }, { on := 1, ground := Ground.phase }, { on := 2, ground := Ground.phase }, { on := 3, ground := Ground.phase }, { on := 4, ground := Ground.phase }, { on := 5, ground := Ground.phase }], guard := none }) rfl (fun K hK => ?_) (AllReadyH.nil)
  go_simp
  clear hHeld
  refine hK.out _ _ ?_ (fun hHeld => ?_)
  · (try dsimp only)
    first | exact SK.out _ (by assumption) | exact SK.out _ BD | exact SK.out _ (more' (by assumption) _) | exact SK.out _ (more' BD _) | exact SX.out _ _
  clear hK K
  (try simp only [Act.put, List.setIfInBounds_toArray, List.set_cons_zero, List.set_cons_succ])
  refine wpAnyH_done (by kernel_rfl) ?_ _
  clear SK
  have TE := (R7.out.set 0 (.int .i64 n)).set 1 (.slice p7 d.length k7)
  have j0 := TE.cell 0 rfl; have j1 := TE.cell 1 rfl
  clear TE
  have BE := Lib.hid ((b7.setCell (p := ⟨w.heap.size + 1, 0, none⟩) (by show w.heap.size ≤ w.heap.size + 1; omega) (.int .i64 n)).setCell (p := ⟨w.heap.size + 1, 1, none⟩) (by show w.heap.size ≤ w.heap.size + 1; omega) (.slice p7 d.length k7))
  have hd6 : W1.drew.heap.size = W1.heap.size := rfl
  go_wp2
  refine bodyPost_ret (v := .agg #[.int .i64 n, .slice p7 d.length k7]) (by simp [results, Tryz.results58, go_sem, j0, j1]) rfl ?_
  refine ⟨⟨p7, k7, rfl, SlOwn.wide (S := Fresh W1.drew w7) ?_ (fun b h => ⟨by have := h.1; omega, by have := h.2; show _ < (World.heap _).size; simp only [setCell_size]; omega⟩)⟩, BE.out⟩
  exact ((HO.out.frame (Same.set _ (g := w.heap.size + 1) 0 _ (by intro h; have := h.1; omega))).frame (Same.set _ (g := w.heap.size + 1) 1 _ (by intro h; have := h.1; omega)))
set_option maxRecDepth 100000 in
set_option maxHeartbeats 2000000 in
theorem SpecChangesTrim_any {S : Bs} (n q : Int) (v : Value) (d : List ChangeT) (w : World) (hd : SlAt changeE S w d v) (hz : d.length + szL changeE d ≤ 1048576) (hq : -9223372036854775808 ≤ q ∧ q ≤ 9223372036854775807) :
    Calls Tryz.prog 28 #[.agg #[.int .i64 n, v], .int .i64 q] w fun e w' => (∃ u1 u2, e = .returned (.agg #[.int .i64 (trimR n d q).1.1, u1, u2, .int .i64 (trimR n d q).2.2]) ∧ changesOutE.At (Fresh w w') w' (trimR n d q) [.int .i64 (trimR n d q).1.1, u1, u2, .int .i64 (trimR n d q).2.2]) ∧ Below w.heap.size w w' := by
  have CR : Hid (∀ W : World, Below w.heap.size w W → Calls Tryz.prog 8 #[.agg #[.int .i64 n, v]] W fun e w' => e = .returned (.bool (chsB n d)) ∧ Below W.heap.size W w') := Lib.hid (fun W b => SpecChangesRight_any n v d W (hd.frame (Same.of_below' b)) hz)
  have CI : Hid (∀ (W : World) (c : Int), Calls Tryz.prog 41 #[.int .i64 c] W fun e w' => e = .returned (.agg #[.int .i64 0, .slice none 0 0, .slice none 0 0, .int .i64 c]) ∧ Below W.heap.size W w') := Lib.hid (fun W c => l08Ill_any c W)
  have CC : Hid (∀ W : World, Below w.heap.size w W → Calls Tryz.prog 58 #[.agg #[.int .i64 n, v]] W fun e w' => (∃ p k, e = .returned (.agg #[.int .i64 n, .slice p d.length k]) ∧ SlOwn changeE (Fresh W w') w' d (.slice p d.length k)) ∧ Below W.heap.size W w') := Lib.hid (fun W b => l08Copy_any n v d W (hd.frame (Same.of_below' b)) hz)
  obtain ⟨ao, ca, rfl⟩ := hd.sl
  have HW : Hid (chsB n d = true → d.dropWhile (fun c => decide (c.1 < q)) = fromL n d q) := Lib.hid from_while
  have HR : Hid (trimR n d q = if chsB n d = true then ((n, fromL n d q), [], 0) else ((0, []), [], 1)) := Lib.hid rfl
  have hl : d.length ≤ 1048576 := by omega
  clear hd hz
  generalize trimR n d q = R at *
  generalize chsB n d = r at *
  go_enter Tryz.func28, Tryz.ntmps28
  go_wp2_with fail
  refine calls_by (fun W => Below w.heap.size w W ∧ Blk W w.heap.size [.int .i64 n, .slice ao d.length ca] ∧ Blk W (w.heap.size + 1) [.int .i64 0, .slice none 0 0, .slice none 0 0, .int .i64 0]) ⟨more' (more' (Below.refl _ _) _) _, (Blk.new _ _ _).alloc _, blk_at _ _ _ (by simp)⟩ ?_
  rintro W1 ⟨b1, t1, r1⟩
  refine (CR.out W1 b1).mono ?_
  rintro e w2 ⟨rfl, hb⟩
  have b2 := b1.trans (hb.mono b1.size); have T2 := Lib.hid (t1.below hb); have R2 := Lib.hid (r1.below hb)
  clear hb t1 r1 b1 CR
  cases r
  · have HRR : Hid (R = ((0, []), [], 1)) := Lib.hid (by rw [HR.out]; rfl)
    go_wp2_with fail
    refine (CI.out w2 1).mono ?_
    rintro e w3 ⟨rfl, hb⟩
    have b3 := b2.trans (hb.mono b2.size); have R3 := Lib.hid (R2.out.below hb)
    clear hb
    have rf0 := R3.out.soft 0; have rz0 := R3.out.cell 0 rfl
    have rf1 := R3.out.soft 1; have rz1 := R3.out.cell 1 rfl
    have rf2 := R3.out.soft 2; have rz2 := R3.out.cell 2 rfl
    have rf3 := R3.out.soft 3; have rz3 := R3.out.cell 3 rfl
    have TE := ((((R3.out.set 0 (.int .i64 0)).set 1 (.slice none 0 0)).set 2 (.slice none 0 0)).set 3 (.int .i64 1))
    have rj0 := TE.cell 0 rfl
    have rj1 := TE.cell 1 rfl
    have rj2 := TE.cell 2 rfl
    have rj3 := TE.cell 3 rfl
    clear TE
    have BE := Lib.hid ((((b3.setCell (p := ⟨w.heap.size + 1, 0, none⟩) (by show w.heap.size ≤ w.heap.size + 1; omega) (.int .i64 0)).setCell (p := ⟨w.heap.size + 1, 1, none⟩) (by show w.heap.size ≤ w.heap.size + 1; omega) (.slice none 0 0)).setCell (p := ⟨w.heap.size + 1, 2, none⟩) (by show w.heap.size ≤ w.heap.size + 1; omega) (.slice none 0 0)).setCell (p := ⟨w.heap.size + 1, 3, none⟩) (by show w.heap.size ≤ w.heap.size + 1; omega) (.int .i64 1))
    go_wp2
    refine bodyPost_ret (v := .agg #[.int .i64 0, .slice none 0 0, .slice none 0 0, .int .i64 1]) (by simp [results, Tryz.results28, go_sem, rj0, rj1, rj2, rj3]) rfl ?_
    rw [HRR.out]
    exact ⟨⟨_, _, rfl, changesOutE.ownAt (out_ill _ _ _)⟩, BE.out⟩
  have HRR : Hid (R = ((n, fromL n d q), [], 0)) := Lib.hid (by rw [HR.out, if_pos rfl])
  have HW2 := Lib.hid (HW.out rfl)
  have x0 := T2.out.cell 0 rfl; have x1 := T2.out.cell 1 rfl
  clear HR HW
  go_wp2_with fail
  refine (CC.out w2 b2).mono ?_
  rintro e w3 ⟨⟨p3, k3, rfl, ho⟩, hb⟩
  have b3 := b2.trans (hb.mono b2.size); have R3 := Lib.hid (R2.out.below hb); have HO := Lib.hid ho
  have hw2 : w.heap.size + 1 < w2.heap.size := R2.out.lt
  clear hb ho R2 T2 x0 x1 CC b2
  go_wp2_with fail
  go_loopw [] (fun wr => ∃ (l : List ChangeT) (p : Option Addr) (k : Nat), Blk wr w3.heap.size [.int .i64 n, .slice p l.length k] ∧ SlAt changeE (Fresh w2 w3) wr l (.slice p l.length k) ∧ l.dropWhile (fun c => decide (c.1 < q)) = fromL n d q ∧ l.length ≤ d.length ∧ Below w.heap.size w wr ∧ Blk wr (w.heap.size + 1) [.int .i64 0, .slice none 0 0, .slice none 0 0, .int .i64 0]) (fun wr => lenC (wr.cell? ⟨w3.heap.size, 1, none⟩))
  case atStart => exact ⟨d, p3, k3, Blk.new _ _ _, HO.out.at.frame (Same.of_below' (more' (Below.refl _ _) _)), HW2.out, Nat.le_refl _, more' b3 _, R3.out.alloc _⟩
  case round =>
    obtain ⟨l, p, k, ht, hs, hdw, hll, hbel, hr⟩ := hrel
    have T := Lib.hid ht; have HS := Lib.hid hs; have HDW := Lib.hid hdw; have RR := Lib.hid hr
    clear ht hs hdw hr HO R3 b3 HW2
    have x0 := T.out.cell 0 rfl; have x1 := T.out.cell 1 rfl
    have hlt3 : w3.heap.size < wr.heap.size := T.out.lt
    have hfin : Hid (l.dropWhile (fun c => decide (c.1 < q)) = l → ∀ Z : World, Same (Fresh w2 w3) wr Z → wr.heap.size ≤ Z.heap.size → changesOutE.At (Fresh w Z) Z R [.int .i64 n, .slice p l.length k, .slice none 0 0, .int .i64 0]) := Lib.hid (fun h Z hz hsz => by
      rw [HRR.out, ← HDW.out, h]
      exact pair_at (c := [_, _]) (pair_at (c := [_]) rfl (at_sl ((HS.out.frame hz).wide (fun b h => ⟨by have := h.1; omega, by have := h.2; omega⟩)))) (pair_at (c := [_]) (at_sl (own_nilS _ _ _).at) rfl))
    have HRc : Hid (R.1.1 = n ∧ R.2.2 = 0) := Lib.hid (by rw [HRR.out]; exact ⟨rfl, rfl⟩)
    have hdone : Hid (∀ v0 v1 v2 v3 : Value, l.dropWhile (fun c => decide (c.1 < q)) = l → Below w.heap.size w ((((wr.setCell ⟨w.heap.size + 1, 0, none⟩ v0).setCell ⟨w.heap.size + 1, 1, none⟩ v1).setCell ⟨w.heap.size + 1, 2, none⟩ v2).setCell ⟨w.heap.size + 1, 3, none⟩ v3) → (∃ u1 u2, Ending.returned (.agg #[.int .i64 n, .slice p l.length k, .slice none 0 0, .int .i64 0]) = .returned (.agg #[.int .i64 R.1.1, u1, u2, .int .i64 R.2.2]) ∧ changesOutE.At (Fresh w ((((wr.setCell ⟨w.heap.size + 1, 0, none⟩ v0).setCell ⟨w.heap.size + 1, 1, none⟩ v1).setCell ⟨w.heap.size + 1, 2, none⟩ v2).setCell ⟨w.heap.size + 1, 3, none⟩ v3)) ((((wr.setCell ⟨w.heap.size + 1, 0, none⟩ v0).setCell ⟨w.heap.size + 1, 1, none⟩ v1).setCell ⟨w.heap.size + 1, 2, none⟩ v2).setCell ⟨w.heap.size + 1, 3, none⟩ v3) R [.int .i64 R.1.1, u1, u2, .int .i64 R.2.2]) ∧ Below w.heap.size w ((((wr.setCell ⟨w.heap.size + 1, 0, none⟩ v0).setCell ⟨w.heap.size + 1, 1, none⟩ v1).setCell ⟨w.heap.size + 1, 2, none⟩ v2).setCell ⟨w.heap.size + 1, 3, none⟩ v3)) := Lib.hid (fun v0 v1 v2 v3 h hb => by
      rw [HRc.out.1, HRc.out.2]
      refine ⟨⟨_, _, rfl, hfin.out h _ (fun b hb _ => ?_) (by simp only [setCell_size]; exact Nat.le_refl _)⟩, hb⟩
      have hne : b ≠ w.heap.size + 1 := by have := hb.1; omega
      rw [Below.heap_setCell _ _ _ _ hne, Below.heap_setCell _ _ _ _ hne, Below.heap_setCell _ _ _ _ hne, Below.heap_setCell _ _ _ _ hne])
    clear hfin HRc
    rcases l with _ | ⟨c, t⟩
    · have x1 : wr.cell? ⟨w3.heap.size, 1, none⟩ = some (.slice p 0 k) := x1
      have HD2 : Hid _ := Lib.hid (fun v0 v1 v2 v3 => hdone.out v0 v1 v2 v3 rfl)
      clear hdone
      have rf0 := RR.out.soft 0; have rz0 := RR.out.cell 0 rfl
      have rf1 := RR.out.soft 1; have rz1 := RR.out.cell 1 rfl
      have rf2 := RR.out.soft 2; have rz2 := RR.out.cell 2 rfl
      have rf3 := RR.out.soft 3; have rz3 := RR.out.cell 3 rfl
      have TE := ((((RR.out.set 0 (.int .i64 n)).set 1 (.slice p 0 k)).set 2 (.slice none 0 0)).set 3 (.int .i64 0))
      have rj0 := TE.cell 0 rfl
      have rj1 := TE.cell 1 rfl
      have rj2 := TE.cell 2 rfl
      have rj3 := TE.cell 3 rfl
      clear TE
      have BE := Lib.hid ((((hbel.setCell (p := ⟨w.heap.size + 1, 0, none⟩) (by show w.heap.size ≤ w.heap.size + 1; omega) (.int .i64 n)).setCell (p := ⟨w.heap.size + 1, 1, none⟩) (by show w.heap.size ≤ w.heap.size + 1; omega) (.slice p 0 k)).setCell (p := ⟨w.heap.size + 1, 2, none⟩) (by show w.heap.size ≤ w.heap.size + 1; omega) (.slice none 0 0)).setCell (p := ⟨w.heap.size + 1, 3, none⟩) (by show w.heap.size ≤ w.heap.size + 1; omega) (.int .i64 0))
      go_wp2
      refine bodyPost_ret (v := .agg #[.int .i64 n, .slice p 0 k, .slice none 0 0, .int .i64 0]) (by simp [results, Tryz.results28, go_sem, rj0, rj1, rj2, rj3]) rfl ?_
      exact HD2.out _ _ _ _ BE.out
    · obtain ⟨b, off, a0, a1, a2, a3, a4, v3, v4, rfl, hbS, hb0, hx, ⟨hc0, hc1, hc2, hc3, hc4⟩, s3, s4, _⟩ := change_row HS.out (k := 0) (by simp)
      have hx : c = (a0, a1, a2, (a3, a4)) := hx
      have hc0 : wr.cell? ⟨b, off, none⟩ = some (.int .i64 a0) := by simpa using hc0
      subst hx
      have hlen : (((a0, a1, a2, (a3, a4)) : ChangeT) :: t).length = t.length + 1 := rfl
      rw [hlen] at x1
      have gl : (0 : Int) < ((t.length + 1 : Nat) : Int) := by omega
      by_cases hq0 : a0 < q
      · have hq1 : decide (a0 < q) = true := by simpa using hq0
        obtain ⟨ao', hcut, hdr⟩ := cutCh wr (some ⟨b, off, none⟩) ((a0, a1, a2, (a3, a4)) :: t) 1 k (by simp) (by rw [hlen]; exact HS.out)
        have hcut1 : ∀ W : World, (Instr.slice 27 (.slice (some ⟨b, off, none⟩) (t.length + 1) k) (some (.int .i64 1)) none none).run Tryz.prog W = .ok (.slice ao' t.length (k - 1)) W := hcut
        have HDR : Hid (SlAt changeE (Fresh w2 w3) wr t (.slice ao' t.length (k - 1))) := Lib.hid hdr
        have f1 := T.out.soft 1
        have T2 := Lib.hid (T.out.set 1 (.slice ao' t.length (k - 1)))
        have HDW2 : Hid (t.dropWhile (fun c => decide (c.1 < q)) = fromL n d q) := Lib.hid (by rw [← HDW.out, List.dropWhile_cons, if_pos hq1])
        have HSm : Hid (SlAt changeE (Fresh w2 w3) (wr.setCell ⟨w3.heap.size, 1, none⟩ (.slice ao' t.length (k - 1))) t (.slice ao' t.length (k - 1))) := Lib.hid (HDR.out.frame (Same.set _ (g := w3.heap.size) 1 _ (by intro h; have := h.2; omega)))
        have b4 := hbel.setCell (p := ⟨w3.heap.size, 1, none⟩) (by show w.heap.size ≤ w3.heap.size; omega) (.slice ao' t.length (k - 1))
        have RR2 := Lib.hid (RR.out.far (R := w3.heap.size) (j := 1) (by omega) (.slice ao' t.length (k - 1)))
        have hm1 := T2.out.cell 1 rfl
        have hm0 := T.out.cell 1 rfl
        have hll2 : t.length ≤ d.length := by simp at hll; omega
        clear hcut hdr hdone hc1 hc2 hc3 hc4 s3 s4
        go_wp2
        go_roundw
        case rel => exact ⟨t, ao', k - 1, T2.out, HSm.out, HDW2.out, hll2, b4, RR2.out⟩
        case measure => rw [hm0, hm1]; show t.length < t.length + 1; omega
      · have hq1 : decide (a0 < q) = false := by simpa using hq0
        have HD2 : Hid _ := Lib.hid (fun v0 v1 v2 v3 => hdone.out v0 v1 v2 v3 (by rw [List.dropWhile_cons, if_neg (by simpa using hq0)]))
        clear hdone hc1 hc2 hc3 hc4 s3 s4
        have rf0 := RR.out.soft 0; have rz0 := RR.out.cell 0 rfl
        have rf1 := RR.out.soft 1; have rz1 := RR.out.cell 1 rfl
        have rf2 := RR.out.soft 2; have rz2 := RR.out.cell 2 rfl
        have rf3 := RR.out.soft 3; have rz3 := RR.out.cell 3 rfl
        have TE := ((((RR.out.set 0 (.int .i64 n)).set 1 (.slice (some ⟨b, off, none⟩) (t.length + 1) k)).set 2 (.slice none 0 0)).set 3 (.int .i64 0))
        have rj0 := TE.cell 0 rfl
        have rj1 := TE.cell 1 rfl
        have rj2 := TE.cell 2 rfl
        have rj3 := TE.cell 3 rfl
        clear TE
        have BE := Lib.hid ((((hbel.setCell (p := ⟨w.heap.size + 1, 0, none⟩) (by show w.heap.size ≤ w.heap.size + 1; omega) (.int .i64 n)).setCell (p := ⟨w.heap.size + 1, 1, none⟩) (by show w.heap.size ≤ w.heap.size + 1; omega) (.slice (some ⟨b, off, none⟩) (t.length + 1) k)).setCell (p := ⟨w.heap.size + 1, 2, none⟩) (by show w.heap.size ≤ w.heap.size + 1; omega) (.slice none 0 0)).setCell (p := ⟨w.heap.size + 1, 3, none⟩) (by show w.heap.size ≤ w.heap.size + 1; omega) (.int .i64 0))
        go_wp2
        refine bodyPost_ret (v := .agg #[.int .i64 n, .slice (some ⟨b, off, none⟩) (t.length + 1) k, .slice none 0 0, .int .i64 0]) (by simp [results, Tryz.results28, go_sem, rj0, rj1, rj2, rj3]) rfl ?_
        exact HD2.out _ _ _ _ BE.out
end Go.Proofs.YtmanlnlhpgdbpaaGreat
/- Change logs: the sizes of the answers. -/
namespace Go.Proofs.YtmanlnlhpgdbpaaGreat
open Go.RowKit

theorem outsz (a : Int) (b c : List ChangeT) (d : Int) : changesOutE.sz ((a, b), c, d) = (b.length + szL changeE b) + (c.length + szL changeE c) := by
  have e : changesOutE.sz ((a, b), c, d) = (0 + (b.length + szL changeE b)) + ((c.length + szL changeE c) + 0) := rfl
  rw [e]; omega
theorem logsz (a : Int) (b : List ChangeT) : changesE.sz (a, b) = b.length + szL changeE b := by
  have e : changesE.sz (a, b) = 0 + (b.length + szL changeE b) := rfl
  rw [e]; omega
theorem nilsz : ([] : List ChangeT).length + szL changeE [] = 0 := rfl
theorem sinceR_sz (n q : Int) (d : List ChangeT) : changesOutE.sz (sinceR n d q) ≤ changesE.sz (n, d) := by
  have h := fromL_sz n (q + 1) d
  rw [logsz]
  unfold sinceR
  split
  · split
    · rw [outsz, nilsz]; omega
    · rw [outsz, nilsz]; omega
  · rw [outsz, nilsz]; omega
theorem trimR_sz (n q : Int) (d : List ChangeT) : changesOutE.sz (trimR n d q) ≤ changesE.sz (n, d) := by
  have h := fromL_sz n q d
  rw [logsz]
  unfold trimR
  split
  · rw [outsz, nilsz]; omega
  · rw [outsz, nilsz]; omega
end Go.Proofs.YtmanlnlhpgdbpaaGreat
/- Arguments that are data: where they lie. -/
namespace Go.Proofs.YtmanlnlhpgdbpaaGreat
open Go.RowKit Go.ChangeShapes Go.WideShapes Go.Joins Go.Deep

theorem list_ofE {α : Type} (Q : Nat → α → Prop) (n : Nat) (h : ∀ i, i < n → ∃ a, Q i a) : ∃ l : List α, l.length = n ∧ ∀ i (hi : i < l.length), Q i l[i] := by
  induction n with
  | zero => exact ⟨[], rfl, fun i hi => by simp at hi⟩
  | succ n ih =>
    obtain ⟨l, hl, hq⟩ := ih fun i hi => h i (by omega)
    obtain ⟨a, ha⟩ := h n (by omega)
    refine ⟨l ++ [a], by simp [hl], fun i hi => ?_⟩
    by_cases e : i < l.length
    · rw [List.getElem_append_left e]; exact hq i e
    · have : i = n := by simp at hi; omega
      subst this
      rw [List.getElem_append_right (by omega)]
      simpa using ha
/-- the blocks that stand -/
abbrev All (w : World) : Bs := fun b => b < w.heap.size
/-- a type whose cells are data of this kind -/
def Opens {α : Type} (P : Program) (t : TypeId) (e : Enc α) : Prop := ∀ (H : Type) (enc : TypeId × Value → H) (w : World) (base : Nat) (spare : Nat → Bool) (held : Bool) (fuel : Nat) (cs : List Value) (x : DataW H × List MemPlace),
  DataW.trod enc P w base spare held fuel t cs = some x → ∃ a, e.At (All w) w a cs ∧ e.long a
theorem opens_str {P : Program} {t : TypeId} (ht : P.underlying t = some .string) : Opens P t strE := fun H enc w base spare held fuel cs x h => by
  obtain ⟨s, e, _, hs⟩ := DataW.trod_string ht h
  exact ⟨s, e, hs⟩
theorem wf_i64 {n : Int} (h : (Lit.int IntKind.i64 n).wf = true) : -9223372036854775808 ≤ n ∧ n ≤ 9223372036854775807 := by
  have e1 : IntKind.i64.min = -9223372036854775808 := by decide
  have e2 : IntKind.i64.max = 9223372036854775807 := by decide
  simp only [Lit.wf, Bool.and_eq_true, decide_eq_true_eq, e1, e2] at h
  exact h
theorem opens_int {P : Program} {t : TypeId} (ht : P.underlying t = some (.int .i64)) : Opens P t intE := fun H enc w base spare held fuel cs x h => by
  cases fuel with
  | zero => simp [DataW.trod] at h
  | succ n =>
    unfold DataW.trod at h
    rw [ht] at h
    split at h
    all_goals first
      | (rename_i heq; injection heq with heq; cases heq; done)
      | (rename_i k k' n heq
         injection heq with heq
         injection heq with heq
         subst heq
         split at h
         · rename_i hc
           obtain ⟨rfl, hw⟩ := hc
           exact ⟨n, rfl, wf_i64 hw⟩
         · cases h)
      | (cases h; done)
theorem opens_bool {P : Program} {t : TypeId} (ht : P.underlying t = some .bool) : Opens P t boolE := fun H enc w base spare held fuel cs x h => by
  cases fuel with
  | zero => simp [DataW.trod] at h
  | succ n =>
    unfold DataW.trod at h
    rw [ht] at h
    split at h
    all_goals first
      | (rename_i heq; injection heq with heq; cases heq; done)
      | (exact ⟨_, rfl, trivial⟩)
      | (cases h; done)
theorem opens_sl {α : Type} {P : Program} {t te : TypeId} {e : Enc α} (ht : P.underlying t = some (.slice te)) (hc : P.cellsOf te = e.n) (hn : 0 < e.n) (he : Opens P te e) : Opens P t (slE e) := fun H enc w base spare held fuel cs x h => by
  rcases open_slice ht h with ⟨rfl, _⟩ | ⟨a, len, cap, m, n, D, Pl, rfl, hb, hl, hm, hmm, _, hx⟩
  · exact ⟨[], ⟨_, rfl, none, 0, rfl, Nat.le_refl _, fun _ => rfl, .inl rfl⟩, by simp, by simp⟩
  · have hle : len ≤ m := by rw [hmm]; split <;> omega
    obtain ⟨L, hL, hq⟩ := list_ofE (fun i (k : α) => ∃ cs : List Value, cs.length = e.n ∧ (∀ j (h : j < cs.length), w.cell? (a.add (i * e.n + j)) = some cs[j]) ∧ e.At (All w) w k cs ∧ e.long k) len (by
      intro i hi
      obtain ⟨cs', h1, h2⟩ := hx i (by omega)
      rw [hc] at h1
      obtain ⟨_, hlen, hcell⟩ := World.cells?_some h1
      obtain ⟨k, hk, hlong⟩ := he H enc w base spare held _ _ _ h2
      refine ⟨k, cs', hlen, fun j hj => ?_, hk, hlong⟩
      have := hcell j (by omega)
      rw [add_add] at this
      rw [this, List.getElem?_eq_getElem hj])
    refine ⟨L, ⟨.slice (some a) len cap, rfl, some a, cap, by rw [hL], by omega, (fun x => by cases x), ?_⟩, ?_, ?_⟩
    · by_cases h0 : len = 0
      · left; exact List.length_eq_zero_iff.1 (by omega)
      · obtain ⟨b, off, spot⟩ := a
        have hspot : spot = none := by
          obtain ⟨cs, h1, h2, _⟩ := hq 0 (by omega)
          simpa [Addr.add] using World.cell?_spot (h2 0 (by omega))
        subst hspot
        have hbl : b < w.heap.size := by
          obtain ⟨cs, h1, h2, _⟩ := hq 0 (by omega)
          have := World.block_lt_of_cell? w _ (h2 0 (by omega))
          simpa [Addr.add] using this
        refine .inr ⟨b, off, rfl, hbl, hbl, fun i hi => ?_⟩
        obtain ⟨cs, h1, h2, h3, _⟩ := hq i hi
        refine ⟨cs, fun j hj => ?_, h3⟩
        have := h2 j hj
        rw [Go.WideShapes.add_plain] at this
        rw [Nat.add_assoc]; exact this
    · show L.length ≤ _
      unfold maxLen at hm; omega
    · intro r hr
      obtain ⟨i, hi, rfl⟩ := List.getElem_of_mem hr
      obtain ⟨_, _, _, _, z⟩ := hq i hi
      exact z
/-- the fields from i on, their cells from o on -/
def FieldsFrom {α : Type} (P : Program) (fs : Array Field) (i o N : Nat) (e : Enc α) : Prop := ∀ (H : Type) (enc : TypeId × Value → H) (w : World) (base : Nat) (spare : Nat → Bool) (held : Bool) (n : Nat) (cs : List Value), cs.length = N →
  (∀ j f, i ≤ j → fs[j]? = some f → ∃ x, DataW.trod enc P w base spare held n f.type ((cs.drop f.offset).take (P.cellsOf f.type)) = some x) → ∃ a, e.At (All w) w a (cs.drop o) ∧ e.long a
theorem ff_last {α : Type} {P : Program} {fs : Array Field} {i o N : Nat} {e : Enc α} (f : Field) (hf : fs[i]? = some f) (ho : f.offset = o) (hc : P.cellsOf f.type = e.n) (hN : o + e.n = N) (hop : Opens P f.type e) : FieldsFrom P fs i o N e := by
  intro H enc w base spare held n cs hl h
  obtain ⟨x, hx⟩ := h i f (Nat.le_refl _) hf
  rw [ho, hc, List.take_of_length_le (by rw [List.length_drop]; omega)] at hx
  exact hop H enc w base spare held n _ x hx
theorem ff_cons {α β : Type} {P : Program} {fs : Array Field} {i o N : Nat} {a : Enc α} {b : Enc β} (f : Field) (hf : fs[i]? = some f) (ho : f.offset = o) (hc : P.cellsOf f.type = a.n) (hop : Opens P f.type a) (hr : FieldsFrom P fs (i + 1) (o + a.n) N b) : FieldsFrom P fs i o N (pairE a b) := by
  intro H enc w base spare held n cs hl h
  obtain ⟨x, hx⟩ := h i f (Nat.le_refl _) hf
  rw [ho, hc] at hx
  obtain ⟨p, p1, p2⟩ := hop H enc w base spare held n _ x hx
  obtain ⟨q, q1, q2⟩ := hr H enc w base spare held n cs hl (fun j f hj hf => h j f (by omega) hf)
  refine ⟨(p, q), ⟨_, _, ?_, p1, q1⟩, p2, q2⟩
  rw [← List.drop_drop, List.take_append_drop]
theorem opens_struct {α : Type} {P : Program} {t : TypeId} {fs : Array Field} {e : Enc α} (ht : P.underlying t = some (.struct fs)) (hc : P.cellsOf t = e.n) (hf : FieldsFrom P fs 0 0 e.n e) : Opens P t e := fun H enc w base spare held fuel cs x h => by
  obtain ⟨xs, n, _, _, hl, hxl, hx⟩ := DataW.trod_struct ht h
  refine hf H enc w base spare held n cs (hl.trans hc) (fun j f _ hj => ?_)
  have hjs : j < fs.size := (Array.getElem?_eq_some_iff.1 hj).1
  exact ⟨xs[j]'(by omega), by rw [hx j f hj, List.getElem?_eq_getElem (by omega)]⟩
theorem opens_iso {α β : Type} {P : Program} {t : TypeId} {e : Enc α} {f : β → α} {g : α → β} {h : ∀ x, f (g x) = x} (ho : Opens P t e) : Opens P t (isoE e f g h) := fun H enc w base spare held fuel cs x hx => by
  obtain ⟨a, h1, h2⟩ := ho H enc w base spare held fuel cs x hx
  exact ⟨g a, by show e.At _ _ (f (g a)) _; rw [h]; exact h1, by show e.long (f (g a)); rw [h]; exact h2⟩
theorem opens_still {α : Type} {P : Program} {t : TypeId} {e : Enc α} (ho : Opens P t e) : Opens P t (stillE e) := ho
theorem agg_eq {cs : Array Value} {l : List Value} (h : cs.toList = l) : Value.agg cs = .agg l.toArray := by rw [← h]
section
variable {H : Type} {enc : TypeId × Value → H} {P : Program} {w : World} {base : Nat} {spare : Nat → Bool} {held : Bool}
theorem opv_sl {α : Type} {e : Enc α} {t : TypeId} (ho : Opens P t (slE e)) {a : Option Addr} {n c : Nat} {d : DataW H} {p : List MemPlace} (h : DataW.Trod enc P w base spare held t (.slice a n c) d p) :
    ∃ l, SlAt e (All w) w l (.slice a n c) ∧ (slE e).long l := by
  obtain ⟨fuel, hf⟩ := h
  obtain ⟨l, ⟨v, e1, hs⟩, hl⟩ := ho H enc w base spare held fuel _ _ hf
  have e2 : [Value.slice a n c] = [v] := e1
  injection e2 with e2
  subst e2
  exact ⟨l, hs, hl⟩
theorem opv_int {r : Reach} {b0 : Nat} {t : TypeId} {v : Value} {d : DataW H} {p : List MemPlace} (ht : P.underlying t = some (.int .i64)) (hv : Value.okWide P w r b0 t v) (h : DataW.Trod enc P w base spare held t v d p) :
    ∃ n : Int, v = .int .i64 n ∧ (-9223372036854775808 ≤ n ∧ n ≤ 9223372036854775807) := by
  obtain ⟨n, rfl⟩ := okWide_int ht hv
  obtain ⟨fuel, hf⟩ := h
  obtain ⟨a, e1, hl⟩ := opens_int ht H enc w base spare held fuel _ _ hf
  have e2 : [Value.int .i64 n] = [Value.int .i64 a] := e1
  injection e2 with e2
  injection e2 with _ e2
  subst e2
  exact ⟨n, rfl, hl⟩
theorem opv_struct {α : Type} {e : Enc α} {r : Reach} {b0 : Nat} {t : TypeId} {fs : Array Field} {v : Value} {d : DataW H} {p : List MemPlace} (hs : P.underlying t = some (.struct fs)) (ho : Opens P t e) (hv : Value.okWide P w r b0 t v) (h : DataW.Trod enc P w base spare held t v d p) :
    ∃ (cs : Array Value) (a : α), v = .agg cs ∧ e.At (All w) w a cs.toList ∧ e.long a := by
  obtain ⟨cs, rfl, hsz⟩ := okWide_struct hs hv
  obtain ⟨fuel, hf⟩ := h
  obtain ⟨a, h1, h2⟩ := ho H enc w base spare held fuel _ _ hf
  exact ⟨cs, a, rfl, h1, h2⟩
end
end Go.Proofs.YtmanlnlhpgdbpaaGreat
/- Arguments of the laws: where they lie. -/
namespace Go.Proofs.YtmanlnlhpgdbpaaGreat
open Go.RowKit

open Go.ChangeShapes Go.WideShapes Go.Joins Go.Deep
theorem opn_str : Opens Tryz.prog 9 strE := opens_str Tryz.underlying9
theorem Tryz.cellStr : Tryz.prog.cellsOf 9 = strE.n := by kernel_rfl
theorem opn_int : Opens Tryz.prog 2 intE := opens_int Tryz.underlying2
theorem opn_strS : Opens Tryz.prog 94 (slE strE) := opens_sl Tryz.underlying94 Tryz.cellStr (by decide) opn_str
theorem Tryz.cellRdn : Tryz.prog.cellsOf 74 = rdnE.n := by kernel_rfl
set_option maxRecDepth 100000 in
theorem opn_rdn : Opens Tryz.prog 74 rdnE := opens_struct Tryz.underlying74 Tryz.cellRdn (ff_cons _ (by rfl) (by rfl) (by kernel_rfl) opn_str (ff_last _ (by rfl) (by rfl) (by kernel_rfl) (by rfl) opn_str))
theorem Tryz.cellAttr : Tryz.prog.cellsOf 107 = attrE.n := by kernel_rfl
set_option maxRecDepth 100000 in
theorem opn_attr : Opens Tryz.prog 107 attrE := opens_struct Tryz.underlying107 Tryz.cellAttr (ff_cons _ (by rfl) (by rfl) (by kernel_rfl) opn_str (ff_last _ (by rfl) (by rfl) (by kernel_rfl) (by rfl) opn_strS))
theorem opn_rdnS : Opens Tryz.prog 33 (slE rdnE) := opens_sl Tryz.underlying33 Tryz.cellRdn (by decide) opn_rdn
theorem opn_attrS : Opens Tryz.prog 34 (slE attrE) := opens_sl Tryz.underlying34 Tryz.cellAttr (by decide) opn_attr
theorem Tryz.cellEntry : Tryz.prog.cellsOf 36 = entryE.n := by kernel_rfl
set_option maxRecDepth 100000 in
theorem opn_entry : Opens Tryz.prog 36 entryE := opens_struct Tryz.underlying36 Tryz.cellEntry (ff_cons _ (by rfl) (by rfl) (by kernel_rfl) opn_rdnS (ff_last _ (by rfl) (by rfl) (by kernel_rfl) (by rfl) opn_attrS))
theorem Tryz.cellChange : Tryz.prog.cellsOf 93 = changeE.n := by kernel_rfl
set_option maxRecDepth 100000 in
theorem opn_change : Opens Tryz.prog 93 changeE := opens_struct Tryz.underlying93 Tryz.cellChange (ff_cons _ (by rfl) (by rfl) (by kernel_rfl) opn_int (ff_cons _ (by rfl) (by rfl) (by kernel_rfl) opn_int (ff_cons _ (by rfl) (by rfl) (by kernel_rfl) opn_str (ff_last _ (by rfl) (by rfl) (by kernel_rfl) (by rfl) opn_entry))))
theorem opn_changeS : Opens Tryz.prog 22 (slE changeE) := opens_sl Tryz.underlying22 Tryz.cellChange (by decide) opn_change
theorem Tryz.cellChanges : Tryz.prog.cellsOf 24 = changesE.n := by kernel_rfl
set_option maxRecDepth 100000 in
theorem opn_changes : Opens Tryz.prog 24 changesE := opens_struct Tryz.underlying24 Tryz.cellChanges (ff_cons _ (by rfl) (by rfl) (by kernel_rfl) opn_int (ff_last _ (by rfl) (by rfl) (by kernel_rfl) (by rfl) opn_changeS))
set_option maxRecDepth 100000 in
theorem opv_rdn {H : Type} {enc : TypeId × Value → H} {w : World} {base : Nat} {spare : Nat → Bool} {held : Bool} {r : Reach} {b0 : Nat} {v : Value} {d : DataW H} {p : List MemPlace} (hv : Value.okWide Tryz.prog w r b0 74 v) (h : DataW.Trod enc Tryz.prog w base spare held 74 v d p) :
    ∃ (a0 : ByteArray) (a1 : ByteArray) , v = .agg #[.string a0, .string a1] ∧ (True) ∧ rdnE.long (a0, a1) := by
  obtain ⟨cs, a, rfl, h1, h2⟩ := opv_struct Tryz.underlying74 opn_rdn hv h
  obtain ⟨a0, a1, rfl, e1, hq⟩ := rdn_atq h1
  refine ⟨a0, a1, agg_eq e1, ?_, h2⟩
  exact hq
set_option maxRecDepth 100000 in
theorem opv_attr {H : Type} {enc : TypeId × Value → H} {w : World} {base : Nat} {spare : Nat → Bool} {held : Bool} {r : Reach} {b0 : Nat} {v : Value} {d : DataW H} {p : List MemPlace} (hv : Value.okWide Tryz.prog w r b0 107 v) (h : DataW.Trod enc Tryz.prog w base spare held 107 v d p) :
    ∃ (a0 : ByteArray) (a1 : (List ByteArray)) (v1 : Value), v = .agg #[.string a0, v1] ∧ (SlAt strE (All w) w a1 v1) ∧ attrE.long (a0, a1) := by
  obtain ⟨cs, a, rfl, h1, h2⟩ := opv_struct Tryz.underlying107 opn_attr hv h
  obtain ⟨a0, a1, v1, rfl, e1, hq⟩ := attr_atq h1
  refine ⟨a0, a1, v1, agg_eq e1, ?_, h2⟩
  exact hq.1
set_option maxRecDepth 100000 in
theorem opv_entry {H : Type} {enc : TypeId × Value → H} {w : World} {base : Nat} {spare : Nat → Bool} {held : Bool} {r : Reach} {b0 : Nat} {v : Value} {d : DataW H} {p : List MemPlace} (hv : Value.okWide Tryz.prog w r b0 36 v) (h : DataW.Trod enc Tryz.prog w base spare held 36 v d p) :
    ∃ (a0 : (List RdnT)) (a1 : (List AttrT)) (v0 v1 : Value), v = .agg #[v0, v1] ∧ (SlAt rdnE (All w) w a0 v0 ∧ SlAt attrE (All w) w a1 v1) ∧ entryE.long (a0, a1) := by
  obtain ⟨cs, a, rfl, h1, h2⟩ := opv_struct Tryz.underlying36 opn_entry hv h
  obtain ⟨a0, a1, v0, v1, rfl, e1, hq⟩ := entry_atq h1
  refine ⟨a0, a1, v0, v1, agg_eq e1, ?_, h2⟩
  exact ⟨hq.1, hq.2.1⟩
set_option maxRecDepth 100000 in
theorem opv_change {H : Type} {enc : TypeId × Value → H} {w : World} {base : Nat} {spare : Nat → Bool} {held : Bool} {r : Reach} {b0 : Nat} {v : Value} {d : DataW H} {p : List MemPlace} (hv : Value.okWide Tryz.prog w r b0 93 v) (h : DataW.Trod enc Tryz.prog w base spare held 93 v d p) :
    ∃ (a0 : Int) (a1 : Int) (a2 : ByteArray) (a3 : (List RdnT)) (a4 : (List AttrT)) (v3 v4 : Value), v = .agg #[.int .i64 a0, .int .i64 a1, .string a2, v3, v4] ∧ (SlAt rdnE (All w) w a3 v3 ∧ SlAt attrE (All w) w a4 v4) ∧ changeE.long (a0, a1, a2, (a3, a4)) := by
  obtain ⟨cs, a, rfl, h1, h2⟩ := opv_struct Tryz.underlying93 opn_change hv h
  obtain ⟨a0, a1, a2, a3, a4, v3, v4, rfl, e1, hq⟩ := change_atq h1
  refine ⟨a0, a1, a2, a3, a4, v3, v4, agg_eq e1, ?_, h2⟩
  exact ⟨hq.1, hq.2.1⟩
set_option maxRecDepth 100000 in
theorem opv_changes {H : Type} {enc : TypeId × Value → H} {w : World} {base : Nat} {spare : Nat → Bool} {held : Bool} {r : Reach} {b0 : Nat} {v : Value} {d : DataW H} {p : List MemPlace} (hv : Value.okWide Tryz.prog w r b0 24 v) (h : DataW.Trod enc Tryz.prog w base spare held 24 v d p) :
    ∃ (a0 : Int) (a1 : (List ChangeT)) (v1 : Value), v = .agg #[.int .i64 a0, v1] ∧ (SlAt changeE (All w) w a1 v1) ∧ changesE.long (a0, a1) := by
  obtain ⟨cs, a, rfl, h1, h2⟩ := opv_struct Tryz.underlying24 opn_changes hv h
  obtain ⟨a0, a1, v1, rfl, e1, hq⟩ := changes_atq h1
  refine ⟨a0, a1, v1, agg_eq e1, ?_, h2⟩
  exact hq.1
end Go.Proofs.YtmanlnlhpgdbpaaGreat
/- Laws whose result lies in memory: what a walk of them needs. -/
namespace Go.Proofs.YtmanlnlhpgdbpaaGreat
open Go Go.RowKit

/-- what holds behind a statement, however its order was drawn -/
def OnlyNormal (F : Act → World → Prop) (e : Exit) (a : Act) (w : World) : Prop := match e with | .normal => F a w | _ => False
theorem region_join (F : Act → Act → World → Prop) {P : Program} {c : Code} {Q : Exit → Act → World → Prop} {a : Act} {w : World} (h : c.wp P (OnlyNormal (F a)) a w) (hq : ∀ a' w', F a a' w' → Q .normal a' w') : c.wp P Q a w :=
  Code.wp_mono (fun e a' w' he => by cases e <;> first | exact hq _ _ he | exact he.elim) h
theorem Blk.turn {S : Bs} {w w' : World} {g : Nat} {cs : List Value} (h : Blk w g cs) (ht : Turn S w w') (hg : ¬ S g) : Blk w' g cs := by
  have hl := h.lt
  obtain ⟨T, e⟩ := h
  exact ⟨T, (ht.block g hl hg).trans e⟩
theorem cnt_fit {α : Type} {e : Enc α} (l : List α) (hc : e.c ≤ 50) (h : l.length + szL e l ≤ 1048576) : cntL e l ≤ 52428800 := by
  have h1 := cntL_le e l
  have h2 : e.c * (l.length + szL e l) ≤ 50 * 1048576 := Nat.mul_le_mul hc h
  omega
end Go.Proofs.YtmanlnlhpgdbpaaGreat
/- An owned entry and an owned answer, taken apart. -/
namespace Go.Proofs.YtmanlnlhpgdbpaaGreat
open Go Go.RowKit
theorem entry_ownp {S : Bs} {w : World} {a0 : List RdnT} {a1 : List AttrT} {v0 v1 : Value} (h : entryE.Own S w (a0, a1) [v0, v1]) :
    ∃ S0 S1 : Bs, SlOwn rdnE S0 w a0 v0 ∧ (∀ k, S0 k → S k) ∧ SlOwn attrE S1 w a1 v1 ∧ (∀ k, S1 k → S k) ∧ ∀ k, S0 k → ¬ S1 k := by
  obtain ⟨b0, b1, y0, y1, S0, S1, e1, e2, q0, i0, q1, i1, d, _⟩ := entry_own h
  simp only [Prod.mk.injEq] at e1
  obtain ⟨rfl, rfl⟩ := e1
  simp only [List.cons.injEq, and_true] at e2
  obtain ⟨rfl, rfl⟩ := e2
  exact ⟨S0, S1, q0, i0, q1, i1, d⟩
theorem entryOut_ownp {S : Bs} {w : World} {a0 : List RdnT} {a1 : List AttrT} {a2 : Int} {v0 v1 : Value} (h : entryOutE.Own S w ((a0, a1), a2) [v0, v1, .int .i64 a2]) :
    ∃ S0 S1 : Bs, SlOwn rdnE S0 w a0 v0 ∧ (∀ k, S0 k → S k) ∧ SlOwn attrE S1 w a1 v1 ∧ (∀ k, S1 k → S k) ∧ ∀ k, S0 k → ¬ S1 k := by
  obtain ⟨b0, b1, b2, y0, y1, S0, S1, e1, e2, q0, i0, q1, i1, d, _⟩ := entryOut_own h
  simp only [Prod.mk.injEq] at e1
  obtain ⟨⟨rfl, rfl⟩, rfl⟩ := e1
  simp only [List.cons.injEq, and_true] at e2
  obtain ⟨rfl, rfl⟩ := e2
  exact ⟨S0, S1, q0, i0, q1, i1, d⟩
example : ruleE.c ≤ 50 := by decide
example : attrE.c ≤ 50 := by decide
end Go.Proofs.YtmanlnlhpgdbpaaGreat
/- The helpers of the laws: sizes. -/
namespace Go.Proofs.YtmanlnlhpgdbpaaGreat
open Go.RowKit
attribute [local go_sem ↓] Go.wp_at_zero Go.wp_at_succ

set_option maxRecDepth 100000 in
set_option maxHeartbeats 4000000 in
theorem szRdn_at  (a0 : ByteArray) (a1 : ByteArray)  (left : Int) (w : World)  (hl : rdnE.long (a0, a1)) (g0 : 0 ≤ left) (g1 : left ≤ 1048576) :
    Calls Tryz.prog 39 #[.agg #[.string a0, .string a1], .int .i64 left] w fun e w' => e = .returned (.int .i64 (leftR (rdnE.sz (a0, a1)) left)) ∧ Below w.heap.size w w' := by
  have HE : Hid (rdnE.sz (a0, a1) = a0.size + (a1.size)) := Lib.hid rfl
  have z0 : a0.size ≤ 9223372036854775807 := by have := hl.1; simp only [strE, maxLen] at this; omega
  have z1 : a1.size ≤ 9223372036854775807 := by have := hl.2; simp only [strE, maxLen] at this; omega
  clear hl
  generalize rdnE.sz (a0, a1) = z at *
  by_cases g2 : (a0.size : Int) ≤ left
  · have c0 : ¬ left - (a0.size : Int) < 0 := by omega
    by_cases g3 : (a1.size : Int) ≤ left - (a0.size : Int)
    · have c1 : ¬ left - (a0.size : Int) - (a1.size : Int) < 0 := by omega
      have HR : Hid (leftR z left = left - (a0.size : Int) - (a1.size : Int)) := Lib.hid (by rw [leftR_pos (by rw [HE.out]; omega), HE.out]; omega)
      go_enter Tryz.func39, Tryz.ntmps39
      go_wp2
      go_ret
      exact ⟨ret_int (by rw [HR.out]), (Below.refl _ _).alloc (Nat.le_refl _) _⟩
    · have c1 : left - (a0.size : Int) - (a1.size : Int) < 0 := by omega
      have HR : Hid (leftR z left = -1) := Lib.hid (leftR_neg (by rw [HE.out]; omega))
      go_enter Tryz.func39, Tryz.ntmps39
      go_wp2
      go_ret
      exact ⟨ret_int (by rw [HR.out]), (Below.refl _ _).alloc (Nat.le_refl _) _⟩
  · have c0 : left - (a0.size : Int) < 0 := by omega
    have HR : Hid (leftR z left = -1) := Lib.hid (leftR_neg (by rw [HE.out]; omega))
    go_enter Tryz.func39, Tryz.ntmps39
    go_wp2
    go_ret
    exact ⟨ret_int (by rw [HR.out]), (Below.refl _ _).alloc (Nat.le_refl _) _⟩
set_option maxRecDepth 100000 in
set_option maxHeartbeats 4000000 in
theorem szRdnS_at {S : Bs} (v : Value) (d : List RdnT) (left : Int) (w : World) (hd : SlAt rdnE S w d v) (hf : (slE rdnE).long d) (h0 : 0 ≤ left) (h1 : left ≤ 1048576) :
    Calls Tryz.prog 12 #[v, .int .i64 left] w fun e w' => e = .returned (.int .i64 (leftR (d.length + szL rdnE d) left)) ∧ Below w.heap.size w w' := by
  obtain ⟨ao, cap, rfl⟩ := hd.sl
  have hl : d.length ≤ 9223372036854775807 := hf.1
  have HD := Lib.hid hd; have HF := Lib.hid hf; clear hd hf
  by_cases g : (d.length : Int) ≤ left
  · have c1 : ¬ left - (d.length : Int) < 0 := by omega
    go_enter Tryz.func12, Tryz.ntmps12
    go_wp2
    go_loopw [1, 5] (fun t i wr => ∃ k : Nat, k ≤ d.length ∧ i = .int .i64 k ∧ ((d.length + szL rdnE (d.take k) : Nat) : Int) ≤ left ∧ t = .int .i64 (left - (d.length + szL rdnE (d.take k) : Nat)) ∧ Below w.heap.size w wr) (fun _ i _ => d.length - (intOf i).toNat)
    case atStart => exact ⟨0, Nat.zero_le _, rfl, by simp [szL]; omega, by simp [szL], Below.refl _ _⟩
    case round =>
      clear c1
      obtain ⟨k, hk, rfl, hle, rfl, hbel⟩ := hrel
      have hsz := hbel.size
      by_cases hlt : k < d.length
      · obtain ⟨b, off, a0, a1, rfl, _, hb0, hx, ⟨hc0, hc1⟩, _⟩ := rdn_row (HD.out.frame (Same.of_below' hbel)) hlt
        have HZ : Hid (rdnE.long (a0, a1)) := Lib.hid (by have := HF.out.2 _ (List.getElem_mem hlt); rw [hx] at this; exact this)
        have HT : Hid (szL rdnE (d.take (k + 1)) = szL rdnE (d.take k) + rdnE.sz (a0, a1)) := Lib.hid (by rw [szL_take rdnE d k hlt, hx])
        have HTl := Lib.hid (szL_le rdnE d (k + 1))
        clear hx
        generalize hq : d.length + szL rdnE (d.take k) = q at *
        have Hq := Lib.hid hq; clear hq
        have HC := Lib.hid (szRdn_at a0 a1 (left - (q : Int)) wr  HZ.out (by omega) (by omega))
        generalize rdnE.sz (a0, a1) = r at *
        go_wp2_with fail
        refine HC.out.mono ?_
        rintro e w2 ⟨rfl, hb2⟩
        have B2 := Lib.hid (hbel.trans (hb2.mono hsz)); clear hb2
        by_cases hfit : (r : Int) ≤ left - (q : Int)
        · rw [leftR_pos hfit]
          have c2 : ¬ left - (q : Int) - (r : Int) < 0 := by omega
          go_wp2
          go_roundw
          case rel =>
            have e := HT.out
            have e3 := Hq.out
            exact ⟨k + 1, by omega, by go_num, by omega, by rw [e]; congr 1; omega, B2.out⟩
          case measure => simp [intOf]; omega
        · rw [leftR_neg hfit]
          have HR : Hid (leftR (d.length + szL rdnE d) left = -1) := Lib.hid (leftR_neg (by
            have := HT.out; have := HTl.out; have := Hq.out; omega))
          go_wp2
          go_ret
          exact ⟨ret_int (by rw [HR.out]), B2.out⟩
      · have HR : Hid (leftR (d.length + szL rdnE d) left = left - (d.length + szL rdnE (d.take k) : Nat)) := Lib.hid (by
          rw [List.take_of_length_le (by omega)] at hle ⊢
          exact leftR_pos hle)
        go_wp2
        go_ret
        exact ⟨ret_int (by rw [HR.out]), hbel⟩
  · have HR : Hid (leftR (d.length + szL rdnE d) left = -1) := Lib.hid (leftR_neg (by omega))
    have c1 : left - (d.length : Int) < 0 := by omega
    go_enter Tryz.func12, Tryz.ntmps12
    go_wp2
    go_ret
    exact ⟨ret_int (by rw [HR.out]), Below.refl _ _⟩
end Go.Proofs.YtmanlnlhpgdbpaaGreat
/- The helpers of the laws: sizes. -/
namespace Go.Proofs.YtmanlnlhpgdbpaaGreat
open Go.RowKit
attribute [local go_sem ↓] Go.wp_at_zero Go.wp_at_succ

set_option maxRecDepth 100000 in
set_option maxHeartbeats 4000000 in
theorem szStringS_at {S : Bs} (v : Value) (d : List ByteArray) (left : Int) (w : World) (hd : SlAt strE S w d v) (hf : (slE strE).long d) (h0 : 0 ≤ left) (h1 : left ≤ 1048576) :
    Calls Tryz.prog 89 #[v, .int .i64 left] w fun e w' => e = .returned (.int .i64 (leftR (d.length + szL strE d) left)) ∧ Below w.heap.size w w' := by
  obtain ⟨ao, cap, rfl⟩ := hd.sl
  have hl : d.length ≤ 9223372036854775807 := hf.1
  have HD := Lib.hid hd; have HF := Lib.hid hf; clear hd hf
  by_cases g : (d.length : Int) ≤ left
  · have c1 : ¬ left - (d.length : Int) < 0 := by omega
    go_enter Tryz.func89, Tryz.ntmps89
    go_wp2
    go_loopw [1, 5] (fun t i wr => ∃ k : Nat, k ≤ d.length ∧ i = .int .i64 k ∧ ((d.length + szL strE (d.take k) : Nat) : Int) ≤ left ∧ t = .int .i64 (left - (d.length + szL strE (d.take k) : Nat)) ∧ Below w.heap.size w wr) (fun _ i _ => d.length - (intOf i).toNat)
    case atStart => exact ⟨0, Nat.zero_le _, rfl, by simp [szL]; omega, by simp [szL], Below.refl _ _⟩
    case round =>
      clear c1
      obtain ⟨k, hk, rfl, hle, rfl, hbel⟩ := hrel
      have hsz := hbel.size
      by_cases hlt : k < d.length
      · obtain ⟨b, off, A, rfl, _, hb0, hx, hc1⟩ := str_row (HD.out.frame (Same.of_below' hbel)) hlt
        have hz : A.size ≤ maxLen := by have := HF.out.2 _ (List.getElem_mem hlt); rw [hx] at this; exact this
        unfold maxLen at hz
        have HT : Hid (szL strE (d.take (k + 1)) = szL strE (d.take k) + A.size) := Lib.hid (by rw [szL_take strE d k hlt, hx]; rfl)
        have HTl := Lib.hid (szL_le strE d (k + 1))
        clear hx
        generalize hq : d.length + szL strE (d.take k) = q at *
        have Hq := Lib.hid hq; clear hq
        by_cases hfit : ((A.size : Nat) : Int) ≤ left - (q : Int)
        · have c2 : ¬ left - (q : Int) - (A.size : Int) < 0 := by omega
          go_wp2
          go_roundw
          case rel =>
            have e := HT.out
            have e3 := Hq.out
            exact ⟨k + 1, by omega, by go_num, by omega, by rw [e]; congr 1; omega, hbel⟩
          case measure => simp [intOf]; omega
        · have c2 : left - (q : Int) - (A.size : Int) < 0 := by omega
          have HR : Hid (leftR (d.length + szL strE d) left = -1) := Lib.hid (leftR_neg (by
            have := HT.out; have := HTl.out; have := Hq.out; omega))
          go_wp2
          go_ret
          exact ⟨ret_int (by rw [HR.out]), hbel⟩
      · have HR : Hid (leftR (d.length + szL strE d) left = left - (d.length + szL strE (d.take k) : Nat)) := Lib.hid (by
          rw [List.take_of_length_le (by omega)] at hle ⊢
          exact leftR_pos hle)
        go_wp2
        go_ret
        exact ⟨ret_int (by rw [HR.out]), hbel⟩
  · have HR : Hid (leftR (d.length + szL strE d) left = -1) := Lib.hid (leftR_neg (by omega))
    have c1 : left - (d.length : Int) < 0 := by omega
    go_enter Tryz.func89, Tryz.ntmps89
    go_wp2
    go_ret
    exact ⟨ret_int (by rw [HR.out]), Below.refl _ _⟩
end Go.Proofs.YtmanlnlhpgdbpaaGreat
/- The helpers of the laws: sizes. -/
namespace Go.Proofs.YtmanlnlhpgdbpaaGreat
open Go.RowKit
attribute [local go_sem ↓] Go.wp_at_zero Go.wp_at_succ

set_option maxRecDepth 100000 in
set_option maxHeartbeats 4000000 in
theorem szAttr_at {S : Bs} (a0 : ByteArray) (a1 : (List ByteArray)) (v1 : Value) (left : Int) (w : World) (h1 : SlAt strE S w a1 v1) (hl : attrE.long (a0, a1)) (g0 : 0 ≤ left) (g1 : left ≤ 1048576) :
    Calls Tryz.prog 70 #[.agg #[.string a0, v1], .int .i64 left] w fun e w' => e = .returned (.int .i64 (leftR (attrE.sz (a0, a1)) left)) ∧ Below w.heap.size w w' := by
  have HE : Hid (attrE.sz (a0, a1) = a0.size + ((a1.length + szL strE a1))) := Lib.hid rfl
  have z0 : a0.size ≤ 9223372036854775807 := by have := hl.1; simp only [strE, maxLen] at this; omega
  have C1 : Hid (∀ (l : Int) (W : World), Below w.heap.size w W → 0 ≤ l → l ≤ 1048576 → Calls Tryz.prog 89 #[v1, .int .i64 l] W fun e w' => e = .returned (.int .i64 (leftR (a1.length + szL strE a1) l)) ∧ Below W.heap.size W w') := Lib.hid (fun l W b p q => szStringS_at v1 a1 l W (h1.frame (Same.of_below' b)) hl.2 p q)
  obtain ⟨o1, k1, rfl⟩ := h1.sl
  clear h1
  clear hl
  generalize attrE.sz (a0, a1) = z at *
  generalize (a1.length + szL strE a1) = r1 at *
  generalize a1.length = m1 at *
  by_cases g2 : (a0.size : Int) ≤ left
  · have c0 : ¬ left - (a0.size : Int) < 0 := by omega
    go_enter Tryz.func70, Tryz.ntmps70
    go_wp2_with fail
    refine calls_by (fun W => Below w.heap.size w W ∧ Blk W w.heap.size [.string a0, .slice o1 m1 k1]) ⟨more' (Below.refl _ _) _, Blk.new _ _ _⟩ ?_
    rintro w1 ⟨b1, t1⟩
    have T1 := Lib.hid t1; clear t1
    refine (C1.out _ w1 b1 (by omega) (by omega)).mono ?_
    rintro e w2 ⟨rfl, hb⟩
    have T2 := Lib.hid (T1.out.below hb); have b2 := b1.trans (hb.mono b1.size)
    clear hb b1 T1 C1
    by_cases g3 : (r1 : Int) ≤ left - (a0.size : Int)
    · rw [leftR_pos g3]
      have c1 : ¬ left - (a0.size : Int) - (r1 : Int) < 0 := by omega
      have q0 := T2.out.cell 0 rfl
      have q1 := T2.out.cell 1 rfl
      have HR : Hid (leftR z left = left - (a0.size : Int) - (r1 : Int)) := Lib.hid (by rw [leftR_pos (by rw [HE.out]; omega), HE.out]; omega)
      go_wp2
      go_ret
      exact ⟨ret_int (by rw [HR.out]), b2⟩
    · rw [leftR_neg g3]
      have HR : Hid (leftR z left = -1) := Lib.hid (leftR_neg (by rw [HE.out]; omega))
      go_wp2
      go_ret
      exact ⟨ret_int (by rw [HR.out]), b2⟩
  · have c0 : left - (a0.size : Int) < 0 := by omega
    have HR : Hid (leftR z left = -1) := Lib.hid (leftR_neg (by rw [HE.out]; omega))
    go_enter Tryz.func70, Tryz.ntmps70
    go_wp2
    go_ret
    exact ⟨ret_int (by rw [HR.out]), (Below.refl _ _).alloc (Nat.le_refl _) _⟩
set_option maxRecDepth 100000 in
set_option maxHeartbeats 4000000 in
theorem szAttrS_at {S : Bs} (v : Value) (d : List AttrT) (left : Int) (w : World) (hd : SlAt attrE S w d v) (hf : (slE attrE).long d) (h0 : 0 ≤ left) (h1 : left ≤ 1048576) :
    Calls Tryz.prog 40 #[v, .int .i64 left] w fun e w' => e = .returned (.int .i64 (leftR (d.length + szL attrE d) left)) ∧ Below w.heap.size w w' := by
  obtain ⟨ao, cap, rfl⟩ := hd.sl
  have hl : d.length ≤ 9223372036854775807 := hf.1
  have HD := Lib.hid hd; have HF := Lib.hid hf; clear hd hf
  by_cases g : (d.length : Int) ≤ left
  · have c1 : ¬ left - (d.length : Int) < 0 := by omega
    go_enter Tryz.func40, Tryz.ntmps40
    go_wp2
    go_loopw [1, 5] (fun t i wr => ∃ k : Nat, k ≤ d.length ∧ i = .int .i64 k ∧ ((d.length + szL attrE (d.take k) : Nat) : Int) ≤ left ∧ t = .int .i64 (left - (d.length + szL attrE (d.take k) : Nat)) ∧ Below w.heap.size w wr) (fun _ i _ => d.length - (intOf i).toNat)
    case atStart => exact ⟨0, Nat.zero_le _, rfl, by simp [szL]; omega, by simp [szL], Below.refl _ _⟩
    case round =>
      clear c1
      obtain ⟨k, hk, rfl, hle, rfl, hbel⟩ := hrel
      have hsz := hbel.size
      by_cases hlt : k < d.length
      · obtain ⟨b, off, a0, a1, v1, rfl, _, hb0, hx, ⟨hc0, hc1⟩, s1, _⟩ := attr_row (HD.out.frame (Same.of_below' hbel)) hlt
        have HV1 := Lib.hid s1; clear s1
        have HZ : Hid (attrE.long (a0, a1)) := Lib.hid (by have := HF.out.2 _ (List.getElem_mem hlt); rw [hx] at this; exact this)
        have HT : Hid (szL attrE (d.take (k + 1)) = szL attrE (d.take k) + attrE.sz (a0, a1)) := Lib.hid (by rw [szL_take attrE d k hlt, hx])
        have HTl := Lib.hid (szL_le attrE d (k + 1))
        clear hx
        generalize hq : d.length + szL attrE (d.take k) = q at *
        have Hq := Lib.hid hq; clear hq
        have HC := Lib.hid (szAttr_at a0 a1 v1 (left - (q : Int)) wr HV1.out HZ.out (by omega) (by omega))
        generalize attrE.sz (a0, a1) = r at *
        go_wp2_with fail
        refine HC.out.mono ?_
        rintro e w2 ⟨rfl, hb2⟩
        have B2 := Lib.hid (hbel.trans (hb2.mono hsz)); clear hb2
        by_cases hfit : (r : Int) ≤ left - (q : Int)
        · rw [leftR_pos hfit]
          have c2 : ¬ left - (q : Int) - (r : Int) < 0 := by omega
          go_wp2
          go_roundw
          case rel =>
            have e := HT.out
            have e3 := Hq.out
            exact ⟨k + 1, by omega, by go_num, by omega, by rw [e]; congr 1; omega, B2.out⟩
          case measure => simp [intOf]; omega
        · rw [leftR_neg hfit]
          have HR : Hid (leftR (d.length + szL attrE d) left = -1) := Lib.hid (leftR_neg (by
            have := HT.out; have := HTl.out; have := Hq.out; omega))
          go_wp2
          go_ret
          exact ⟨ret_int (by rw [HR.out]), B2.out⟩
      · have HR : Hid (leftR (d.length + szL attrE d) left = left - (d.length + szL attrE (d.take k) : Nat)) := Lib.hid (by
          rw [List.take_of_length_le (by omega)] at hle ⊢
          exact leftR_pos hle)
        go_wp2
        go_ret
        exact ⟨ret_int (by rw [HR.out]), hbel⟩
  · have HR : Hid (leftR (d.length + szL attrE d) left = -1) := Lib.hid (leftR_neg (by omega))
    have c1 : left - (d.length : Int) < 0 := by omega
    go_enter Tryz.func40, Tryz.ntmps40
    go_wp2
    go_ret
    exact ⟨ret_int (by rw [HR.out]), Below.refl _ _⟩
end Go.Proofs.YtmanlnlhpgdbpaaGreat
/- The helpers of the laws: sizes. -/
namespace Go.Proofs.YtmanlnlhpgdbpaaGreat
open Go.RowKit
attribute [local go_sem ↓] Go.wp_at_zero Go.wp_at_succ

set_option maxRecDepth 100000 in
set_option maxHeartbeats 4000000 in
theorem szEntry_at {S : Bs} (a0 : (List RdnT)) (a1 : (List AttrT)) (v0 v1 : Value) (left : Int) (w : World) (h0 : SlAt rdnE S w a0 v0) (h1 : SlAt attrE S w a1 v1) (hl : entryE.long (a0, a1)) (g0 : 0 ≤ left) (g1 : left ≤ 1048576) :
    Calls Tryz.prog 13 #[.agg #[v0, v1], .int .i64 left] w fun e w' => e = .returned (.int .i64 (leftR (entryE.sz (a0, a1)) left)) ∧ Below w.heap.size w w' := by
  have HE : Hid (entryE.sz (a0, a1) = (a0.length + szL rdnE a0) + ((a1.length + szL attrE a1))) := Lib.hid rfl
  have C0 : Hid (∀ (l : Int) (W : World), Below w.heap.size w W → 0 ≤ l → l ≤ 1048576 → Calls Tryz.prog 12 #[v0, .int .i64 l] W fun e w' => e = .returned (.int .i64 (leftR (a0.length + szL rdnE a0) l)) ∧ Below W.heap.size W w') := Lib.hid (fun l W b p q => szRdnS_at v0 a0 l W (h0.frame (Same.of_below' b)) hl.1 p q)
  have C1 : Hid (∀ (l : Int) (W : World), Below w.heap.size w W → 0 ≤ l → l ≤ 1048576 → Calls Tryz.prog 40 #[v1, .int .i64 l] W fun e w' => e = .returned (.int .i64 (leftR (a1.length + szL attrE a1) l)) ∧ Below W.heap.size W w') := Lib.hid (fun l W b p q => szAttrS_at v1 a1 l W (h1.frame (Same.of_below' b)) hl.2 p q)
  obtain ⟨o0, k0, rfl⟩ := h0.sl
  obtain ⟨o1, k1, rfl⟩ := h1.sl
  clear h0 h1
  clear hl
  generalize entryE.sz (a0, a1) = z at *
  generalize (a0.length + szL rdnE a0) = r0 at *
  generalize (a1.length + szL attrE a1) = r1 at *
  generalize a0.length = m0 at *
  generalize a1.length = m1 at *
  go_enter Tryz.func13, Tryz.ntmps13
  go_wp2_with fail
  refine calls_by (fun W => Below w.heap.size w W ∧ Blk W w.heap.size [.slice o0 m0 k0, .slice o1 m1 k1]) ⟨more' (Below.refl _ _) _, Blk.new _ _ _⟩ ?_
  rintro w1 ⟨b1, t1⟩
  have T1 := Lib.hid t1; clear t1
  refine (C0.out _ w1 b1 (by omega) (by omega)).mono ?_
  rintro e w2 ⟨rfl, hb⟩
  have T2 := Lib.hid (T1.out.below hb); have b2 := b1.trans (hb.mono b1.size)
  clear hb b1 T1 C0
  by_cases g2 : (r0 : Int) ≤ left
  · rw [leftR_pos g2]
    have c0 : ¬ left - (r0 : Int) < 0 := by omega
    have q0 := T2.out.cell 0 rfl
    have q1 := T2.out.cell 1 rfl
    go_wp2_with fail
    refine (C1.out _ w2 b2 (by omega) (by omega)).mono ?_
    rintro e w3 ⟨rfl, hb⟩
    have T3 := Lib.hid (T2.out.below hb); have b3 := b2.trans (hb.mono b2.size)
    clear hb b2 T2 C1 q0 q1
    by_cases g3 : (r1 : Int) ≤ left - (r0 : Int)
    · rw [leftR_pos g3]
      have c1 : ¬ left - (r0 : Int) - (r1 : Int) < 0 := by omega
      have q0 := T3.out.cell 0 rfl
      have q1 := T3.out.cell 1 rfl
      have HR : Hid (leftR z left = left - (r0 : Int) - (r1 : Int)) := Lib.hid (by rw [leftR_pos (by rw [HE.out]; omega), HE.out]; omega)
      go_wp2
      go_ret
      exact ⟨ret_int (by rw [HR.out]), b3⟩
    · rw [leftR_neg g3]
      have HR : Hid (leftR z left = -1) := Lib.hid (leftR_neg (by rw [HE.out]; omega))
      go_wp2
      go_ret
      exact ⟨ret_int (by rw [HR.out]), b3⟩
  · rw [leftR_neg g2]
    have HR : Hid (leftR z left = -1) := Lib.hid (leftR_neg (by rw [HE.out]; omega))
    go_wp2
    go_ret
    exact ⟨ret_int (by rw [HR.out]), b2⟩
end Go.Proofs.YtmanlnlhpgdbpaaGreat
/- The helpers of the laws: sizes. -/
namespace Go.Proofs.YtmanlnlhpgdbpaaGreat
open Go.RowKit
attribute [local go_sem ↓] Go.wp_at_zero Go.wp_at_succ

set_option maxRecDepth 100000 in
set_option maxHeartbeats 4000000 in
theorem szChange_at {S : Bs} (a0 : Int) (a1 : Int) (a2 : ByteArray) (a3 : (List RdnT)) (a4 : (List AttrT)) (v3 v4 : Value) (left : Int) (w : World) (h3 : SlAt rdnE S w a3 v3) (h4 : SlAt attrE S w a4 v4) (hl : changeE.long (a0, a1, a2, (a3, a4))) (g0 : 0 ≤ left) (g1 : left ≤ 1048576) :
    Calls Tryz.prog 59 #[.agg #[.int .i64 a0, .int .i64 a1, .string a2, v3, v4], .int .i64 left] w fun e w' => e = .returned (.int .i64 (leftR (changeE.sz (a0, a1, a2, (a3, a4))) left)) ∧ Below w.heap.size w w' := by
  have HE : Hid (changeE.sz (a0, a1, a2, (a3, a4)) = 0 + (0 + (a2.size + (entryE.sz (a3, a4))))) := Lib.hid rfl
  have z2 : a2.size ≤ 9223372036854775807 := by have := hl.2.2.1; simp only [strE, maxLen] at this; omega
  have C3 : Hid (∀ (l : Int) (W : World), Below w.heap.size w W → 0 ≤ l → l ≤ 1048576 → Calls Tryz.prog 13 #[.agg #[v3, v4], .int .i64 l] W fun e w' => e = .returned (.int .i64 (leftR (entryE.sz (a3, a4)) l)) ∧ Below W.heap.size W w') := Lib.hid (fun l W b p q => szEntry_at a3 a4 v3 v4 l W (h3.frame (Same.of_below' b)) (h4.frame (Same.of_below' b)) (hl.2.2.2) p q)
  obtain ⟨o3, k3, rfl⟩ := h3.sl
  obtain ⟨o4, k4, rfl⟩ := h4.sl
  clear h3 h4
  clear hl
  generalize changeE.sz (a0, a1, a2, (a3, a4)) = z at *
  generalize entryE.sz (a3, a4) = r3 at *
  generalize a3.length = m3 at *
  generalize a4.length = m4 at *
  by_cases g4 : (a2.size : Int) ≤ left
  · have c2 : ¬ left - (a2.size : Int) < 0 := by omega
    go_enter Tryz.func59, Tryz.ntmps59
    go_wp2_with fail
    refine calls_by (fun W => Below w.heap.size w W ∧ Blk W w.heap.size [.int .i64 a0, .int .i64 a1, .string a2, .slice o3 m3 k3, .slice o4 m4 k4]) ⟨more' (Below.refl _ _) _, Blk.new _ _ _⟩ ?_
    rintro w1 ⟨b1, t1⟩
    have T1 := Lib.hid t1; clear t1
    refine (C3.out _ w1 b1 (by omega) (by omega)).mono ?_
    rintro e w2 ⟨rfl, hb⟩
    have T2 := Lib.hid (T1.out.below hb); have b2 := b1.trans (hb.mono b1.size)
    clear hb b1 T1 C3
    by_cases g5 : (r3 : Int) ≤ left - (a2.size : Int)
    · rw [leftR_pos g5]
      have c3 : ¬ left - (a2.size : Int) - (r3 : Int) < 0 := by omega
      have q0 := T2.out.cell 0 rfl
      have q1 := T2.out.cell 1 rfl
      have q2 := T2.out.cell 2 rfl
      have q3 := T2.out.cell 3 rfl
      have q4 := T2.out.cell 4 rfl
      have HR : Hid (leftR z left = left - (a2.size : Int) - (r3 : Int)) := Lib.hid (by rw [leftR_pos (by rw [HE.out]; omega), HE.out]; omega)
      go_wp2
      go_ret
      exact ⟨ret_int (by rw [HR.out]), b2⟩
    · rw [leftR_neg g5]
      have HR : Hid (leftR z left = -1) := Lib.hid (leftR_neg (by rw [HE.out]; omega))
      go_wp2
      go_ret
      exact ⟨ret_int (by rw [HR.out]), b2⟩
  · have c2 : left - (a2.size : Int) < 0 := by omega
    have HR : Hid (leftR z left = -1) := Lib.hid (leftR_neg (by rw [HE.out]; omega))
    go_enter Tryz.func59, Tryz.ntmps59
    go_wp2
    go_ret
    exact ⟨ret_int (by rw [HR.out]), (Below.refl _ _).alloc (Nat.le_refl _) _⟩
set_option maxRecDepth 100000 in
set_option maxHeartbeats 4000000 in
theorem szChangeS_at {S : Bs} (v : Value) (d : List ChangeT) (left : Int) (w : World) (hd : SlAt changeE S w d v) (hf : (slE changeE).long d) (h0 : 0 ≤ left) (h1 : left ≤ 1048576) :
    Calls Tryz.prog 30 #[v, .int .i64 left] w fun e w' => e = .returned (.int .i64 (leftR (d.length + szL changeE d) left)) ∧ Below w.heap.size w w' := by
  obtain ⟨ao, cap, rfl⟩ := hd.sl
  have hl : d.length ≤ 9223372036854775807 := hf.1
  have HD := Lib.hid hd; have HF := Lib.hid hf; clear hd hf
  by_cases g : (d.length : Int) ≤ left
  · have c1 : ¬ left - (d.length : Int) < 0 := by omega
    go_enter Tryz.func30, Tryz.ntmps30
    go_wp2
    go_loopw [1, 5] (fun t i wr => ∃ k : Nat, k ≤ d.length ∧ i = .int .i64 k ∧ ((d.length + szL changeE (d.take k) : Nat) : Int) ≤ left ∧ t = .int .i64 (left - (d.length + szL changeE (d.take k) : Nat)) ∧ Below w.heap.size w wr) (fun _ i _ => d.length - (intOf i).toNat)
    case atStart => exact ⟨0, Nat.zero_le _, rfl, by simp [szL]; omega, by simp [szL], Below.refl _ _⟩
    case round =>
      clear c1
      obtain ⟨k, hk, rfl, hle, rfl, hbel⟩ := hrel
      have hsz := hbel.size
      by_cases hlt : k < d.length
      · obtain ⟨b, off, a0, a1, a2, a3, a4, v3, v4, rfl, _, hb0, hx, ⟨hc0, hc1, hc2, hc3, hc4⟩, s3, s4, _⟩ := change_row (HD.out.frame (Same.of_below' hbel)) hlt
        have HV3 := Lib.hid s3; clear s3
        have HV4 := Lib.hid s4; clear s4
        have HZ : Hid (changeE.long (a0, a1, a2, (a3, a4))) := Lib.hid (by have := HF.out.2 _ (List.getElem_mem hlt); rw [hx] at this; exact this)
        have HT : Hid (szL changeE (d.take (k + 1)) = szL changeE (d.take k) + changeE.sz (a0, a1, a2, (a3, a4))) := Lib.hid (by rw [szL_take changeE d k hlt, hx])
        have HTl := Lib.hid (szL_le changeE d (k + 1))
        clear hx
        generalize hq : d.length + szL changeE (d.take k) = q at *
        have Hq := Lib.hid hq; clear hq
        have HC := Lib.hid (szChange_at a0 a1 a2 a3 a4 v3 v4 (left - (q : Int)) wr HV3.out HV4.out HZ.out (by omega) (by omega))
        generalize changeE.sz (a0, a1, a2, (a3, a4)) = r at *
        go_wp2_with fail
        refine HC.out.mono ?_
        rintro e w2 ⟨rfl, hb2⟩
        have B2 := Lib.hid (hbel.trans (hb2.mono hsz)); clear hb2
        by_cases hfit : (r : Int) ≤ left - (q : Int)
        · rw [leftR_pos hfit]
          have c2 : ¬ left - (q : Int) - (r : Int) < 0 := by omega
          go_wp2
          go_roundw
          case rel =>
            have e := HT.out
            have e3 := Hq.out
            exact ⟨k + 1, by omega, by go_num, by omega, by rw [e]; congr 1; omega, B2.out⟩
          case measure => simp [intOf]; omega
        · rw [leftR_neg hfit]
          have HR : Hid (leftR (d.length + szL changeE d) left = -1) := Lib.hid (leftR_neg (by
            have := HT.out; have := HTl.out; have := Hq.out; omega))
          go_wp2
          go_ret
          exact ⟨ret_int (by rw [HR.out]), B2.out⟩
      · have HR : Hid (leftR (d.length + szL changeE d) left = left - (d.length + szL changeE (d.take k) : Nat)) := Lib.hid (by
          rw [List.take_of_length_le (by omega)] at hle ⊢
          exact leftR_pos hle)
        go_wp2
        go_ret
        exact ⟨ret_int (by rw [HR.out]), hbel⟩
  · have HR : Hid (leftR (d.length + szL changeE d) left = -1) := Lib.hid (leftR_neg (by omega))
    have c1 : left - (d.length : Int) < 0 := by omega
    go_enter Tryz.func30, Tryz.ntmps30
    go_wp2
    go_ret
    exact ⟨ret_int (by rw [HR.out]), Below.refl _ _⟩
end Go.Proofs.YtmanlnlhpgdbpaaGreat
/- The helpers of the laws: sizes. -/
namespace Go.Proofs.YtmanlnlhpgdbpaaGreat
open Go.RowKit
attribute [local go_sem ↓] Go.wp_at_zero Go.wp_at_succ

set_option maxRecDepth 100000 in
set_option maxHeartbeats 4000000 in
theorem szChanges_at {S : Bs} (a0 : Int) (a1 : (List ChangeT)) (v1 : Value) (left : Int) (w : World) (h1 : SlAt changeE S w a1 v1) (hl : changesE.long (a0, a1)) (g0 : 0 ≤ left) (g1 : left ≤ 1048576) :
    Calls Tryz.prog 7 #[.agg #[.int .i64 a0, v1], .int .i64 left] w fun e w' => e = .returned (.int .i64 (leftR (changesE.sz (a0, a1)) left)) ∧ Below w.heap.size w w' := by
  have HE : Hid (changesE.sz (a0, a1) = 0 + ((a1.length + szL changeE a1))) := Lib.hid rfl
  have C1 : Hid (∀ (l : Int) (W : World), Below w.heap.size w W → 0 ≤ l → l ≤ 1048576 → Calls Tryz.prog 30 #[v1, .int .i64 l] W fun e w' => e = .returned (.int .i64 (leftR (a1.length + szL changeE a1) l)) ∧ Below W.heap.size W w') := Lib.hid (fun l W b p q => szChangeS_at v1 a1 l W (h1.frame (Same.of_below' b)) hl.2 p q)
  obtain ⟨o1, k1, rfl⟩ := h1.sl
  clear h1
  clear hl
  generalize changesE.sz (a0, a1) = z at *
  generalize (a1.length + szL changeE a1) = r1 at *
  generalize a1.length = m1 at *
  go_enter Tryz.func7, Tryz.ntmps7
  go_wp2_with fail
  refine calls_by (fun W => Below w.heap.size w W ∧ Blk W w.heap.size [.int .i64 a0, .slice o1 m1 k1]) ⟨more' (Below.refl _ _) _, Blk.new _ _ _⟩ ?_
  rintro w1 ⟨b1, t1⟩
  have T1 := Lib.hid t1; clear t1
  refine (C1.out _ w1 b1 (by omega) (by omega)).mono ?_
  rintro e w2 ⟨rfl, hb⟩
  have T2 := Lib.hid (T1.out.below hb); have b2 := b1.trans (hb.mono b1.size)
  clear hb b1 T1 C1
  by_cases g3 : (r1 : Int) ≤ left
  · rw [leftR_pos g3]
    have c1 : ¬ left - (r1 : Int) < 0 := by omega
    have q0 := T2.out.cell 0 rfl
    have q1 := T2.out.cell 1 rfl
    have HR : Hid (leftR z left = left - (r1 : Int)) := Lib.hid (by rw [leftR_pos (by rw [HE.out]; omega), HE.out]; omega)
    go_wp2
    go_ret
    exact ⟨ret_int (by rw [HR.out]), b2⟩
  · rw [leftR_neg g3]
    have HR : Hid (leftR z left = -1) := Lib.hid (leftR_neg (by rw [HE.out]; omega))
    go_wp2
    go_ret
    exact ⟨ret_int (by rw [HR.out]), b2⟩
end Go.Proofs.YtmanlnlhpgdbpaaGreat
/- The helpers of the laws: copies. -/
namespace Go.Proofs.YtmanlnlhpgdbpaaGreat
open Go.RowKit
attribute [local go_sem ↓] Go.wp_at_zero Go.wp_at_succ

theorem Tryz.infoTChanges : (Tryz.prog.info? 29).map (fun i => (i.zero, i.size, i.bytes)) = some (some (.agg #[.int .i64 0, .slice none 0 0]), 2, 32) := by kernel_rfl
set_option maxRecDepth 100000 in
set_option maxHeartbeats 4000000 in
theorem toChanges_at {S : Bs} (a0 : Int) (a1 : (List ChangeT)) (v1 : Value) (w : World) (h1 : SlAt changeE S w a1 v1) (hz : changesE.sz (a0, a1) ≤ 1048576) :
    Calls Tryz.prog 9 #[.agg #[.int .i64 a0, v1]] w fun e w' => ∃ u1, e = .returned (.agg #[.int .i64 a0, u1]) ∧ changesE.Own (Fresh w w') w' (a0, a1) [.int .i64 a0, u1] ∧ Below w.heap.size w w' := by
  have HE : changesE.sz (a0, a1) = 0 + ((a1.length + szL changeE a1)) := rfl
  rw [HE] at hz
  have C1 : Hid (∀ W : World, Below w.heap.size w W → Calls Tryz.prog 34 #[v1] W fun e w' => ∃ u, e = .returned u ∧ SlOwn changeE (Fresh W w') w' a1 u ∧ Below W.heap.size W w') := Lib.hid (fun W b => toChangeS_at v1 a1 W (h1.frame (Same.of_below' b)) (by omega))
  obtain ⟨o1, k1, rfl⟩ := h1.sl
  clear hz HE h1
  go_enter Tryz.func9, Tryz.ntmps9
  go_wp2_with fail
  refine calls_by (fun W => Below w.heap.size w W ∧ Blk W w.heap.size [.int .i64 a0, .slice o1 a1.length k1] ∧ Blk W (w.heap.size + 1) [.int .i64 0, .slice none 0 0] ∧ Blk W (w.heap.size + 1 + 1) [.int .i64 a0, .slice none 0 0]) ⟨more' (more' (more' (Below.refl _ _) _) _) _, ((Blk.new _ _ _).alloc _).alloc _, (blk_at _ _ _ (by simp)).alloc _, blk_at _ _ _ (by simp)⟩ ?_
  rintro W0 ⟨b0, t0, r0, s0⟩
  have hn : w.heap.size + 1 + 1 < W0.heap.size := s0.lt
  refine (C1.out W0 b0).mono ?_
  rintro e y1 ⟨u1, rfl, q1, hb⟩
  obtain ⟨p1, j1, rfl⟩ := q1.at.sl
  have T := Lib.hid (t0.below hb); have Rr := Lib.hid (r0.below hb); have U := Lib.hid (s0.below hb); have B := Lib.hid (b0.trans (hb.mono b0.size)); have hs1 := hb.size
  have Q1 := Lib.hid q1
  clear t0 r0 s0 b0 hb q1 C1
  have m0 := T.out.cell 0 rfl
  have c0 := U.out.cell 0 rfl
  have f0 := U.out.soft 0
  have m1 := T.out.cell 1 rfl
  have c1 := U.out.cell 1 rfl
  have f1 := U.out.soft 1
  have TE := (((Rr.out.far (R := w.heap.size + 1 + 1) (j := 1) (by omega) (.slice p1 a1.length j1)).set 0 (.int .i64 a0)).set 1 (.slice p1 a1.length j1))
  have d0 := Rr.out.cell 0 rfl
  have g0 := Rr.out.soft 0
  have k100 := TE.cell 0 rfl
  have d1 := Rr.out.cell 1 rfl
  have g1 := Rr.out.soft 1
  have k101 := TE.cell 1 rfl
  clear TE
  go_wp2_with fail
  refine bodyPost_ret (v := .agg #[.int .i64 a0, .slice p1 a1.length j1]) (by simp [results, Tryz.results9, go_sem, k100, k101]) rfl ⟨_, rfl, ?_, ?_⟩
  · exact changes_pack a0 a1 _ (Fresh W0 y1) ⟨(((Q1.out.frame (Same.set _ _ _ (by intro h; have := h.1; omega))).frame (Same.set _ _ _ (by intro h; have := h.1; omega))).frame (Same.set _ _ _ (by intro h; have := h.1; omega))), (fun k z => ⟨by have := z.1; omega, by have := z.2; show _ < (World.heap _).size; simp only [setCell_size]; omega⟩), trivial⟩
  · exact (((B.out.setCell (p := ⟨w.heap.size + 1 + 1, 1, none⟩) (by show w.heap.size ≤ w.heap.size + 1 + 1; omega) _).setCell (p := ⟨w.heap.size + 1, 0, none⟩) (by show w.heap.size ≤ w.heap.size + 1; omega) _).setCell (p := ⟨w.heap.size + 1, 1, none⟩) (by show w.heap.size ≤ w.heap.size + 1; omega) _)
end Go.Proofs.YtmanlnlhpgdbpaaGreat
/- The helpers of the laws: comparisons. -/
namespace Go.Proofs.YtmanlnlhpgdbpaaGreat
open Go.RowKit
attribute [local go_sem ↓] Go.wp_at_zero Go.wp_at_succ

set_option maxRecDepth 100000 in
set_option maxHeartbeats 4000000 in
theorem eqRdn_at  (w0 : World) (a0 : ByteArray) (a1 : ByteArray)   (w : World) (hB : Below w0.heap.size w0 w)    :
    Calls Tryz.prog 49 #[.agg #[.string a0, .string a1], .agg #[.string a0, .string a1]] w fun e w' => e = .returned (.bool true) ∧ Below w0.heap.size w0 w' := by
  have hk0 : (a0.toList == a0.toList) = true := by simp
  have hk1 : (a1.toList == a1.toList) = true := by simp
  have HB := Lib.hid hB
  clear hB
  go_enter Tryz.func49, Tryz.ntmps49
  go_wp2
  go_ret
  exact ⟨rfl, more' (more' HB.out _) _⟩
set_option maxRecDepth 100000 in
set_option maxHeartbeats 4000000 in
theorem eqRdnS_at {S S' : Bs} (v u : Value) (d : List RdnT) (w : World) (hd : SlAt rdnE S w d v) (hu : SlAt rdnE S' w d u) (hz : d.length + szL rdnE d ≤ 1048576) :
    Calls Tryz.prog 19 #[v, u] w fun e w' => e = .returned (.bool true) ∧ Below w.heap.size w w' := by
  obtain ⟨ao, ca, rfl⟩ := hd.sl
  obtain ⟨bo, cb, rfl⟩ := hu.sl
  have HA := Lib.hid hd; have HB := Lib.hid hu; clear hd hu
  have HL := Lib.hid hz
  have hl : d.length ≤ 1048576 := by omega
  clear hz
  go_enter Tryz.func19, Tryz.ntmps19
  go_wp2
  go_loopw [5] (fun i wr => ∃ k : Nat, k ≤ d.length ∧ i = .int .i64 k ∧ Below w.heap.size w wr) (fun i _ => d.length - (intOf i).toNat)
  case atStart => exact ⟨0, Nat.zero_le _, rfl, Below.refl _ _⟩
  case round =>
    obtain ⟨k, hk, rfl, hbel⟩ := hrel
    have hsz := hbel.size
    by_cases hlt : k < d.length
    · obtain ⟨p, off, a0, a1, rfl, _, hp0, hx, hc, _⟩ := rdn_row (HA.out.frame (Same.of_below' hbel)) hlt
      obtain ⟨q, off', x0, x1, rfl, _, hq0, hx', hd, _⟩ := rdn_row (HB.out.frame (Same.of_below' hbel)) hlt
      have hxx := hx.symm.trans hx'
      simp only [Prod.mk.injEq] at hxx
      obtain ⟨rfl, rfl⟩ := hxx
      have HZ : Hid (rdnE.sz (a0, a1) ≤ 1048576) := Lib.hid (by have h1 := szL_mem rdnE (List.getElem_mem hlt); rw [hx] at h1; have := HL.out; omega)
      clear hx hx'
      have C : Hid (∀ W : World, Below wr.heap.size wr W → Calls Tryz.prog 49 #[.agg #[.string a0, .string a1], .agg #[.string a0, .string a1]] W fun e w' => e = .returned (.bool true) ∧ Below wr.heap.size wr w') := Lib.hid (fun W b => eqRdn_at wr a0 a1 W b   )
      have SK : Hid (∀ W : World, Below wr.heap.size wr W → (Below wr.heap.size wr W ∧ (W.cell? ⟨p, off + k * 2, none⟩ = some (.string a0) ∧ W.cell? ⟨p, off + k * 2 + 1, none⟩ = some (.string a1)) ∧ (W.cell? ⟨q, off' + k * 2, none⟩ = some (.string a0) ∧ W.cell? ⟨q, off' + k * 2 + 1, none⟩ = some (.string a1)))) :=
        Lib.hid (fun W h => ⟨h, ⟨(h.cell (p := ⟨p, _, none⟩) hp0).trans hc.1, (h.cell (p := ⟨p, _, none⟩) hp0).trans hc.2⟩, ⟨(h.cell (p := ⟨q, _, none⟩) hq0).trans hd.1, (h.cell (p := ⟨q, _, none⟩) hq0).trans hd.2⟩⟩)
      have hbd : Below wr.heap.size wr wr.drew := (Below.refl _ _).drew
      have hb0 : Below wr.heap.size wr wr := Below.refl _ _
      have HBl := Lib.hid hbel
      clear hc hd hbel
      have g1 : (0 : Int) ≤ (k : Int) := by omega
      have g2 : (k : Int) < (d.length : Int) := by omega
      go_wp2_with fail
      go_region_held3 (fun W => Below wr.heap.size wr W ∧ (W.cell? ⟨p, off + k * 2, none⟩ = some (.string a0) ∧ W.cell? ⟨p, off + k * 2 + 1, none⟩ = some (.string a1)) ∧ (W.cell? ⟨q, off' + k * 2, none⟩ = some (.string a0) ∧ W.cell? ⟨q, off' + k * 2 + 1, none⟩ = some (.string a1)))
        (exact SK.out _ (by assumption))
        (first | (go_at_call 49; refine (C.out _ (by assumption)).mono ?_; rintro e w2 ⟨rfl, hb2⟩) | (fail "none"))
      all_goals
        go_wp2
        go_roundw
        case rel => exact ⟨k + 1, by omega, by go_num, HBl.out.trans (hb2.mono HBl.out.size)⟩
        case measure => simp [intOf]; omega
    · go_wp2
      go_ret
      exact ⟨rfl, hbel⟩
end Go.Proofs.YtmanlnlhpgdbpaaGreat
