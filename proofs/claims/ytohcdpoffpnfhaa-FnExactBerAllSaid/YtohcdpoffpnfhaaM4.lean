/- Merged texts: BerG, BerH, BerA0, BerA. -/
import Derived.Test.YtohcdpoffpnfhaaM1
import Derived.Test.YtohcdpoffpnfhaaM3
import Derived.Test.YtohcdpoffpnfhaaM2
/- BER: reading a length: what the program returns. -/
namespace Go.Proofs.Ytohcdpoffpnfhaa
open Go.RowKit
attribute [local go_sem ↓] Go.wp_at_zero Go.wp_at_succ

def lenAgg (r : Int × Nat × Nat) : Ending := .returned (.agg #[.int .i64 (r.2.1 : Int), .int .i64 (r.2.2 : Int), .int .i64 r.1])
set_option maxRecDepth 100000 in
set_option maxHeartbeats 2000000 in
theorem getLen_end (t : ByteArray) (k : Nat) (w : World) (ht : t.size ≤ 8000) (hk : k ≤ 8001) (h : ¬ k < t.size) :
    Calls Try.prog 37 #[.string t, .int .i64 (k : Int)] w fun e w' => e = lenAgg (lenR t k) ∧ Below w.heap.size w w' := by
  have HR := Lib.hid (lenR_end h)
  have h' : (t.size : Int) ≤ (k : Int) := by omega
  clear h
  go_enter Try.func37, Try.ntmps37
  go_wp2
  exact bodyPost_ret (v := .agg #[.int .i64 0, .int .i64 0, .int .i64 4]) (by simp [results, Try.results37, go_sem]) rfl ⟨by first | (rw [HR.out]; done) | (rw [HR.out]; rfl), more' (Below.refl _ _) _⟩
set_option maxRecDepth 100000 in
set_option maxHeartbeats 2000000 in
theorem getLen_1 (t : ByteArray) (k : Nat) (w : World) (ht : t.size ≤ 8000) (hk : k ≤ 8001) (h : k < t.size) (h1 : t[k].toNat < 128) :
    Calls Try.prog 37 #[.string t, .int .i64 (k : Int)] w fun e w' => e = lenAgg (lenR t k) ∧ Below w.heap.size w w' := by
  have HR := Lib.hid (lenR_1 h h1)
  have HC := cmp_1 t k h h1
  have g0 : (k : Int) < (t.size : Int) := by omega
  have c1 := t[k].toNat_lt
  have g1 : ((t[k].toNat : Int) == 128) = false := by rw [beq_eq_false_iff_ne]; omega
  have g3 : decide ((4000 : Int) < (t[k].toNat : Int)) = false := decide_eq_false (by omega)
  have s1 : (0 : Int) ≤ (k : Int) + 1 := by omega
  have s2 : (k : Int) ≤ (k : Int) + 1 := by omega
  have s3 : (k : Int) + 1 ≤ (t.size : Int) := by omega
  have s4 : ((k : Int) + 1).toNat = k + 1 := by omega
  have CL := Lib.hid (fun W => lengthBytes_any t[k].toNat W (by omega))
  go_enter Try.func37, Try.ntmps37
  go_wp2_with fail
  refine wp_world (fun W => Below w.heap.size w W ∧ Blk W w.heap.size [.int .i64 0, .int .i64 0, .int .i64 0]) ⟨more' (Below.refl _ _) _, Blk.new _ _ _⟩ ?_
  rintro W1 ⟨b1, t1⟩
  have T1 := Lib.hid t1; clear t1
  have SK : Hid (∀ Z' : World, Below W1.heap.size W1 Z' → Below W1.heap.size W1 Z') := Lib.hid (fun Z' h => h)
  have BD : Below W1.heap.size W1 W1.drew := (Below.refl _ _).drew
  refine wp_region_held_drew (S := (fun Z' => Below W1.heap.size W1 Z')) (by kernel_rfl) ?_ (fun hHeld => ?_)
  · (try dsimp only)
    first | exact SK.out _ (by assumption) | exact SK.out _ BD | exact SK.out _ (more' (by assumption) _) | exact SK.out _ (more' BD _)
  refine wpAnyH_take (i := 0) (oi := { dst := some 55, op := Op.move (Operand.tmp 5), type := 2, pos := "l09_ber.go:80", after := #[], guard := none }) (v := ?_) rfl (by kernel_rfl) (by kernel_rfl) (by kernel_rfl) (fun _ _ _ h => h) (Or.inl ⟨by rfl, ?_⟩) (by assumption) ?_
  rotate_left
  · intro w hSw; (try dsimp only at hSw); go_simp; (try with_reducible rfl)
  (try simp only [Act.put, List.setIfInBounds_toArray, List.set_cons_zero, List.set_cons_succ])
  refine wpAnyH_take (i := 1) (oi := { dst := some 56, op := Op.binOp BinOp.gtr 2 (Operand.tmp 55) (Operand.const (Value.int IntKind.i64 4000)) 2, type := 4, pos := "l09_ber.go:80", after := #[{ on := 0, ground := Ground.data }], guard := none }) (v := ?_) rfl (by kernel_rfl) (by kernel_rfl) (by kernel_rfl) (fun _ _ _ h => h) (Or.inl ⟨by rfl, ?_⟩) (by assumption) ?_
  rotate_left
  · intro w hSw; (try dsimp only at hSw); go_simp; (try with_reducible rfl)
  (try simp only [Act.put, List.setIfInBounds_toArray, List.set_cons_zero, List.set_cons_succ])
  refine wpAnyH_take (i := 2) (oi := { dst := some 57, op := Op.move (Operand.tmp 56), type := 4, pos := "l09_ber.go:80", after := #[{ on := 1, ground := Ground.data }], guard := none }) (v := ?_) rfl (by kernel_rfl) (by kernel_rfl) (by kernel_rfl) (fun _ _ _ h => h) (Or.inl ⟨by rfl, ?_⟩) (by assumption) ?_
  rotate_left
  · intro w hSw; (try dsimp only at hSw); go_simp; (try with_reducible rfl)
  (try simp only [Act.put, List.setIfInBounds_toArray, List.set_cons_zero, List.set_cons_succ])
  refine wpAnyH_take (i := 3) (oi := { dst := some 58, op := Op.move (Operand.tmp 0), type := 9, pos := "l09_ber.go:80", after := #[{ on := 2, ground := Ground.guard }], guard := some (2, false) }) (v := ?_) rfl (by kernel_rfl) (by kernel_rfl) (by kernel_rfl) (fun _ _ _ h => h) (Or.inl ⟨by rfl, ?_⟩) (by assumption) ?_
  rotate_left
  · intro w hSw; (try dsimp only at hSw); go_simp; (try with_reducible rfl)
  (try simp only [Act.put, List.setIfInBounds_toArray, List.set_cons_zero, List.set_cons_succ])
  refine wpAnyH_take (i := 4) (oi := { dst := some 59, op := Op.move (Operand.tmp 1), type := 2, pos := "l09_ber.go:80", after := #[{ on := 2, ground := Ground.guard }], guard := some (2, false) }) (v := ?_) rfl (by kernel_rfl) (by kernel_rfl) (by kernel_rfl) (fun _ _ _ h => h) (Or.inl ⟨by rfl, ?_⟩) (by assumption) ?_
  rotate_left
  · intro w hSw; (try dsimp only at hSw); go_simp; (try with_reducible rfl)
  (try simp only [Act.put, List.setIfInBounds_toArray, List.set_cons_zero, List.set_cons_succ])
  refine wpAnyH_take (i := 5) (oi := { dst := some 60, op := Op.move (Operand.tmp 8), type := 2, pos := "l09_ber.go:80", after := #[{ on := 2, ground := Ground.guard }], guard := some (2, false) }) (v := ?_) rfl (by kernel_rfl) (by kernel_rfl) (by kernel_rfl) (fun _ _ _ h => h) (Or.inl ⟨by rfl, ?_⟩) (by assumption) ?_
  rotate_left
  · intro w hSw; (try dsimp only at hSw); go_simp; (try with_reducible rfl)
  (try simp only [Act.put, List.setIfInBounds_toArray, List.set_cons_zero, List.set_cons_succ])
  refine wpAnyH_take (i := 6) (oi := { dst := some 61, op := Op.slice 9 (Operand.tmp 58) (some (Operand.tmp 59)) (some (Operand.tmp 60)) none, type := 9, pos := "l09_ber.go:80", after := #[{ on := 3, ground := Ground.data }, { on := 4, ground := Ground.data }, { on := 5, ground := Ground.data }, { on := 2, ground := Ground.guard }], guard := some (2, false) }) (v := ?_) rfl (by kernel_rfl) (by kernel_rfl) (by kernel_rfl) (fun _ _ _ h => h) (Or.inl ⟨by rfl, ?_⟩) (by assumption) ?_
  rotate_left
  · intro w hSw; (try dsimp only at hSw); go_simp; (try with_reducible rfl)
  (try simp only [Act.put, List.setIfInBounds_toArray, List.set_cons_zero, List.set_cons_succ])
  refine wpAnyH_take (i := 7) (oi := { dst := some 62, op := Op.move (Operand.tmp 5), type := 2, pos := "l09_ber.go:80", after := #[{ on := 2, ground := Ground.guard }], guard := some (2, false) }) (v := ?_) rfl (by kernel_rfl) (by kernel_rfl) (by kernel_rfl) (fun _ _ _ h => h) (Or.inl ⟨by rfl, ?_⟩) (by assumption) ?_
  rotate_left
  · intro w hSw; (try dsimp only at hSw); go_simp; (try with_reducible rfl)
  (try simp only [Act.put, List.setIfInBounds_toArray, List.set_cons_zero, List.set_cons_succ])
  refine wpAnyH_ready (rs := [8]) (by kernel_rfl) (by simp) ?_
  refine AllReadyH.cons (o := { dst := some 63, op := Op.call { callee := Callee.value (Operand.func 35), args := #[Operand.tmp 62], argTypes := #[2] }, type := 9, pos := "l09_ber.go:80", after := #[{ on := 7, ground := Ground.data }, { on := 2, ground := Ground.chain }, { on := 2, ground := Ground.guard }], guard := some (2, false) }) rfl (fun K hK => ?_) (AllReadyH.nil)
  go_simp
  refine (CL.out _).mono ?_
  rintro e w2 ⟨rfl, hb⟩
  have D2 : Below W1.heap.size W1 w2 := BD.trans (hb.mono BD.size)
  clear hb
  clear hHeld
  refine hK.out _ _ ?_ (fun hHeld => ?_)
  · (try dsimp only)
    first | exact SK.out _ (by assumption) | exact SK.out _ BD | exact SK.out _ (more' (by assumption) _) | exact SK.out _ (more' BD _)
  clear hK K
  (try simp only [Act.put, List.setIfInBounds_toArray, List.set_cons_zero, List.set_cons_succ])
  refine wpAnyH_take (i := 9) (oi := { dst := some 64, op := Op.binOp BinOp.neq 9 (Operand.tmp 61) (Operand.tmp 63) 9, type := 4, pos := "l09_ber.go:80", after := #[{ on := 6, ground := Ground.data }, { on := 8, ground := Ground.data }, { on := 2, ground := Ground.guard }], guard := some (2, false) }) (v := ?_) rfl (by kernel_rfl) (by kernel_rfl) (by kernel_rfl) (fun _ _ _ h => h) (Or.inl ⟨by rfl, ?_⟩) (by assumption) ?_
  rotate_left
  · intro w hSw; (try dsimp only at hSw); go_simp; (try with_reducible rfl)
  (try simp only [Act.put, List.setIfInBounds_toArray, List.set_cons_zero, List.set_cons_succ])
  refine wpAnyH_take (i := 10) (oi := { dst := some 65, op := Op.pick (Operand.tmp 57) (Operand.const (Value.bool true)) (Operand.tmp 64), type := 4, pos := "l09_ber.go:80", after := #[{ on := 2, ground := Ground.data }, { on := 9, ground := Ground.data }], guard := none }) (v := ?_) rfl (by kernel_rfl) (by kernel_rfl) (by kernel_rfl) (fun _ _ _ h => h) (Or.inl ⟨by rfl, ?_⟩) (by assumption) ?_
  rotate_left
  · intro w hSw; (try dsimp only at hSw); go_simp; (try with_reducible rfl)
  (try simp only [Act.put, List.setIfInBounds_toArray, List.set_cons_zero, List.set_cons_succ])
  refine wpAnyH_done (by kernel_rfl) ?_ _
  clear SK
  have B2 := b1.trans (D2.mono b1.size)
  have T2 := Lib.hid (T1.out.below D2)
  clear BD hHeld D2 T1
  have rf0 := T2.out.soft 0; have rz0 := T2.out.cell 0 rfl
  have rf1 := T2.out.soft 1; have rz1 := T2.out.cell 1 rfl
  have rf2 := T2.out.soft 2; have rz2 := T2.out.cell 2 rfl
  have TE := (((T2.out.set 0 (.int .i64 (t[k].toNat : Int))).set 1 (.int .i64 ((k : Int) + 1))).set 2 (.int .i64 0))
  have rj0 := TE.cell 0 rfl
  have rj1 := TE.cell 1 rfl
  have rj2 := TE.cell 2 rfl
  clear TE
  have BE := Lib.hid (((B2.setCell (p := ⟨w.heap.size, 0, none⟩) (by show w.heap.size ≤ w.heap.size; omega) (.int .i64 (t[k].toNat : Int))).setCell (p := ⟨w.heap.size, 1, none⟩) (by show w.heap.size ≤ w.heap.size; omega) (.int .i64 ((k : Int) + 1))).setCell (p := ⟨w.heap.size, 2, none⟩) (by show w.heap.size ≤ w.heap.size; omega) (.int .i64 0))
  go_wp2
  refine bodyPost_ret (v := .agg #[.int .i64 (t[k].toNat : Int), .int .i64 ((k : Int) + 1), .int .i64 0]) (by simp [results, Try.results37, go_sem, rj0, rj1, rj2]) rfl ?_
  exact ⟨by first | (rw [HR.out]; done) | (rw [HR.out]; rfl), BE.out⟩
set_option maxRecDepth 100000 in
set_option maxHeartbeats 2000000 in
theorem getLen_2bad (t : ByteArray) (k : Nat) (w : World) (ht : t.size ≤ 8000) (hk : k ≤ 8001) (h : k < t.size) (h1 : t[k].toNat = 129) (h2 : k + 1 < t.size) (h3 : t[k + 1].toNat < 128) :
    Calls Try.prog 37 #[.string t, .int .i64 (k : Int)] w fun e w' => e = lenAgg (lenR t k) ∧ Below w.heap.size w w' := by
  have HR := Lib.hid (lenR_2bad h h1 h2 h3)
  have HC := cmp_2bad t k h2 h3
  have g0 : (k : Int) < (t.size : Int) := by omega
  have c1 := t[k].toNat_lt
  have c2 := t[k + 1].toNat_lt
  have v0 : (t[k].toNat : Int) = 129 := by omega
  have g4 : (k : Int) + 1 < (t.size : Int) := by omega
  have g5 : (k : Int) + 2 ≤ (t.size : Int) := by omega
  have g3 : decide ((4000 : Int) < (t[k + 1].toNat : Int)) = false := decide_eq_false (by omega)
  have s1 : (0 : Int) ≤ (k : Int) + 1 + 1 := by omega
  have s2 : (k : Int) ≤ (k : Int) + 1 + 1 := by omega
  have s3 : (k : Int) + 1 + 1 ≤ (t.size : Int) := by omega
  have s4 : ((k : Int) + 1 + 1).toNat = k + 2 := by omega
  clear h1
  have CL := Lib.hid (fun W => lengthBytes_any t[k + 1].toNat W (by omega))
  go_enter Try.func37, Try.ntmps37
  go_wp2_with fail
  refine wp_world (fun W => Below w.heap.size w W ∧ Blk W w.heap.size [.int .i64 0, .int .i64 0, .int .i64 0]) ⟨more' (Below.refl _ _) _, Blk.new _ _ _⟩ ?_
  rintro W1 ⟨b1, t1⟩
  have T1 := Lib.hid t1; clear t1
  have SK : Hid (∀ Z' : World, Below W1.heap.size W1 Z' → Below W1.heap.size W1 Z') := Lib.hid (fun Z' h => h)
  have BD : Below W1.heap.size W1 W1.drew := (Below.refl _ _).drew
  refine wp_region_held_drew (S := (fun Z' => Below W1.heap.size W1 Z')) (by kernel_rfl) ?_ (fun hHeld => ?_)
  · (try dsimp only)
    first | exact SK.out _ (by assumption) | exact SK.out _ BD | exact SK.out _ (more' (by assumption) _) | exact SK.out _ (more' BD _)
  refine wpAnyH_take (i := 0) (oi := { dst := some 55, op := Op.move (Operand.tmp 5), type := 2, pos := "l09_ber.go:80", after := #[], guard := none }) (v := ?_) rfl (by kernel_rfl) (by kernel_rfl) (by kernel_rfl) (fun _ _ _ h => h) (Or.inl ⟨by rfl, ?_⟩) (by assumption) ?_
  rotate_left
  · intro w hSw; (try dsimp only at hSw); go_simp; (try with_reducible rfl)
  (try simp only [Act.put, List.setIfInBounds_toArray, List.set_cons_zero, List.set_cons_succ])
  refine wpAnyH_take (i := 1) (oi := { dst := some 56, op := Op.binOp BinOp.gtr 2 (Operand.tmp 55) (Operand.const (Value.int IntKind.i64 4000)) 2, type := 4, pos := "l09_ber.go:80", after := #[{ on := 0, ground := Ground.data }], guard := none }) (v := ?_) rfl (by kernel_rfl) (by kernel_rfl) (by kernel_rfl) (fun _ _ _ h => h) (Or.inl ⟨by rfl, ?_⟩) (by assumption) ?_
  rotate_left
  · intro w hSw; (try dsimp only at hSw); go_simp; (try with_reducible rfl)
  (try simp only [Act.put, List.setIfInBounds_toArray, List.set_cons_zero, List.set_cons_succ])
  refine wpAnyH_take (i := 2) (oi := { dst := some 57, op := Op.move (Operand.tmp 56), type := 4, pos := "l09_ber.go:80", after := #[{ on := 1, ground := Ground.data }], guard := none }) (v := ?_) rfl (by kernel_rfl) (by kernel_rfl) (by kernel_rfl) (fun _ _ _ h => h) (Or.inl ⟨by rfl, ?_⟩) (by assumption) ?_
  rotate_left
  · intro w hSw; (try dsimp only at hSw); go_simp; (try with_reducible rfl)
  (try simp only [Act.put, List.setIfInBounds_toArray, List.set_cons_zero, List.set_cons_succ])
  refine wpAnyH_take (i := 3) (oi := { dst := some 58, op := Op.move (Operand.tmp 0), type := 9, pos := "l09_ber.go:80", after := #[{ on := 2, ground := Ground.guard }], guard := some (2, false) }) (v := ?_) rfl (by kernel_rfl) (by kernel_rfl) (by kernel_rfl) (fun _ _ _ h => h) (Or.inl ⟨by rfl, ?_⟩) (by assumption) ?_
  rotate_left
  · intro w hSw; (try dsimp only at hSw); go_simp; (try with_reducible rfl)
  (try simp only [Act.put, List.setIfInBounds_toArray, List.set_cons_zero, List.set_cons_succ])
  refine wpAnyH_take (i := 4) (oi := { dst := some 59, op := Op.move (Operand.tmp 1), type := 2, pos := "l09_ber.go:80", after := #[{ on := 2, ground := Ground.guard }], guard := some (2, false) }) (v := ?_) rfl (by kernel_rfl) (by kernel_rfl) (by kernel_rfl) (fun _ _ _ h => h) (Or.inl ⟨by rfl, ?_⟩) (by assumption) ?_
  rotate_left
  · intro w hSw; (try dsimp only at hSw); go_simp; (try with_reducible rfl)
  (try simp only [Act.put, List.setIfInBounds_toArray, List.set_cons_zero, List.set_cons_succ])
  refine wpAnyH_take (i := 5) (oi := { dst := some 60, op := Op.move (Operand.tmp 8), type := 2, pos := "l09_ber.go:80", after := #[{ on := 2, ground := Ground.guard }], guard := some (2, false) }) (v := ?_) rfl (by kernel_rfl) (by kernel_rfl) (by kernel_rfl) (fun _ _ _ h => h) (Or.inl ⟨by rfl, ?_⟩) (by assumption) ?_
  rotate_left
  · intro w hSw; (try dsimp only at hSw); go_simp; (try with_reducible rfl)
  (try simp only [Act.put, List.setIfInBounds_toArray, List.set_cons_zero, List.set_cons_succ])
  refine wpAnyH_take (i := 6) (oi := { dst := some 61, op := Op.slice 9 (Operand.tmp 58) (some (Operand.tmp 59)) (some (Operand.tmp 60)) none, type := 9, pos := "l09_ber.go:80", after := #[{ on := 3, ground := Ground.data }, { on := 4, ground := Ground.data }, { on := 5, ground := Ground.data }, { on := 2, ground := Ground.guard }], guard := some (2, false) }) (v := ?_) rfl (by kernel_rfl) (by kernel_rfl) (by kernel_rfl) (fun _ _ _ h => h) (Or.inl ⟨by rfl, ?_⟩) (by assumption) ?_
  rotate_left
  · intro w hSw; (try dsimp only at hSw); go_simp; (try with_reducible rfl)
  (try simp only [Act.put, List.setIfInBounds_toArray, List.set_cons_zero, List.set_cons_succ])
  refine wpAnyH_take (i := 7) (oi := { dst := some 62, op := Op.move (Operand.tmp 5), type := 2, pos := "l09_ber.go:80", after := #[{ on := 2, ground := Ground.guard }], guard := some (2, false) }) (v := ?_) rfl (by kernel_rfl) (by kernel_rfl) (by kernel_rfl) (fun _ _ _ h => h) (Or.inl ⟨by rfl, ?_⟩) (by assumption) ?_
  rotate_left
  · intro w hSw; (try dsimp only at hSw); go_simp; (try with_reducible rfl)
  (try simp only [Act.put, List.setIfInBounds_toArray, List.set_cons_zero, List.set_cons_succ])
  refine wpAnyH_ready (rs := [8]) (by kernel_rfl) (by simp) ?_
  refine AllReadyH.cons (o := { dst := some 63, op := Op.call { callee := Callee.value (Operand.func 35), args := #[Operand.tmp 62], argTypes := #[2] }, type := 9, pos := "l09_ber.go:80", after := #[{ on := 7, ground := Ground.data }, { on := 2, ground := Ground.chain }, { on := 2, ground := Ground.guard }], guard := some (2, false) }) rfl (fun K hK => ?_) (AllReadyH.nil)
  go_simp
  refine (CL.out _).mono ?_
  rintro e w2 ⟨rfl, hb⟩
  have D2 : Below W1.heap.size W1 w2 := BD.trans (hb.mono BD.size)
  clear hb
  clear hHeld
  refine hK.out _ _ ?_ (fun hHeld => ?_)
  · (try dsimp only)
    first | exact SK.out _ (by assumption) | exact SK.out _ BD | exact SK.out _ (more' (by assumption) _) | exact SK.out _ (more' BD _)
  clear hK K
  (try simp only [Act.put, List.setIfInBounds_toArray, List.set_cons_zero, List.set_cons_succ])
  refine wpAnyH_take (i := 9) (oi := { dst := some 64, op := Op.binOp BinOp.neq 9 (Operand.tmp 61) (Operand.tmp 63) 9, type := 4, pos := "l09_ber.go:80", after := #[{ on := 6, ground := Ground.data }, { on := 8, ground := Ground.data }, { on := 2, ground := Ground.guard }], guard := some (2, false) }) (v := ?_) rfl (by kernel_rfl) (by kernel_rfl) (by kernel_rfl) (fun _ _ _ h => h) (Or.inl ⟨by rfl, ?_⟩) (by assumption) ?_
  rotate_left
  · intro w hSw; (try dsimp only at hSw); go_simp; (try with_reducible rfl)
  (try simp only [Act.put, List.setIfInBounds_toArray, List.set_cons_zero, List.set_cons_succ])
  refine wpAnyH_take (i := 10) (oi := { dst := some 65, op := Op.pick (Operand.tmp 57) (Operand.const (Value.bool true)) (Operand.tmp 64), type := 4, pos := "l09_ber.go:80", after := #[{ on := 2, ground := Ground.data }, { on := 9, ground := Ground.data }], guard := none }) (v := ?_) rfl (by kernel_rfl) (by kernel_rfl) (by kernel_rfl) (fun _ _ _ h => h) (Or.inl ⟨by rfl, ?_⟩) (by assumption) ?_
  rotate_left
  · intro w hSw; (try dsimp only at hSw); go_simp; (try with_reducible rfl)
  (try simp only [Act.put, List.setIfInBounds_toArray, List.set_cons_zero, List.set_cons_succ])
  refine wpAnyH_done (by kernel_rfl) ?_ _
  clear SK
  have B2 := b1.trans (D2.mono b1.size)
  have T2 := Lib.hid (T1.out.below D2)
  clear BD hHeld D2 T1
  have rf0 := T2.out.soft 0; have rz0 := T2.out.cell 0 rfl
  have rf1 := T2.out.soft 1; have rz1 := T2.out.cell 1 rfl
  have rf2 := T2.out.soft 2; have rz2 := T2.out.cell 2 rfl
  have TE := (((T2.out.set 0 (.int .i64 0)).set 1 (.int .i64 0)).set 2 (.int .i64 3))
  have rj0 := TE.cell 0 rfl
  have rj1 := TE.cell 1 rfl
  have rj2 := TE.cell 2 rfl
  clear TE
  have BE := Lib.hid (((B2.setCell (p := ⟨w.heap.size, 0, none⟩) (by show w.heap.size ≤ w.heap.size; omega) (.int .i64 0)).setCell (p := ⟨w.heap.size, 1, none⟩) (by show w.heap.size ≤ w.heap.size; omega) (.int .i64 0)).setCell (p := ⟨w.heap.size, 2, none⟩) (by show w.heap.size ≤ w.heap.size; omega) (.int .i64 3))
  go_wp2
  refine bodyPost_ret (v := .agg #[.int .i64 0, .int .i64 0, .int .i64 3]) (by simp [results, Try.results37, go_sem, rj0, rj1, rj2]) rfl ?_
  exact ⟨by first | (rw [HR.out]; done) | (rw [HR.out]; rfl), BE.out⟩
set_option maxRecDepth 100000 in
set_option maxHeartbeats 2000000 in
theorem getLen_2ok (t : ByteArray) (k : Nat) (w : World) (ht : t.size ≤ 8000) (hk : k ≤ 8001) (h : k < t.size) (h1 : t[k].toNat = 129) (h2 : k + 1 < t.size) (h3 : ¬ t[k + 1].toNat < 128) :
    Calls Try.prog 37 #[.string t, .int .i64 (k : Int)] w fun e w' => e = lenAgg (lenR t k) ∧ Below w.heap.size w w' := by
  have HR := Lib.hid (lenR_2ok h h1 h2 h3)
  have HC := cmp_2 t k h2 h1 h3
  have g0 : (k : Int) < (t.size : Int) := by omega
  have c1 := t[k].toNat_lt
  have c2 := t[k + 1].toNat_lt
  have v0 : (t[k].toNat : Int) = 129 := by omega
  have g4 : (k : Int) + 1 < (t.size : Int) := by omega
  have g5 : (k : Int) + 2 ≤ (t.size : Int) := by omega
  have g3 : decide ((4000 : Int) < (t[k + 1].toNat : Int)) = false := decide_eq_false (by omega)
  have s1 : (0 : Int) ≤ (k : Int) + 1 + 1 := by omega
  have s2 : (k : Int) ≤ (k : Int) + 1 + 1 := by omega
  have s3 : (k : Int) + 1 + 1 ≤ (t.size : Int) := by omega
  have s4 : ((k : Int) + 1 + 1).toNat = k + 2 := by omega
  clear h1
  have CL := Lib.hid (fun W => lengthBytes_any t[k + 1].toNat W (by omega))
  go_enter Try.func37, Try.ntmps37
  go_wp2_with fail
  refine wp_world (fun W => Below w.heap.size w W ∧ Blk W w.heap.size [.int .i64 0, .int .i64 0, .int .i64 0]) ⟨more' (Below.refl _ _) _, Blk.new _ _ _⟩ ?_
  rintro W1 ⟨b1, t1⟩
  have T1 := Lib.hid t1; clear t1
  have SK : Hid (∀ Z' : World, Below W1.heap.size W1 Z' → Below W1.heap.size W1 Z') := Lib.hid (fun Z' h => h)
  have BD : Below W1.heap.size W1 W1.drew := (Below.refl _ _).drew
  refine wp_region_held_drew (S := (fun Z' => Below W1.heap.size W1 Z')) (by kernel_rfl) ?_ (fun hHeld => ?_)
  · (try dsimp only)
    first | exact SK.out _ (by assumption) | exact SK.out _ BD | exact SK.out _ (more' (by assumption) _) | exact SK.out _ (more' BD _)
  refine wpAnyH_take (i := 0) (oi := { dst := some 55, op := Op.move (Operand.tmp 5), type := 2, pos := "l09_ber.go:80", after := #[], guard := none }) (v := ?_) rfl (by kernel_rfl) (by kernel_rfl) (by kernel_rfl) (fun _ _ _ h => h) (Or.inl ⟨by rfl, ?_⟩) (by assumption) ?_
  rotate_left
  · intro w hSw; (try dsimp only at hSw); go_simp; (try with_reducible rfl)
  (try simp only [Act.put, List.setIfInBounds_toArray, List.set_cons_zero, List.set_cons_succ])
  refine wpAnyH_take (i := 1) (oi := { dst := some 56, op := Op.binOp BinOp.gtr 2 (Operand.tmp 55) (Operand.const (Value.int IntKind.i64 4000)) 2, type := 4, pos := "l09_ber.go:80", after := #[{ on := 0, ground := Ground.data }], guard := none }) (v := ?_) rfl (by kernel_rfl) (by kernel_rfl) (by kernel_rfl) (fun _ _ _ h => h) (Or.inl ⟨by rfl, ?_⟩) (by assumption) ?_
  rotate_left
  · intro w hSw; (try dsimp only at hSw); go_simp; (try with_reducible rfl)
  (try simp only [Act.put, List.setIfInBounds_toArray, List.set_cons_zero, List.set_cons_succ])
  refine wpAnyH_take (i := 2) (oi := { dst := some 57, op := Op.move (Operand.tmp 56), type := 4, pos := "l09_ber.go:80", after := #[{ on := 1, ground := Ground.data }], guard := none }) (v := ?_) rfl (by kernel_rfl) (by kernel_rfl) (by kernel_rfl) (fun _ _ _ h => h) (Or.inl ⟨by rfl, ?_⟩) (by assumption) ?_
  rotate_left
  · intro w hSw; (try dsimp only at hSw); go_simp; (try with_reducible rfl)
  (try simp only [Act.put, List.setIfInBounds_toArray, List.set_cons_zero, List.set_cons_succ])
  refine wpAnyH_take (i := 3) (oi := { dst := some 58, op := Op.move (Operand.tmp 0), type := 9, pos := "l09_ber.go:80", after := #[{ on := 2, ground := Ground.guard }], guard := some (2, false) }) (v := ?_) rfl (by kernel_rfl) (by kernel_rfl) (by kernel_rfl) (fun _ _ _ h => h) (Or.inl ⟨by rfl, ?_⟩) (by assumption) ?_
  rotate_left
  · intro w hSw; (try dsimp only at hSw); go_simp; (try with_reducible rfl)
  (try simp only [Act.put, List.setIfInBounds_toArray, List.set_cons_zero, List.set_cons_succ])
  refine wpAnyH_take (i := 4) (oi := { dst := some 59, op := Op.move (Operand.tmp 1), type := 2, pos := "l09_ber.go:80", after := #[{ on := 2, ground := Ground.guard }], guard := some (2, false) }) (v := ?_) rfl (by kernel_rfl) (by kernel_rfl) (by kernel_rfl) (fun _ _ _ h => h) (Or.inl ⟨by rfl, ?_⟩) (by assumption) ?_
  rotate_left
  · intro w hSw; (try dsimp only at hSw); go_simp; (try with_reducible rfl)
  (try simp only [Act.put, List.setIfInBounds_toArray, List.set_cons_zero, List.set_cons_succ])
  refine wpAnyH_take (i := 5) (oi := { dst := some 60, op := Op.move (Operand.tmp 8), type := 2, pos := "l09_ber.go:80", after := #[{ on := 2, ground := Ground.guard }], guard := some (2, false) }) (v := ?_) rfl (by kernel_rfl) (by kernel_rfl) (by kernel_rfl) (fun _ _ _ h => h) (Or.inl ⟨by rfl, ?_⟩) (by assumption) ?_
  rotate_left
  · intro w hSw; (try dsimp only at hSw); go_simp; (try with_reducible rfl)
  (try simp only [Act.put, List.setIfInBounds_toArray, List.set_cons_zero, List.set_cons_succ])
  refine wpAnyH_take (i := 6) (oi := { dst := some 61, op := Op.slice 9 (Operand.tmp 58) (some (Operand.tmp 59)) (some (Operand.tmp 60)) none, type := 9, pos := "l09_ber.go:80", after := #[{ on := 3, ground := Ground.data }, { on := 4, ground := Ground.data }, { on := 5, ground := Ground.data }, { on := 2, ground := Ground.guard }], guard := some (2, false) }) (v := ?_) rfl (by kernel_rfl) (by kernel_rfl) (by kernel_rfl) (fun _ _ _ h => h) (Or.inl ⟨by rfl, ?_⟩) (by assumption) ?_
  rotate_left
  · intro w hSw; (try dsimp only at hSw); go_simp; (try with_reducible rfl)
  (try simp only [Act.put, List.setIfInBounds_toArray, List.set_cons_zero, List.set_cons_succ])
  refine wpAnyH_take (i := 7) (oi := { dst := some 62, op := Op.move (Operand.tmp 5), type := 2, pos := "l09_ber.go:80", after := #[{ on := 2, ground := Ground.guard }], guard := some (2, false) }) (v := ?_) rfl (by kernel_rfl) (by kernel_rfl) (by kernel_rfl) (fun _ _ _ h => h) (Or.inl ⟨by rfl, ?_⟩) (by assumption) ?_
  rotate_left
  · intro w hSw; (try dsimp only at hSw); go_simp; (try with_reducible rfl)
  (try simp only [Act.put, List.setIfInBounds_toArray, List.set_cons_zero, List.set_cons_succ])
  refine wpAnyH_ready (rs := [8]) (by kernel_rfl) (by simp) ?_
  refine AllReadyH.cons (o := { dst := some 63, op := Op.call { callee := Callee.value (Operand.func 35), args := #[Operand.tmp 62], argTypes := #[2] }, type := 9, pos := "l09_ber.go:80", after := #[{ on := 7, ground := Ground.data }, { on := 2, ground := Ground.chain }, { on := 2, ground := Ground.guard }], guard := some (2, false) }) rfl (fun K hK => ?_) (AllReadyH.nil)
  go_simp
  refine (CL.out _).mono ?_
  rintro e w2 ⟨rfl, hb⟩
  have D2 : Below W1.heap.size W1 w2 := BD.trans (hb.mono BD.size)
  clear hb
  clear hHeld
  refine hK.out _ _ ?_ (fun hHeld => ?_)
  · (try dsimp only)
    first | exact SK.out _ (by assumption) | exact SK.out _ BD | exact SK.out _ (more' (by assumption) _) | exact SK.out _ (more' BD _)
  clear hK K
  (try simp only [Act.put, List.setIfInBounds_toArray, List.set_cons_zero, List.set_cons_succ])
  refine wpAnyH_take (i := 9) (oi := { dst := some 64, op := Op.binOp BinOp.neq 9 (Operand.tmp 61) (Operand.tmp 63) 9, type := 4, pos := "l09_ber.go:80", after := #[{ on := 6, ground := Ground.data }, { on := 8, ground := Ground.data }, { on := 2, ground := Ground.guard }], guard := some (2, false) }) (v := ?_) rfl (by kernel_rfl) (by kernel_rfl) (by kernel_rfl) (fun _ _ _ h => h) (Or.inl ⟨by rfl, ?_⟩) (by assumption) ?_
  rotate_left
  · intro w hSw; (try dsimp only at hSw); go_simp; (try with_reducible rfl)
  (try simp only [Act.put, List.setIfInBounds_toArray, List.set_cons_zero, List.set_cons_succ])
  refine wpAnyH_take (i := 10) (oi := { dst := some 65, op := Op.pick (Operand.tmp 57) (Operand.const (Value.bool true)) (Operand.tmp 64), type := 4, pos := "l09_ber.go:80", after := #[{ on := 2, ground := Ground.data }, { on := 9, ground := Ground.data }], guard := none }) (v := ?_) rfl (by kernel_rfl) (by kernel_rfl) (by kernel_rfl) (fun _ _ _ h => h) (Or.inl ⟨by rfl, ?_⟩) (by assumption) ?_
  rotate_left
  · intro w hSw; (try dsimp only at hSw); go_simp; (try with_reducible rfl)
  (try simp only [Act.put, List.setIfInBounds_toArray, List.set_cons_zero, List.set_cons_succ])
  refine wpAnyH_done (by kernel_rfl) ?_ _
  clear SK
  have B2 := b1.trans (D2.mono b1.size)
  have T2 := Lib.hid (T1.out.below D2)
  clear BD hHeld D2 T1
  have rf0 := T2.out.soft 0; have rz0 := T2.out.cell 0 rfl
  have rf1 := T2.out.soft 1; have rz1 := T2.out.cell 1 rfl
  have rf2 := T2.out.soft 2; have rz2 := T2.out.cell 2 rfl
  have TE := (((T2.out.set 0 (.int .i64 (t[k + 1].toNat : Int))).set 1 (.int .i64 ((k : Int) + 1 + 1))).set 2 (.int .i64 0))
  have rj0 := TE.cell 0 rfl
  have rj1 := TE.cell 1 rfl
  have rj2 := TE.cell 2 rfl
  clear TE
  have BE := Lib.hid (((B2.setCell (p := ⟨w.heap.size, 0, none⟩) (by show w.heap.size ≤ w.heap.size; omega) (.int .i64 (t[k + 1].toNat : Int))).setCell (p := ⟨w.heap.size, 1, none⟩) (by show w.heap.size ≤ w.heap.size; omega) (.int .i64 ((k : Int) + 1 + 1))).setCell (p := ⟨w.heap.size, 2, none⟩) (by show w.heap.size ≤ w.heap.size; omega) (.int .i64 0))
  go_wp2
  refine bodyPost_ret (v := .agg #[.int .i64 (t[k + 1].toNat : Int), .int .i64 ((k : Int) + 1 + 1), .int .i64 0]) (by simp [results, Try.results37, go_sem, rj0, rj1, rj2]) rfl ?_
  exact ⟨by first | (rw [HR.out]; done) | (rw [HR.out]; rfl), BE.out⟩
set_option maxRecDepth 100000 in
set_option maxHeartbeats 2000000 in
theorem getLen_2short (t : ByteArray) (k : Nat) (w : World) (ht : t.size ≤ 8000) (hk : k ≤ 8001) (h : k < t.size) (h1 : t[k].toNat = 129) (h2 : ¬ k + 1 < t.size) :
    Calls Try.prog 37 #[.string t, .int .i64 (k : Int)] w fun e w' => e = lenAgg (lenR t k) ∧ Below w.heap.size w w' := by
  have HR := Lib.hid (lenR_2short h h1 h2)
  have g0 : (k : Int) < (t.size : Int) := by omega
  have c1 := t[k].toNat_lt
  have v0 : (t[k].toNat : Int) = 129 := by omega
  have g5 : (t.size : Int) < (k : Int) + 2 := by omega
  clear h1
  go_enter Try.func37, Try.ntmps37
  go_wp2
  exact bodyPost_ret (v := .agg #[.int .i64 0, .int .i64 0, .int .i64 4]) (by simp [results, Try.results37, go_sem]) rfl ⟨by first | (rw [HR.out]; done) | (rw [HR.out]; rfl), more' (Below.refl _ _) _⟩
set_option maxRecDepth 100000 in
set_option maxHeartbeats 2000000 in
theorem getLen_3big (t : ByteArray) (k : Nat) (w : World) (ht : t.size ≤ 8000) (hk : k ≤ 8001) (h : k < t.size) (h1 : t[k].toNat = 130) (h2 : k + 2 < t.size) (h3 : 4000 < t[k + 1].toNat * 256 + t[k + 2].toNat) :
    Calls Try.prog 37 #[.string t, .int .i64 (k : Int)] w fun e w' => e = lenAgg (lenR t k) ∧ Below w.heap.size w w' := by
  have HR := Lib.hid (lenR_3bad h h1 h2 (.inr h3))
  have g0 : (k : Int) < (t.size : Int) := by omega
  have c1 := t[k].toNat_lt
  have c2 := t[k + 1].toNat_lt
  have c3 := t[k + 2].toNat_lt
  have v0 : (t[k].toNat : Int) = 130 := by omega
  have g4 : (k : Int) + 1 < (t.size : Int) := by omega
  have g5 : (k : Int) + 2 < (t.size : Int) := by omega
  have g6 : (k : Int) + 3 ≤ (t.size : Int) := by omega
  have vn : (t[k + 1].toNat : Int) * 256 + (t[k + 2].toNat : Int) = ((t[k + 1].toNat * 256 + t[k + 2].toNat : Nat) : Int) := by omega
  generalize t[k + 1].toNat * 256 + t[k + 2].toNat = q at *
  have h5' : decide ((4000 : Int) < (q : Int)) = true := decide_eq_true (by omega)
  clear h1
  go_enter Try.func37, Try.ntmps37
  go_wp2_with fail
  refine wp_world (fun W => Below w.heap.size w W ∧ Blk W w.heap.size [.int .i64 0, .int .i64 0, .int .i64 0]) ⟨more' (Below.refl _ _) _, Blk.new _ _ _⟩ ?_
  rintro W1 ⟨b1, t1⟩
  have T1 := Lib.hid t1; clear t1
  have SK : Hid (∀ Z' : World, Below W1.heap.size W1 Z' → Below W1.heap.size W1 Z') := Lib.hid (fun Z' h => h)
  have BD : Below W1.heap.size W1 W1.drew := (Below.refl _ _).drew
  refine wp_region_held_drew (S := (fun Z' => Below W1.heap.size W1 Z')) (by kernel_rfl) ?_ (fun hHeld => ?_)
  · (try dsimp only)
    first | exact SK.out _ (by assumption) | exact SK.out _ BD | exact SK.out _ (more' (by assumption) _) | exact SK.out _ (more' BD _)
  refine wpAnyH_take (i := 0) (oi := { dst := some 55, op := Op.move (Operand.tmp 5), type := 2, pos := "l09_ber.go:80", after := #[], guard := none }) (v := ?_) rfl (by kernel_rfl) (by kernel_rfl) (by kernel_rfl) (fun _ _ _ h => h) (Or.inl ⟨by rfl, ?_⟩) (by assumption) ?_
  rotate_left
  · intro w hSw; (try dsimp only at hSw); go_simp; (try with_reducible rfl)
  (try simp only [Act.put, List.setIfInBounds_toArray, List.set_cons_zero, List.set_cons_succ])
  refine wpAnyH_take (i := 1) (oi := { dst := some 56, op := Op.binOp BinOp.gtr 2 (Operand.tmp 55) (Operand.const (Value.int IntKind.i64 4000)) 2, type := 4, pos := "l09_ber.go:80", after := #[{ on := 0, ground := Ground.data }], guard := none }) (v := ?_) rfl (by kernel_rfl) (by kernel_rfl) (by kernel_rfl) (fun _ _ _ h => h) (Or.inl ⟨by rfl, ?_⟩) (by assumption) ?_
  rotate_left
  · intro w hSw; (try dsimp only at hSw); go_simp; (try with_reducible rfl)
  (try simp only [Act.put, List.setIfInBounds_toArray, List.set_cons_zero, List.set_cons_succ])
  refine wpAnyH_take (i := 2) (oi := { dst := some 57, op := Op.move (Operand.tmp 56), type := 4, pos := "l09_ber.go:80", after := #[{ on := 1, ground := Ground.data }], guard := none }) (v := ?_) rfl (by kernel_rfl) (by kernel_rfl) (by kernel_rfl) (fun _ _ _ h => h) (Or.inl ⟨by rfl, ?_⟩) (by assumption) ?_
  rotate_left
  · intro w hSw; (try dsimp only at hSw); go_simp; (try with_reducible rfl)
  (try simp only [Act.put, List.setIfInBounds_toArray, List.set_cons_zero, List.set_cons_succ])
  refine wpAnyH_take (i := 3) (oi := { dst := some 58, op := Op.move (Operand.tmp 0), type := 9, pos := "l09_ber.go:80", after := #[{ on := 2, ground := Ground.guard }], guard := some (2, false) }) (v := undef) rfl (by kernel_rfl) (by kernel_rfl) (by kernel_rfl) (fun _ _ _ h => h) (Or.inr ⟨by rfl, rfl⟩) (by assumption) ?_
  (try simp only [Act.put, List.setIfInBounds_toArray, List.set_cons_zero, List.set_cons_succ])
  refine wpAnyH_take (i := 4) (oi := { dst := some 59, op := Op.move (Operand.tmp 1), type := 2, pos := "l09_ber.go:80", after := #[{ on := 2, ground := Ground.guard }], guard := some (2, false) }) (v := undef) rfl (by kernel_rfl) (by kernel_rfl) (by kernel_rfl) (fun _ _ _ h => h) (Or.inr ⟨by rfl, rfl⟩) (by assumption) ?_
  (try simp only [Act.put, List.setIfInBounds_toArray, List.set_cons_zero, List.set_cons_succ])
  refine wpAnyH_take (i := 5) (oi := { dst := some 60, op := Op.move (Operand.tmp 8), type := 2, pos := "l09_ber.go:80", after := #[{ on := 2, ground := Ground.guard }], guard := some (2, false) }) (v := undef) rfl (by kernel_rfl) (by kernel_rfl) (by kernel_rfl) (fun _ _ _ h => h) (Or.inr ⟨by rfl, rfl⟩) (by assumption) ?_
  (try simp only [Act.put, List.setIfInBounds_toArray, List.set_cons_zero, List.set_cons_succ])
  refine wpAnyH_take (i := 6) (oi := { dst := some 61, op := Op.slice 9 (Operand.tmp 58) (some (Operand.tmp 59)) (some (Operand.tmp 60)) none, type := 9, pos := "l09_ber.go:80", after := #[{ on := 3, ground := Ground.data }, { on := 4, ground := Ground.data }, { on := 5, ground := Ground.data }, { on := 2, ground := Ground.guard }], guard := some (2, false) }) (v := undef) rfl (by kernel_rfl) (by kernel_rfl) (by kernel_rfl) (fun _ _ _ h => h) (Or.inr ⟨by rfl, rfl⟩) (by assumption) ?_
  (try simp only [Act.put, List.setIfInBounds_toArray, List.set_cons_zero, List.set_cons_succ])
  refine wpAnyH_take (i := 7) (oi := { dst := some 62, op := Op.move (Operand.tmp 5), type := 2, pos := "l09_ber.go:80", after := #[{ on := 2, ground := Ground.guard }], guard := some (2, false) }) (v := undef) rfl (by kernel_rfl) (by kernel_rfl) (by kernel_rfl) (fun _ _ _ h => h) (Or.inr ⟨by rfl, rfl⟩) (by assumption) ?_
  (try simp only [Act.put, List.setIfInBounds_toArray, List.set_cons_zero, List.set_cons_succ])
  refine wpAnyH_take (i := 8) (oi := { dst := some 63, op := Op.call { callee := Callee.value (Operand.func 35), args := #[Operand.tmp 62], argTypes := #[2] }, type := 9, pos := "l09_ber.go:80", after := #[{ on := 7, ground := Ground.data }, { on := 2, ground := Ground.chain }, { on := 2, ground := Ground.guard }], guard := some (2, false) }) (v := undef) rfl (by kernel_rfl) (by kernel_rfl) (by kernel_rfl) (fun _ _ _ h => h) (Or.inr ⟨by rfl, rfl⟩) (by assumption) ?_
  (try simp only [Act.put, List.setIfInBounds_toArray, List.set_cons_zero, List.set_cons_succ])
  refine wpAnyH_take (i := 9) (oi := { dst := some 64, op := Op.binOp BinOp.neq 9 (Operand.tmp 61) (Operand.tmp 63) 9, type := 4, pos := "l09_ber.go:80", after := #[{ on := 6, ground := Ground.data }, { on := 8, ground := Ground.data }, { on := 2, ground := Ground.guard }], guard := some (2, false) }) (v := undef) rfl (by kernel_rfl) (by kernel_rfl) (by kernel_rfl) (fun _ _ _ h => h) (Or.inr ⟨by rfl, rfl⟩) (by assumption) ?_
  (try simp only [Act.put, List.setIfInBounds_toArray, List.set_cons_zero, List.set_cons_succ])
  refine wpAnyH_take (i := 10) (oi := { dst := some 65, op := Op.pick (Operand.tmp 57) (Operand.const (Value.bool true)) (Operand.tmp 64), type := 4, pos := "l09_ber.go:80", after := #[{ on := 2, ground := Ground.data }, { on := 9, ground := Ground.data }], guard := none }) (v := ?_) rfl (by kernel_rfl) (by kernel_rfl) (by kernel_rfl) (fun _ _ _ h => h) (Or.inl ⟨by rfl, ?_⟩) (by assumption) ?_
  rotate_left
  · intro w hSw; (try dsimp only at hSw); go_simp; (try with_reducible rfl)
  (try simp only [Act.put, List.setIfInBounds_toArray, List.set_cons_zero, List.set_cons_succ])
  refine wpAnyH_done (by kernel_rfl) ?_ _
  clear SK
  have D2 := BD; have D9 := BD; have T9 := T1.out.below BD
  have B2 := b1.trans (D2.mono b1.size)
  have T2 := Lib.hid (T1.out.below D2)
  clear BD hHeld D2 T1
  clear D9 T9
  generalize W1.drew = W2 at *
  have rf0 := T2.out.soft 0; have rz0 := T2.out.cell 0 rfl
  have rf1 := T2.out.soft 1; have rz1 := T2.out.cell 1 rfl
  have rf2 := T2.out.soft 2; have rz2 := T2.out.cell 2 rfl
  have TE := (((T2.out.set 0 (.int .i64 0)).set 1 (.int .i64 0)).set 2 (.int .i64 3))
  have rj0 := TE.cell 0 rfl
  have rj1 := TE.cell 1 rfl
  have rj2 := TE.cell 2 rfl
  clear TE
  have BE := Lib.hid (((B2.setCell (p := ⟨w.heap.size, 0, none⟩) (by show w.heap.size ≤ w.heap.size; omega) (.int .i64 0)).setCell (p := ⟨w.heap.size, 1, none⟩) (by show w.heap.size ≤ w.heap.size; omega) (.int .i64 0)).setCell (p := ⟨w.heap.size, 2, none⟩) (by show w.heap.size ≤ w.heap.size; omega) (.int .i64 3))
  go_wp2
  refine bodyPost_ret (v := .agg #[.int .i64 0, .int .i64 0, .int .i64 3]) (by simp [results, Try.results37, go_sem, rj0, rj1, rj2]) rfl ?_
  exact ⟨by first | (rw [HR.out]; done) | (rw [HR.out]; rfl), BE.out⟩
set_option maxRecDepth 100000 in
set_option maxHeartbeats 2000000 in
theorem getLen_3small (t : ByteArray) (k : Nat) (w : World) (ht : t.size ≤ 8000) (hk : k ≤ 8001) (h : k < t.size) (h1 : t[k].toNat = 130) (h2 : k + 2 < t.size) (h3 : t[k + 1].toNat * 256 + t[k + 2].toNat < 256) :
    Calls Try.prog 37 #[.string t, .int .i64 (k : Int)] w fun e w' => e = lenAgg (lenR t k) ∧ Below w.heap.size w w' := by
  have HR := Lib.hid (lenR_3bad h h1 h2 (.inl h3))
  have HC := cmp_3bad t k h2 h3
  have g0 : (k : Int) < (t.size : Int) := by omega
  have c1 := t[k].toNat_lt
  have c2 := t[k + 1].toNat_lt
  have c3 := t[k + 2].toNat_lt
  have v0 : (t[k].toNat : Int) = 130 := by omega
  have g4 : (k : Int) + 1 < (t.size : Int) := by omega
  have g5 : (k : Int) + 2 < (t.size : Int) := by omega
  have g6 : (k : Int) + 3 ≤ (t.size : Int) := by omega
  have vn : (t[k + 1].toNat : Int) * 256 + (t[k + 2].toNat : Int) = ((t[k + 1].toNat * 256 + t[k + 2].toNat : Nat) : Int) := by omega
  generalize t[k + 1].toNat * 256 + t[k + 2].toNat = q at *
  have h5' : decide ((4000 : Int) < (q : Int)) = false := decide_eq_false (by omega)
  have s1 : (0 : Int) ≤ (k : Int) + 1 + 2 := by omega
  have s2 : (k : Int) ≤ (k : Int) + 1 + 2 := by omega
  have s3 : (k : Int) + 1 + 2 ≤ (t.size : Int) := by omega
  have s4 : ((k : Int) + 1 + 2).toNat = k + 3 := by omega
  clear h1
  have CL := Lib.hid (fun W => lengthBytes_any q W (by omega))
  go_enter Try.func37, Try.ntmps37
  go_wp2_with fail
  refine wp_world (fun W => Below w.heap.size w W ∧ Blk W w.heap.size [.int .i64 0, .int .i64 0, .int .i64 0]) ⟨more' (Below.refl _ _) _, Blk.new _ _ _⟩ ?_
  rintro W1 ⟨b1, t1⟩
  have T1 := Lib.hid t1; clear t1
  have SK : Hid (∀ Z' : World, Below W1.heap.size W1 Z' → Below W1.heap.size W1 Z') := Lib.hid (fun Z' h => h)
  have BD : Below W1.heap.size W1 W1.drew := (Below.refl _ _).drew
  refine wp_region_held_drew (S := (fun Z' => Below W1.heap.size W1 Z')) (by kernel_rfl) ?_ (fun hHeld => ?_)
  · (try dsimp only)
    first | exact SK.out _ (by assumption) | exact SK.out _ BD | exact SK.out _ (more' (by assumption) _) | exact SK.out _ (more' BD _)
  refine wpAnyH_take (i := 0) (oi := { dst := some 55, op := Op.move (Operand.tmp 5), type := 2, pos := "l09_ber.go:80", after := #[], guard := none }) (v := ?_) rfl (by kernel_rfl) (by kernel_rfl) (by kernel_rfl) (fun _ _ _ h => h) (Or.inl ⟨by rfl, ?_⟩) (by assumption) ?_
  rotate_left
  · intro w hSw; (try dsimp only at hSw); go_simp; (try with_reducible rfl)
  (try simp only [Act.put, List.setIfInBounds_toArray, List.set_cons_zero, List.set_cons_succ])
  refine wpAnyH_take (i := 1) (oi := { dst := some 56, op := Op.binOp BinOp.gtr 2 (Operand.tmp 55) (Operand.const (Value.int IntKind.i64 4000)) 2, type := 4, pos := "l09_ber.go:80", after := #[{ on := 0, ground := Ground.data }], guard := none }) (v := ?_) rfl (by kernel_rfl) (by kernel_rfl) (by kernel_rfl) (fun _ _ _ h => h) (Or.inl ⟨by rfl, ?_⟩) (by assumption) ?_
  rotate_left
  · intro w hSw; (try dsimp only at hSw); go_simp; (try with_reducible rfl)
  (try simp only [Act.put, List.setIfInBounds_toArray, List.set_cons_zero, List.set_cons_succ])
  refine wpAnyH_take (i := 2) (oi := { dst := some 57, op := Op.move (Operand.tmp 56), type := 4, pos := "l09_ber.go:80", after := #[{ on := 1, ground := Ground.data }], guard := none }) (v := ?_) rfl (by kernel_rfl) (by kernel_rfl) (by kernel_rfl) (fun _ _ _ h => h) (Or.inl ⟨by rfl, ?_⟩) (by assumption) ?_
  rotate_left
  · intro w hSw; (try dsimp only at hSw); go_simp; (try with_reducible rfl)
  (try simp only [Act.put, List.setIfInBounds_toArray, List.set_cons_zero, List.set_cons_succ])
  refine wpAnyH_take (i := 3) (oi := { dst := some 58, op := Op.move (Operand.tmp 0), type := 9, pos := "l09_ber.go:80", after := #[{ on := 2, ground := Ground.guard }], guard := some (2, false) }) (v := ?_) rfl (by kernel_rfl) (by kernel_rfl) (by kernel_rfl) (fun _ _ _ h => h) (Or.inl ⟨by rfl, ?_⟩) (by assumption) ?_
  rotate_left
  · intro w hSw; (try dsimp only at hSw); go_simp; (try with_reducible rfl)
  (try simp only [Act.put, List.setIfInBounds_toArray, List.set_cons_zero, List.set_cons_succ])
  refine wpAnyH_take (i := 4) (oi := { dst := some 59, op := Op.move (Operand.tmp 1), type := 2, pos := "l09_ber.go:80", after := #[{ on := 2, ground := Ground.guard }], guard := some (2, false) }) (v := ?_) rfl (by kernel_rfl) (by kernel_rfl) (by kernel_rfl) (fun _ _ _ h => h) (Or.inl ⟨by rfl, ?_⟩) (by assumption) ?_
  rotate_left
  · intro w hSw; (try dsimp only at hSw); go_simp; (try with_reducible rfl)
  (try simp only [Act.put, List.setIfInBounds_toArray, List.set_cons_zero, List.set_cons_succ])
  refine wpAnyH_take (i := 5) (oi := { dst := some 60, op := Op.move (Operand.tmp 8), type := 2, pos := "l09_ber.go:80", after := #[{ on := 2, ground := Ground.guard }], guard := some (2, false) }) (v := ?_) rfl (by kernel_rfl) (by kernel_rfl) (by kernel_rfl) (fun _ _ _ h => h) (Or.inl ⟨by rfl, ?_⟩) (by assumption) ?_
  rotate_left
  · intro w hSw; (try dsimp only at hSw); go_simp; (try with_reducible rfl)
  (try simp only [Act.put, List.setIfInBounds_toArray, List.set_cons_zero, List.set_cons_succ])
  refine wpAnyH_take (i := 6) (oi := { dst := some 61, op := Op.slice 9 (Operand.tmp 58) (some (Operand.tmp 59)) (some (Operand.tmp 60)) none, type := 9, pos := "l09_ber.go:80", after := #[{ on := 3, ground := Ground.data }, { on := 4, ground := Ground.data }, { on := 5, ground := Ground.data }, { on := 2, ground := Ground.guard }], guard := some (2, false) }) (v := ?_) rfl (by kernel_rfl) (by kernel_rfl) (by kernel_rfl) (fun _ _ _ h => h) (Or.inl ⟨by rfl, ?_⟩) (by assumption) ?_
  rotate_left
  · intro w hSw; (try dsimp only at hSw); go_simp; (try with_reducible rfl)
  (try simp only [Act.put, List.setIfInBounds_toArray, List.set_cons_zero, List.set_cons_succ])
  refine wpAnyH_take (i := 7) (oi := { dst := some 62, op := Op.move (Operand.tmp 5), type := 2, pos := "l09_ber.go:80", after := #[{ on := 2, ground := Ground.guard }], guard := some (2, false) }) (v := ?_) rfl (by kernel_rfl) (by kernel_rfl) (by kernel_rfl) (fun _ _ _ h => h) (Or.inl ⟨by rfl, ?_⟩) (by assumption) ?_
  rotate_left
  · intro w hSw; (try dsimp only at hSw); go_simp; (try with_reducible rfl)
  (try simp only [Act.put, List.setIfInBounds_toArray, List.set_cons_zero, List.set_cons_succ])
  refine wpAnyH_ready (rs := [8]) (by kernel_rfl) (by simp) ?_
  refine AllReadyH.cons (o := { dst := some 63, op := Op.call { callee := Callee.value (Operand.func 35), args := #[Operand.tmp 62], argTypes := #[2] }, type := 9, pos := "l09_ber.go:80", after := #[{ on := 7, ground := Ground.data }, { on := 2, ground := Ground.chain }, { on := 2, ground := Ground.guard }], guard := some (2, false) }) rfl (fun K hK => ?_) (AllReadyH.nil)
  go_simp
  refine (CL.out _).mono ?_
  rintro e w2 ⟨rfl, hb⟩
  have D2 : Below W1.heap.size W1 w2 := BD.trans (hb.mono BD.size)
  clear hb
  clear hHeld
  refine hK.out _ _ ?_ (fun hHeld => ?_)
  · (try dsimp only)
    first | exact SK.out _ (by assumption) | exact SK.out _ BD | exact SK.out _ (more' (by assumption) _) | exact SK.out _ (more' BD _)
  clear hK K
  (try simp only [Act.put, List.setIfInBounds_toArray, List.set_cons_zero, List.set_cons_succ])
  refine wpAnyH_take (i := 9) (oi := { dst := some 64, op := Op.binOp BinOp.neq 9 (Operand.tmp 61) (Operand.tmp 63) 9, type := 4, pos := "l09_ber.go:80", after := #[{ on := 6, ground := Ground.data }, { on := 8, ground := Ground.data }, { on := 2, ground := Ground.guard }], guard := some (2, false) }) (v := ?_) rfl (by kernel_rfl) (by kernel_rfl) (by kernel_rfl) (fun _ _ _ h => h) (Or.inl ⟨by rfl, ?_⟩) (by assumption) ?_
  rotate_left
  · intro w hSw; (try dsimp only at hSw); go_simp; (try with_reducible rfl)
  (try simp only [Act.put, List.setIfInBounds_toArray, List.set_cons_zero, List.set_cons_succ])
  refine wpAnyH_take (i := 10) (oi := { dst := some 65, op := Op.pick (Operand.tmp 57) (Operand.const (Value.bool true)) (Operand.tmp 64), type := 4, pos := "l09_ber.go:80", after := #[{ on := 2, ground := Ground.data }, { on := 9, ground := Ground.data }], guard := none }) (v := ?_) rfl (by kernel_rfl) (by kernel_rfl) (by kernel_rfl) (fun _ _ _ h => h) (Or.inl ⟨by rfl, ?_⟩) (by assumption) ?_
  rotate_left
  · intro w hSw; (try dsimp only at hSw); go_simp; (try with_reducible rfl)
  (try simp only [Act.put, List.setIfInBounds_toArray, List.set_cons_zero, List.set_cons_succ])
  refine wpAnyH_done (by kernel_rfl) ?_ _
  clear SK
  have B2 := b1.trans (D2.mono b1.size)
  have T2 := Lib.hid (T1.out.below D2)
  clear BD hHeld D2 T1
  have rf0 := T2.out.soft 0; have rz0 := T2.out.cell 0 rfl
  have rf1 := T2.out.soft 1; have rz1 := T2.out.cell 1 rfl
  have rf2 := T2.out.soft 2; have rz2 := T2.out.cell 2 rfl
  have TE := (((T2.out.set 0 (.int .i64 0)).set 1 (.int .i64 0)).set 2 (.int .i64 3))
  have rj0 := TE.cell 0 rfl
  have rj1 := TE.cell 1 rfl
  have rj2 := TE.cell 2 rfl
  clear TE
  have BE := Lib.hid (((B2.setCell (p := ⟨w.heap.size, 0, none⟩) (by show w.heap.size ≤ w.heap.size; omega) (.int .i64 0)).setCell (p := ⟨w.heap.size, 1, none⟩) (by show w.heap.size ≤ w.heap.size; omega) (.int .i64 0)).setCell (p := ⟨w.heap.size, 2, none⟩) (by show w.heap.size ≤ w.heap.size; omega) (.int .i64 3))
  go_wp2
  refine bodyPost_ret (v := .agg #[.int .i64 0, .int .i64 0, .int .i64 3]) (by simp [results, Try.results37, go_sem, rj0, rj1, rj2]) rfl ?_
  exact ⟨by first | (rw [HR.out]; done) | (rw [HR.out]; rfl), BE.out⟩
set_option maxRecDepth 100000 in
set_option maxHeartbeats 2000000 in
theorem getLen_3ok (t : ByteArray) (k : Nat) (w : World) (ht : t.size ≤ 8000) (hk : k ≤ 8001) (h : k < t.size) (h1 : t[k].toNat = 130) (h2 : k + 2 < t.size) (h3 : ¬ (t[k + 1].toNat * 256 + t[k + 2].toNat < 256 ∨ 4000 < t[k + 1].toNat * 256 + t[k + 2].toNat)) :
    Calls Try.prog 37 #[.string t, .int .i64 (k : Int)] w fun e w' => e = lenAgg (lenR t k) ∧ Below w.heap.size w w' := by
  have HR := Lib.hid (lenR_3ok h h1 h2 h3)
  have HC := cmp_3 t k h2 h1 (fun x => h3 (.inl x))
  have g0 : (k : Int) < (t.size : Int) := by omega
  have c1 := t[k].toNat_lt
  have c2 := t[k + 1].toNat_lt
  have c3 := t[k + 2].toNat_lt
  have v0 : (t[k].toNat : Int) = 130 := by omega
  have g4 : (k : Int) + 1 < (t.size : Int) := by omega
  have g5 : (k : Int) + 2 < (t.size : Int) := by omega
  have g6 : (k : Int) + 3 ≤ (t.size : Int) := by omega
  have vn : (t[k + 1].toNat : Int) * 256 + (t[k + 2].toNat : Int) = ((t[k + 1].toNat * 256 + t[k + 2].toNat : Nat) : Int) := by omega
  generalize t[k + 1].toNat * 256 + t[k + 2].toNat = q at *
  have h5' : decide ((4000 : Int) < (q : Int)) = false := decide_eq_false (by omega)
  have s1 : (0 : Int) ≤ (k : Int) + 1 + 2 := by omega
  have s2 : (k : Int) ≤ (k : Int) + 1 + 2 := by omega
  have s3 : (k : Int) + 1 + 2 ≤ (t.size : Int) := by omega
  have s4 : ((k : Int) + 1 + 2).toNat = k + 3 := by omega
  clear h1
  have CL := Lib.hid (fun W => lengthBytes_any q W (by omega))
  go_enter Try.func37, Try.ntmps37
  go_wp2_with fail
  refine wp_world (fun W => Below w.heap.size w W ∧ Blk W w.heap.size [.int .i64 0, .int .i64 0, .int .i64 0]) ⟨more' (Below.refl _ _) _, Blk.new _ _ _⟩ ?_
  rintro W1 ⟨b1, t1⟩
  have T1 := Lib.hid t1; clear t1
  have SK : Hid (∀ Z' : World, Below W1.heap.size W1 Z' → Below W1.heap.size W1 Z') := Lib.hid (fun Z' h => h)
  have BD : Below W1.heap.size W1 W1.drew := (Below.refl _ _).drew
  refine wp_region_held_drew (S := (fun Z' => Below W1.heap.size W1 Z')) (by kernel_rfl) ?_ (fun hHeld => ?_)
  · (try dsimp only)
    first | exact SK.out _ (by assumption) | exact SK.out _ BD | exact SK.out _ (more' (by assumption) _) | exact SK.out _ (more' BD _)
  refine wpAnyH_take (i := 0) (oi := { dst := some 55, op := Op.move (Operand.tmp 5), type := 2, pos := "l09_ber.go:80", after := #[], guard := none }) (v := ?_) rfl (by kernel_rfl) (by kernel_rfl) (by kernel_rfl) (fun _ _ _ h => h) (Or.inl ⟨by rfl, ?_⟩) (by assumption) ?_
  rotate_left
  · intro w hSw; (try dsimp only at hSw); go_simp; (try with_reducible rfl)
  (try simp only [Act.put, List.setIfInBounds_toArray, List.set_cons_zero, List.set_cons_succ])
  refine wpAnyH_take (i := 1) (oi := { dst := some 56, op := Op.binOp BinOp.gtr 2 (Operand.tmp 55) (Operand.const (Value.int IntKind.i64 4000)) 2, type := 4, pos := "l09_ber.go:80", after := #[{ on := 0, ground := Ground.data }], guard := none }) (v := ?_) rfl (by kernel_rfl) (by kernel_rfl) (by kernel_rfl) (fun _ _ _ h => h) (Or.inl ⟨by rfl, ?_⟩) (by assumption) ?_
  rotate_left
  · intro w hSw; (try dsimp only at hSw); go_simp; (try with_reducible rfl)
  (try simp only [Act.put, List.setIfInBounds_toArray, List.set_cons_zero, List.set_cons_succ])
  refine wpAnyH_take (i := 2) (oi := { dst := some 57, op := Op.move (Operand.tmp 56), type := 4, pos := "l09_ber.go:80", after := #[{ on := 1, ground := Ground.data }], guard := none }) (v := ?_) rfl (by kernel_rfl) (by kernel_rfl) (by kernel_rfl) (fun _ _ _ h => h) (Or.inl ⟨by rfl, ?_⟩) (by assumption) ?_
  rotate_left
  · intro w hSw; (try dsimp only at hSw); go_simp; (try with_reducible rfl)
  (try simp only [Act.put, List.setIfInBounds_toArray, List.set_cons_zero, List.set_cons_succ])
  refine wpAnyH_take (i := 3) (oi := { dst := some 58, op := Op.move (Operand.tmp 0), type := 9, pos := "l09_ber.go:80", after := #[{ on := 2, ground := Ground.guard }], guard := some (2, false) }) (v := ?_) rfl (by kernel_rfl) (by kernel_rfl) (by kernel_rfl) (fun _ _ _ h => h) (Or.inl ⟨by rfl, ?_⟩) (by assumption) ?_
  rotate_left
  · intro w hSw; (try dsimp only at hSw); go_simp; (try with_reducible rfl)
  (try simp only [Act.put, List.setIfInBounds_toArray, List.set_cons_zero, List.set_cons_succ])
  refine wpAnyH_take (i := 4) (oi := { dst := some 59, op := Op.move (Operand.tmp 1), type := 2, pos := "l09_ber.go:80", after := #[{ on := 2, ground := Ground.guard }], guard := some (2, false) }) (v := ?_) rfl (by kernel_rfl) (by kernel_rfl) (by kernel_rfl) (fun _ _ _ h => h) (Or.inl ⟨by rfl, ?_⟩) (by assumption) ?_
  rotate_left
  · intro w hSw; (try dsimp only at hSw); go_simp; (try with_reducible rfl)
  (try simp only [Act.put, List.setIfInBounds_toArray, List.set_cons_zero, List.set_cons_succ])
  refine wpAnyH_take (i := 5) (oi := { dst := some 60, op := Op.move (Operand.tmp 8), type := 2, pos := "l09_ber.go:80", after := #[{ on := 2, ground := Ground.guard }], guard := some (2, false) }) (v := ?_) rfl (by kernel_rfl) (by kernel_rfl) (by kernel_rfl) (fun _ _ _ h => h) (Or.inl ⟨by rfl, ?_⟩) (by assumption) ?_
  rotate_left
  · intro w hSw; (try dsimp only at hSw); go_simp; (try with_reducible rfl)
  (try simp only [Act.put, List.setIfInBounds_toArray, List.set_cons_zero, List.set_cons_succ])
  refine wpAnyH_take (i := 6) (oi := { dst := some 61, op := Op.slice 9 (Operand.tmp 58) (some (Operand.tmp 59)) (some (Operand.tmp 60)) none, type := 9, pos := "l09_ber.go:80", after := #[{ on := 3, ground := Ground.data }, { on := 4, ground := Ground.data }, { on := 5, ground := Ground.data }, { on := 2, ground := Ground.guard }], guard := some (2, false) }) (v := ?_) rfl (by kernel_rfl) (by kernel_rfl) (by kernel_rfl) (fun _ _ _ h => h) (Or.inl ⟨by rfl, ?_⟩) (by assumption) ?_
  rotate_left
  · intro w hSw; (try dsimp only at hSw); go_simp; (try with_reducible rfl)
  (try simp only [Act.put, List.setIfInBounds_toArray, List.set_cons_zero, List.set_cons_succ])
  refine wpAnyH_take (i := 7) (oi := { dst := some 62, op := Op.move (Operand.tmp 5), type := 2, pos := "l09_ber.go:80", after := #[{ on := 2, ground := Ground.guard }], guard := some (2, false) }) (v := ?_) rfl (by kernel_rfl) (by kernel_rfl) (by kernel_rfl) (fun _ _ _ h => h) (Or.inl ⟨by rfl, ?_⟩) (by assumption) ?_
  rotate_left
  · intro w hSw; (try dsimp only at hSw); go_simp; (try with_reducible rfl)
  (try simp only [Act.put, List.setIfInBounds_toArray, List.set_cons_zero, List.set_cons_succ])
  refine wpAnyH_ready (rs := [8]) (by kernel_rfl) (by simp) ?_
  refine AllReadyH.cons (o := { dst := some 63, op := Op.call { callee := Callee.value (Operand.func 35), args := #[Operand.tmp 62], argTypes := #[2] }, type := 9, pos := "l09_ber.go:80", after := #[{ on := 7, ground := Ground.data }, { on := 2, ground := Ground.chain }, { on := 2, ground := Ground.guard }], guard := some (2, false) }) rfl (fun K hK => ?_) (AllReadyH.nil)
  go_simp
  refine (CL.out _).mono ?_
  rintro e w2 ⟨rfl, hb⟩
  have D2 : Below W1.heap.size W1 w2 := BD.trans (hb.mono BD.size)
  clear hb
  clear hHeld
  refine hK.out _ _ ?_ (fun hHeld => ?_)
  · (try dsimp only)
    first | exact SK.out _ (by assumption) | exact SK.out _ BD | exact SK.out _ (more' (by assumption) _) | exact SK.out _ (more' BD _)
  clear hK K
  (try simp only [Act.put, List.setIfInBounds_toArray, List.set_cons_zero, List.set_cons_succ])
  refine wpAnyH_take (i := 9) (oi := { dst := some 64, op := Op.binOp BinOp.neq 9 (Operand.tmp 61) (Operand.tmp 63) 9, type := 4, pos := "l09_ber.go:80", after := #[{ on := 6, ground := Ground.data }, { on := 8, ground := Ground.data }, { on := 2, ground := Ground.guard }], guard := some (2, false) }) (v := ?_) rfl (by kernel_rfl) (by kernel_rfl) (by kernel_rfl) (fun _ _ _ h => h) (Or.inl ⟨by rfl, ?_⟩) (by assumption) ?_
  rotate_left
  · intro w hSw; (try dsimp only at hSw); go_simp; (try with_reducible rfl)
  (try simp only [Act.put, List.setIfInBounds_toArray, List.set_cons_zero, List.set_cons_succ])
  refine wpAnyH_take (i := 10) (oi := { dst := some 65, op := Op.pick (Operand.tmp 57) (Operand.const (Value.bool true)) (Operand.tmp 64), type := 4, pos := "l09_ber.go:80", after := #[{ on := 2, ground := Ground.data }, { on := 9, ground := Ground.data }], guard := none }) (v := ?_) rfl (by kernel_rfl) (by kernel_rfl) (by kernel_rfl) (fun _ _ _ h => h) (Or.inl ⟨by rfl, ?_⟩) (by assumption) ?_
  rotate_left
  · intro w hSw; (try dsimp only at hSw); go_simp; (try with_reducible rfl)
  (try simp only [Act.put, List.setIfInBounds_toArray, List.set_cons_zero, List.set_cons_succ])
  refine wpAnyH_done (by kernel_rfl) ?_ _
  clear SK
  have B2 := b1.trans (D2.mono b1.size)
  have T2 := Lib.hid (T1.out.below D2)
  clear BD hHeld D2 T1
  have rf0 := T2.out.soft 0; have rz0 := T2.out.cell 0 rfl
  have rf1 := T2.out.soft 1; have rz1 := T2.out.cell 1 rfl
  have rf2 := T2.out.soft 2; have rz2 := T2.out.cell 2 rfl
  have TE := (((T2.out.set 0 (.int .i64 (q : Int))).set 1 (.int .i64 ((k : Int) + 1 + 2))).set 2 (.int .i64 0))
  have rj0 := TE.cell 0 rfl
  have rj1 := TE.cell 1 rfl
  have rj2 := TE.cell 2 rfl
  clear TE
  have BE := Lib.hid (((B2.setCell (p := ⟨w.heap.size, 0, none⟩) (by show w.heap.size ≤ w.heap.size; omega) (.int .i64 (q : Int))).setCell (p := ⟨w.heap.size, 1, none⟩) (by show w.heap.size ≤ w.heap.size; omega) (.int .i64 ((k : Int) + 1 + 2))).setCell (p := ⟨w.heap.size, 2, none⟩) (by show w.heap.size ≤ w.heap.size; omega) (.int .i64 0))
  go_wp2
  refine bodyPost_ret (v := .agg #[.int .i64 (q : Int), .int .i64 ((k : Int) + 1 + 2), .int .i64 0]) (by simp [results, Try.results37, go_sem, rj0, rj1, rj2]) rfl ?_
  exact ⟨by first | (rw [HR.out]; done) | (rw [HR.out]; rfl), BE.out⟩
set_option maxRecDepth 100000 in
set_option maxHeartbeats 2000000 in
theorem getLen_3short (t : ByteArray) (k : Nat) (w : World) (ht : t.size ≤ 8000) (hk : k ≤ 8001) (h : k < t.size) (h1 : t[k].toNat = 130) (h2 : ¬ k + 2 < t.size) :
    Calls Try.prog 37 #[.string t, .int .i64 (k : Int)] w fun e w' => e = lenAgg (lenR t k) ∧ Below w.heap.size w w' := by
  have HR := Lib.hid (lenR_3short h h1 h2)
  have g0 : (k : Int) < (t.size : Int) := by omega
  have c1 := t[k].toNat_lt
  have v0 : (t[k].toNat : Int) = 130 := by omega
  have g5 : (t.size : Int) < (k : Int) + 3 := by omega
  clear h1
  go_enter Try.func37, Try.ntmps37
  go_wp2
  exact bodyPost_ret (v := .agg #[.int .i64 0, .int .i64 0, .int .i64 4]) (by simp [results, Try.results37, go_sem]) rfl ⟨by first | (rw [HR.out]; done) | (rw [HR.out]; rfl), more' (Below.refl _ _) _⟩
set_option maxRecDepth 100000 in
set_option maxHeartbeats 2000000 in
theorem getLen_no8 (t : ByteArray) (k : Nat) (w : World) (ht : t.size ≤ 8000) (hk : k ≤ 8001) (h : k < t.size) (h1 : t[k].toNat = 128) :
    Calls Try.prog 37 #[.string t, .int .i64 (k : Int)] w fun e w' => e = lenAgg (lenR t k) ∧ Below w.heap.size w w' := by
  have HR := Lib.hid (lenR_no h (by omega) (by omega) (by omega))
  have g0 : (k : Int) < (t.size : Int) := by omega
  have c1 := t[k].toNat_lt
  have v0 : (t[k].toNat : Int) = 128 := by omega
  clear h1
  go_enter Try.func37, Try.ntmps37
  go_wp2
  exact bodyPost_ret (v := .agg #[.int .i64 0, .int .i64 0, .int .i64 3]) (by simp [results, Try.results37, go_sem]) rfl ⟨by first | (rw [HR.out]; done) | (rw [HR.out]; rfl), more' (Below.refl _ _) _⟩
set_option maxRecDepth 100000 in
set_option maxHeartbeats 2000000 in
theorem getLen_no (t : ByteArray) (k : Nat) (w : World) (ht : t.size ≤ 8000) (hk : k ≤ 8001) (h : k < t.size) (h1 : 130 < t[k].toNat) :
    Calls Try.prog 37 #[.string t, .int .i64 (k : Int)] w fun e w' => e = lenAgg (lenR t k) ∧ Below w.heap.size w w' := by
  have HR := Lib.hid (lenR_no h (by omega) (by omega) (by omega))
  have g0 : (k : Int) < (t.size : Int) := by omega
  have c1 := t[k].toNat_lt
  have v1 : ((t[k].toNat : Int) == 128) = false := by rw [beq_eq_false_iff_ne]; omega
  have v2 : (2 : Int) < (t[k].toNat : Int) - 128 := by omega
  clear h1
  go_enter Try.func37, Try.ntmps37
  go_wp2
  exact bodyPost_ret (v := .agg #[.int .i64 0, .int .i64 0, .int .i64 3]) (by simp [results, Try.results37, go_sem]) rfl ⟨by first | (rw [HR.out]; done) | (rw [HR.out]; rfl), more' (Below.refl _ _) _⟩
theorem getLength_any (t : ByteArray) (k : Nat) (w : World) (ht : t.size ≤ 8000) (hk : k ≤ 8001)  :
    Calls Try.prog 37 #[.string t, .int .i64 (k : Int)] w fun e w' => e = lenAgg (lenR t k) ∧ Below w.heap.size w w' := by
  by_cases h : k < t.size
  rotate_left
  · exact getLen_end t k w ht hk h
  by_cases h1 : t[k].toNat < 128
  · exact getLen_1 t k w ht hk h h1
  by_cases h2 : t[k].toNat = 129
  · by_cases h3 : k + 1 < t.size
    · by_cases h4 : t[k + 1].toNat < 128
      · exact getLen_2bad t k w ht hk h h2 h3 h4
      · exact getLen_2ok t k w ht hk h h2 h3 h4
    · exact getLen_2short t k w ht hk h h2 h3
  by_cases h3 : t[k].toNat = 130
  · by_cases h4 : k + 2 < t.size
    · by_cases h5 : 4000 < t[k + 1].toNat * 256 + t[k + 2].toNat
      · exact getLen_3big t k w ht hk h h3 h4 h5
      by_cases h6 : t[k + 1].toNat * 256 + t[k + 2].toNat < 256
      · exact getLen_3small t k w ht hk h h3 h4 h6
      · exact getLen_3ok t k w ht hk h h3 h4 (fun x => by rcases x with x | x <;> contradiction)
    · exact getLen_3short t k w ht hk h h3 h4
  by_cases h4 : t[k].toNat = 128
  · exact getLen_no8 t k w ht hk h h4
  · exact getLen_no t k w ht hk h (by omega)
end Go.Proofs.Ytohcdpoffpnfhaa
/- BER: BerGet: what the program returns. -/
namespace Go.Proofs.Ytohcdpoffpnfhaa
open Go.RowKit
attribute [local go_sem ↓] Go.wp_at_zero Go.wp_at_succ

theorem concat_oneB (B : Nat) (a : ByteArray) (w : World) (h : a.size ≤ 1000000) (hB : B < w.heap.size) (h0 : w.cell? ⟨B, 0, none⟩ = some (.string a)) :
    Calls Try.prog 34 #[.slice (some ⟨B, 0, none⟩) 1 1] w fun e w' => e = .returned (.string a) ∧ Below w.heap.size w w' := by
  have := concat_any B 0 1 [a] w (by simp) hB (by simp [joinL]; omega) (fun i hi => by
    match i, hi with
    | 0, _ => exact h0)
  have e : joinS [a] = a := by apply ByteArray.ext; simp [joinS, joinL]
  rw [e] at this
  exact this
def gotAgg (r : GotT) : Ending := .returned (.agg #[.int .i64 r.1.1, .string r.1.2, .int .i64 r.2.1, .int .i64 r.2.2])
theorem getLength_is (t : ByteArray) (k : Nat) (W : World) (ht : t.size ≤ 8000) (hk : k < t.size) {c : Int} {n e0 : Nat} (hr : lenR t (k + 1) = (c, n, e0)) :
    Calls Try.prog 37 #[.string t, .int .i64 ((k : Int) + 1)] W fun e w' => e = .returned (.agg #[.int .i64 (n : Int), .int .i64 (e0 : Int), .int .i64 c]) ∧ Below W.heap.size W w' := by
  have h := getLength_any t (k + 1) W ht (by omega)
  rw [show ((k + 1 : Nat) : Int) = (k : Int) + 1 by omega, hr] at h
  exact h
set_option maxHeartbeats 1000000 in
theorem getI_long (t : ByteArray) (x : Int) (w : World) (hm : t.size ≤ maxLen) (h : 8000 < t.size) :
    Calls Try.prog 12 #[.string t, .int .i64 x] w fun e w' => e = gotAgg (noGot 2) ∧ Below w.heap.size w w' := by
  unfold maxLen at hm
  have h' : (8000 : Int) < (t.size : Int) := by omega
  go_enter Try.func12, Try.ntmps12
  go_wp2
  exact bodyPost_ret (v := .agg #[.int .i64 0, .string ByteArray.empty, .int .i64 0, .int .i64 2]) (by simp [results, Try.results12, go_sem]; rfl) rfl ⟨rfl, more' (Below.refl _ _) _⟩
set_option maxHeartbeats 1000000 in
theorem getI_neg (t : ByteArray) (x : Int) (w : World) (h : t.size ≤ 8000) (hx : x < 0) :
    Calls Try.prog 12 #[.string t, .int .i64 x] w fun e w' => e = gotAgg (noGot 1) ∧ Below w.heap.size w w' := by
  have h' : ¬ (8000 : Int) < (t.size : Int) := by omega
  go_enter Try.func12, Try.ntmps12
  go_wp2
  exact bodyPost_ret (v := .agg #[.int .i64 0, .string ByteArray.empty, .int .i64 0, .int .i64 1]) (by simp [results, Try.results12, go_sem]; rfl) rfl ⟨rfl, more' (Below.refl _ _) _⟩
set_option maxHeartbeats 1000000 in
theorem getI_end (t : ByteArray) (k : Nat) (w : World) (h : t.size ≤ 8000) (hk : ¬ k < t.size) :
    Calls Try.prog 12 #[.string t, .int .i64 (k : Int)] w fun e w' => e = gotAgg (noGot 4) ∧ Below w.heap.size w w' := by
  have h' : ¬ (8000 : Int) < (t.size : Int) := by omega
  have h2 : (t.size : Int) ≤ (k : Int) := by omega
  clear hk
  go_enter Try.func12, Try.ntmps12
  go_wp2
  exact bodyPost_ret (v := .agg #[.int .i64 0, .string ByteArray.empty, .int .i64 0, .int .i64 4]) (by simp [results, Try.results12, go_sem]; rfl) rfl ⟨rfl, more' (Below.refl _ _) _⟩
set_option maxHeartbeats 1000000 in
theorem getI_tag (t : ByteArray) (k : Nat) (w : World) (h : t.size ≤ 8000) (hk : k < t.size) (ht : ¬ tagOk (t[k].toNat : Int)) :
    Calls Try.prog 12 #[.string t, .int .i64 (k : Int)] w fun e w' => e = gotAgg (noGot 3) ∧ Below w.heap.size w w' := by
  have h' : ¬ (8000 : Int) < (t.size : Int) := by omega
  have h2 : (k : Int) < (t.size : Int) := by omega
  have c1 := t[k].toNat_lt
  have HT : Hid (decide (tagOk (t[k].toNat : Int)) = false) := Lib.hid (decide_eq_false ht)
  clear ht
  go_enter Try.func12, Try.ntmps12
  go_wp2_with fail
  refine (isTag_any (t[k].toNat : Int) _).mono ?_
  rintro e w1 ⟨rfl, rfl⟩
  rw [HT.out]
  go_wp2
  exact bodyPost_ret (v := .agg #[.int .i64 0, .string ByteArray.empty, .int .i64 0, .int .i64 3]) (by simp [results, Try.results12, go_sem]; rfl) rfl ⟨rfl, more' (Below.refl _ _) _⟩
set_option maxRecDepth 100000 in
set_option maxHeartbeats 2000000 in
theorem getI_len (t : ByteArray) (k : Nat) (c : Int) (w : World) (h : t.size ≤ 8000) (hk : k < t.size) (ht : tagOk (t[k].toNat : Int)) (hc : c = 3 ∨ c = 4) (hl : lenR t (k + 1) = (c, 0, 0)) :
    Calls Try.prog 12 #[.string t, .int .i64 (k : Int)] w fun e w' => e = gotAgg (noGot c) ∧ Below w.heap.size w w' := by
  have h' : ¬ (8000 : Int) < (t.size : Int) := by omega
  have h2 : (k : Int) < (t.size : Int) := by omega
  have c1 := t[k].toNat_lt
  have HT : Hid (decide (tagOk (t[k].toNat : Int)) = true) := Lib.hid (decide_eq_true ht)
  have CL := Lib.hid (fun W => getLength_is t k W h hk hl)
  have c0 : (c == 0) = false := by rcases hc with rfl | rfl <;> rfl
  clear ht hl
  go_enter Try.func12, Try.ntmps12
  go_wp2_with fail
  refine (isTag_any (t[k].toNat : Int) _).mono ?_
  rintro e w1 ⟨rfl, rfl⟩
  rw [HT.out]
  go_wp2_with fail
  refine calls_by (fun W => Below w.heap.size w W ∧ Blk W w.heap.size [.int .i64 0, .string ByteArray.empty, .int .i64 0, .int .i64 0]) ⟨more' (Below.refl _ _) _, Blk.new _ _ _⟩ ?_
  rintro W1 ⟨b1, t1⟩
  have T1 := Lib.hid t1; clear t1
  refine (CL.out W1).mono ?_
  rintro e w2 ⟨rfl, hb⟩
  have B2 := Lib.hid (b1.trans (hb.mono b1.size)); have T2 := Lib.hid (T1.out.below hb)
  clear b1 hb T1 CL
  have T3 := Lib.hid (T2.out.alloc (.cells #[.int .i64 0, .int .i64 0, .int .i64 c] 41))
  have B3 := more' B2.out (.cells #[.int .i64 0, .int .i64 0, .int .i64 c] 41)
  have rf0 := T3.out.soft 0; have rz0 := T3.out.cell 0 rfl
  have rf1 := T3.out.soft 1; have rz1 := T3.out.cell 1 rfl
  have rf2 := T3.out.soft 2; have rz2 := T3.out.cell 2 rfl
  have rf3 := T3.out.soft 3; have rz3 := T3.out.cell 3 rfl
  have TE := ((((T3.out.set 0 (.int .i64 0)).set 1 (.string ⟨#[]⟩)).set 2 (.int .i64 0)).set 3 (.int .i64 c))
  have rj0 := TE.cell 0 rfl
  have rj1 := TE.cell 1 rfl
  have rj2 := TE.cell 2 rfl
  have rj3 := TE.cell 3 rfl
  clear TE
  have BE := Lib.hid ((((B3.setCell (p := ⟨w.heap.size, 0, none⟩) (by show w.heap.size ≤ w.heap.size; omega) (.int .i64 0)).setCell (p := ⟨w.heap.size, 1, none⟩) (by show w.heap.size ≤ w.heap.size; omega) (.string ⟨#[]⟩)).setCell (p := ⟨w.heap.size, 2, none⟩) (by show w.heap.size ≤ w.heap.size; omega) (.int .i64 0)).setCell (p := ⟨w.heap.size, 3, none⟩) (by show w.heap.size ≤ w.heap.size; omega) (.int .i64 c))
  go_wp2
  refine bodyPost_ret (v := .agg #[.int .i64 0, .string ⟨#[]⟩, .int .i64 0, .int .i64 c]) (by simp [results, Try.results12, go_sem, rj0, rj1, rj2, rj3]) rfl ?_
  exact ⟨rfl, BE.out⟩
set_option maxRecDepth 100000 in
set_option maxHeartbeats 2000000 in
theorem getI_short (t : ByteArray) (k : Nat) (n e0 : Nat) (w : World) (h : t.size ≤ 8000) (hk : k < t.size) (ht : tagOk (t[k].toNat : Int)) (hl : lenR t (k + 1) = (0, n, e0)) (hn : n ≤ 4000) (he : ¬ e0 + n ≤ t.size) :
    Calls Try.prog 12 #[.string t, .int .i64 (k : Int)] w fun e w' => e = gotAgg (noGot 4) ∧ Below w.heap.size w w' := by
  have h' : ¬ (8000 : Int) < (t.size : Int) := by omega
  have h2 : (k : Int) < (t.size : Int) := by omega
  have c1 := t[k].toNat_lt
  have HT : Hid (decide (tagOk (t[k].toNat : Int)) = true) := Lib.hid (decide_eq_true ht)
  have CL := Lib.hid (fun W => getLength_is t k W h hk hl)
  have g1 : (t.size : Int) < (e0 : Int) + (n : Int) := by omega
  have hen : e0 ≤ 8001 := by rcases lenR_form t (k + 1) with ⟨c, _, h3⟩ | ⟨n', e', h3, _, _, h4⟩ <;> rw [hl] at h3 <;> simp only [Prod.mk.injEq] at h3 <;> omega
  clear ht hl
  go_enter Try.func12, Try.ntmps12
  go_wp2_with fail
  refine (isTag_any (t[k].toNat : Int) _).mono ?_
  rintro e w1 ⟨rfl, rfl⟩
  rw [HT.out]
  go_wp2_with fail
  refine calls_by (fun W => Below w.heap.size w W ∧ Blk W w.heap.size [.int .i64 0, .string ByteArray.empty, .int .i64 0, .int .i64 0]) ⟨more' (Below.refl _ _) _, Blk.new _ _ _⟩ ?_
  rintro W1 ⟨b1, t1⟩
  have T1 := Lib.hid t1; clear t1
  refine (CL.out W1).mono ?_
  rintro e w2 ⟨rfl, hb⟩
  have B2 := Lib.hid (b1.trans (hb.mono b1.size)); have T2 := Lib.hid (T1.out.below hb)
  clear b1 hb T1 CL
  have T3 := Lib.hid (T2.out.alloc (.cells #[.int .i64 (n : Int), .int .i64 (e0 : Int), .int .i64 0] 41))
  have B3 := more' B2.out (.cells #[.int .i64 (n : Int), .int .i64 (e0 : Int), .int .i64 0] 41)
  have rf0 := T3.out.soft 0; have rz0 := T3.out.cell 0 rfl
  have rf1 := T3.out.soft 1; have rz1 := T3.out.cell 1 rfl
  have rf2 := T3.out.soft 2; have rz2 := T3.out.cell 2 rfl
  have rf3 := T3.out.soft 3; have rz3 := T3.out.cell 3 rfl
  have TE := ((((T3.out.set 0 (.int .i64 0)).set 1 (.string ⟨#[]⟩)).set 2 (.int .i64 0)).set 3 (.int .i64 4))
  have rj0 := TE.cell 0 rfl
  have rj1 := TE.cell 1 rfl
  have rj2 := TE.cell 2 rfl
  have rj3 := TE.cell 3 rfl
  clear TE
  have BE := Lib.hid ((((B3.setCell (p := ⟨w.heap.size, 0, none⟩) (by show w.heap.size ≤ w.heap.size; omega) (.int .i64 0)).setCell (p := ⟨w.heap.size, 1, none⟩) (by show w.heap.size ≤ w.heap.size; omega) (.string ⟨#[]⟩)).setCell (p := ⟨w.heap.size, 2, none⟩) (by show w.heap.size ≤ w.heap.size; omega) (.int .i64 0)).setCell (p := ⟨w.heap.size, 3, none⟩) (by show w.heap.size ≤ w.heap.size; omega) (.int .i64 4))
  go_wp2
  refine bodyPost_ret (v := .agg #[.int .i64 0, .string ⟨#[]⟩, .int .i64 0, .int .i64 4]) (by simp [results, Try.results12, go_sem, rj0, rj1, rj2, rj3]) rfl ?_
  exact ⟨rfl, BE.out⟩
set_option maxRecDepth 100000 in
set_option maxHeartbeats 2000000 in
theorem getI_ok (t : ByteArray) (k : Nat) (n e0 : Nat) (w : World) (h : t.size ≤ 8000) (hk : k < t.size) (ht : tagOk (t[k].toNat : Int)) (hl : lenR t (k + 1) = (0, n, e0)) (hn : n ≤ 4000) (he : e0 + n ≤ t.size) :
    Calls Try.prog 12 #[.string t, .int .i64 (k : Int)] w fun e w' => e = gotAgg (((t[k].toNat : Int), t.extract e0 (e0 + n)), ((e0 + n : Nat) : Int), 0) ∧ Below w.heap.size w w' := by
  have h' : ¬ (8000 : Int) < (t.size : Int) := by omega
  have h2 : (k : Int) < (t.size : Int) := by omega
  have c1 := t[k].toNat_lt
  have HT : Hid (decide (tagOk (t[k].toNat : Int)) = true) := Lib.hid (decide_eq_true ht)
  have CL := Lib.hid (fun W => getLength_is t k W h hk hl)
  have g1 : ¬ (t.size : Int) < (e0 : Int) + (n : Int) := by omega
  clear ht hl
  go_enter Try.func12, Try.ntmps12
  go_wp2_with fail
  refine (isTag_any (t[k].toNat : Int) _).mono ?_
  rintro e w1 ⟨rfl, rfl⟩
  rw [HT.out]
  go_wp2_with fail
  refine calls_by (fun W => Below w.heap.size w W ∧ Blk W w.heap.size [.int .i64 0, .string ByteArray.empty, .int .i64 0, .int .i64 0]) ⟨more' (Below.refl _ _) _, Blk.new _ _ _⟩ ?_
  rintro W1 ⟨b1, t1⟩
  have T1 := Lib.hid t1; clear t1
  refine (CL.out W1).mono ?_
  rintro e w2 ⟨rfl, hb⟩
  have B2 := Lib.hid (b1.trans (hb.mono b1.size)); have T2 := Lib.hid (T1.out.below hb)
  clear b1 hb T1 CL
  go_wp2_with fail
  refine (concat_oneB _ (t.extract e0 (e0 + n)) _ (by simp; omega) (by simp) (by simp)).mono ?_
  rintro e w5 ⟨rfl, hb⟩
  have T5 := Lib.hid (((T2.out.alloc (.cells #[.int .i64 (n : Int), .int .i64 (e0 : Int), .int .i64 0] 41)).alloc (.cells #[.string (t.extract e0 (e0 + n))] 9)).below hb)
  have b4 := more' (more' B2.out (.cells #[.int .i64 (n : Int), .int .i64 (e0 : Int), .int .i64 0] 41)) (.cells #[.string (t.extract e0 (e0 + n))] 9)
  have B5 := b4.trans (hb.mono b4.size)
  clear hb b4 B2 T2
  have rf0 := T5.out.soft 0; have rz0 := T5.out.cell 0 rfl
  have rf1 := T5.out.soft 1; have rz1 := T5.out.cell 1 rfl
  have rf2 := T5.out.soft 2; have rz2 := T5.out.cell 2 rfl
  have rf3 := T5.out.soft 3; have rz3 := T5.out.cell 3 rfl
  have TE := ((((T5.out.set 0 (.int .i64 (t[k].toNat : Int))).set 1 (.string (t.extract e0 (e0 + n)))).set 2 (.int .i64 ((e0 : Int) + (n : Int)))).set 3 (.int .i64 0))
  have rj0 := TE.cell 0 rfl
  have rj1 := TE.cell 1 rfl
  have rj2 := TE.cell 2 rfl
  have rj3 := TE.cell 3 rfl
  clear TE
  have BE := Lib.hid ((((B5.setCell (p := ⟨w.heap.size, 0, none⟩) (by show w.heap.size ≤ w.heap.size; omega) (.int .i64 (t[k].toNat : Int))).setCell (p := ⟨w.heap.size, 1, none⟩) (by show w.heap.size ≤ w.heap.size; omega) (.string (t.extract e0 (e0 + n)))).setCell (p := ⟨w.heap.size, 2, none⟩) (by show w.heap.size ≤ w.heap.size; omega) (.int .i64 ((e0 : Int) + (n : Int)))).setCell (p := ⟨w.heap.size, 3, none⟩) (by show w.heap.size ≤ w.heap.size; omega) (.int .i64 0))
  go_wp2
  refine bodyPost_ret (v := .agg #[.int .i64 (t[k].toNat : Int), .string (t.extract e0 (e0 + n)), .int .i64 ((e0 : Int) + (n : Int)), .int .i64 0]) (by simp [results, Try.results12, go_sem, rj0, rj1, rj2, rj3]) rfl ?_
  exact ⟨rfl, BE.out⟩
theorem BerGet_any (t : ByteArray) (x : Int) (w : World) (hm : t.size ≤ maxLen) (_hx : -9223372036854775808 ≤ x ∧ x ≤ 9223372036854775807) :
    Calls Try.prog 12 #[.string t, .int .i64 x] w fun e w' => e = gotAgg (getV t x) ∧ Below w.heap.size w w' := by
  by_cases h : 8000 < t.size
  · rw [getV_long h]; exact getI_long t x w hm h
  by_cases hx : x < 0
  · rw [getV_neg h hx]; exact getI_neg t x w (by omega) hx
  obtain ⟨k, rfl⟩ := Int.eq_ofNat_of_zero_le (show 0 ≤ x by omega)
  rw [getV_in h]
  by_cases hk : k < t.size
  · by_cases ht : tagOk (t[k].toNat : Int)
    · rcases lenR_form t (k + 1) with ⟨c, hc, hl⟩ | ⟨n, e, hl, h3, h4, h5⟩
      · rw [getN_len hk ht hc hl]; exact getI_len t k c w (by omega) hk ht hc hl
      · by_cases he : e + n ≤ t.size
        · rw [getN_ok hk ht hl he]; exact getI_ok t k n e w (by omega) hk ht hl h3 he
        · rw [getN_short hk ht hl he]; exact getI_short t k n e w (by omega) hk ht hl h3 he
    · rw [getN_tag hk ht]; exact getI_tag t k w (by omega) hk ht
  · rw [getN_end hk]; exact getI_end t k w (by omega) hk
end Go.Proofs.Ytohcdpoffpnfhaa
/- BER: rows of elements that a call makes. -/
namespace Go.Proofs.Ytohcdpoffpnfhaa
open Go.RowKit
set_option linter.unusedVariables false

theorem Try.infoTlv : (Try.prog.info? 25).map (fun i => (i.zero, i.size, i.bytes)) = some (some (.agg #[.int .i64 0, .string ByteArray.empty]), 2, 24) := by kernel_rfl
def ts (l : List TlvT) : List Value := l.flatMap fun r => [Value.int .i64 r.1, Value.string r.2]
theorem ts_snoc (l : List TlvT) (r : TlvT) : ts (l ++ [r]) = ts l ++ [.int .i64 r.1, .string r.2] := by simp [ts]
theorem ts_get (d : List TlvT) (i : Nat) (h : i < d.length) : (ts d)[i * 2]? = some (.int .i64 d[i].1) ∧ (ts d)[i * 2 + 1]? = some (.string d[i].2) := by
  induction d generalizing i with
  | nil => simp at h
  | cons r d ih =>
    cases i with
    | zero => simp [ts]
    | succ i =>
      have := ih i (by simpa using h)
      have e : ts (r :: d) = [Value.int .i64 r.1, Value.string r.2] ++ ts d := rfl
      rw [e]
      constructor
      · rw [List.getElem?_append_right (by simp; omega)]
        have : (i + 1) * 2 - [Value.int .i64 r.1, Value.string r.2].length = i * 2 := by simp; omega
        rw [this]; simpa using (ih i (by simpa using h)).1
      · rw [List.getElem?_append_right (by simp; omega)]
        have : (i + 1) * 2 + 1 - [Value.int .i64 r.1, Value.string r.2].length = i * 2 + 1 := by simp; omega
        rw [this]; simpa using (ih i (by simpa using h)).2
theorem own_tlvs {B : Nat} {w : World} {v : Value} {l : List TlvT} (h : w.ownsRow B 25 2 v l.length (ts l)) : SlOwn tlvE (fun b => B ≤ b ∧ b < w.heap.size) w l v :=
  Grow.own (T := 25) (xs := ts l) ⟨h, fun _ => Nil, fun i _ => ⟨fun b x => x.elim, fun _ _ x => x⟩, fun _ _ _ _ _ _ x => x.elim, fun i hi => ⟨[.int .i64 l[i].1, .string l[i].2], fun j hj => by
    have hj' : j < 2 := hj
    have hg := ts_get l i hi
    match j, hj' with
    | 0, _ => exact hg.1
    | 1, _ => exact hg.2, tlv_pack _ _ trivial⟩⟩
section
variable {ops : Array Oper} {rest : List Oper} {o : Oper} {a : Act} {Q : Exit → Act → World → Prop} {K : Act → World → Prop} {E : Prop} {w0 wr : World}
theorem append_tlv (B : Nat) (hgd : o.guard = none) (s x : Operand)
    (ho : o.op = .call { callee := .builtin .append, args := #[s, x], argTypes := #[31, 31] }) (v : Value) (pre : List TlvT) (hs : a.eval s = v) (hown : wr.ownsRow B 25 2 v pre.length (ts pre))
    (t : Int) (y : ByteArray) (N : Nat) (hN : N = wr.heap.size) (hx : a.eval x = .slice (some ⟨N, 0, none⟩) 1 1) (hlen : pre.length ≤ 1000000000) (hB : B ≤ wr.heap.size) (hbel : Below B w0 wr)
    (h : ∀ v' w', w'.ownsRow B 25 2 v' (pre ++ [(t, y)]).length (ts (pre ++ [(t, y)])) → Below B w0 w' → B ≤ w'.heap.size → (v'.ownBlock = v.ownBlock ∨ v'.ownBlock = some (wr.heap.size + 1)) → wr.grownBy w' v.ownBlock → wpList Try.prog ops Q rest (a.put o.dst v') w') :
    wpList Try.prog ops Q (o :: rest) a (wr.alloc (.cells #[.int .i64 t, .string y] 25)) := by
  subst hN
  obtain ⟨i0, hi, hz0, hz1, hz2⟩ := info_parts Try.infoTlv
  refine wpList_append_lies _ hgd s x 31 ho B 25 i0 _ 2 24 Try.underlying31 hi hz0 hz1 hz2 rfl (by decide) v pre.length (ts pre) hs (hown.alloc _) ⟨wr.heap.size, 0, none⟩ 1 1 [.int .i64 t, .string y] hx rfl (World.news_of_block (cs := #[.int .i64 t, .string y]) (t := 25) (fr := (0, 0)) (heap_alloc_new wr _)) ?_ (by omega) ?_ ?_ ?_ (wr.heap.size + 1) (by simp) ?_
  · intro u hu; simp at hu; rcases hu with rfl | rfl <;> rfl
  · unfold maxLen; omega
  · omega
  · simp; omega
  · intro g cap w' h1 h2 h3 h4
    have hb' : Below B w0 w' := (hbel.alloc hB _).grown h2 (by simp; omega) (fun k hk => (hown.lt k hk).1)
    refine h _ w' ?_ hb' (Nat.le_trans hB (by have := h2.size; simp at this; omega)) ?_ ((World.grownBy_alloc _ _ _).trans h2)
    · rw [ts_snoc]; simpa using h1
    · rcases h3 with h3 | h3
      · exact .inl h3.symm
      · exact .inr (by rw [h3]; rfl)
end
end Go.Proofs.Ytohcdpoffpnfhaa
/- BER: BerAll: what the program returns. -/
namespace Go.Proofs.Ytohcdpoffpnfhaa
open Go.RowKit
set_option linter.unusedVariables false
attribute [local go_sem ↓] Go.wp_at_zero Go.wp_at_succ

theorem BerGet_is (t : ByteArray) (k : Nat) (W : World) (ht : ¬ 8000 < t.size) (hk : k ≤ 8000) :
    Calls Try.prog 12 #[.string t, .int .i64 (k : Int)] W fun e w' => e = .returned (.agg #[.int .i64 (getN t k).1.1, .string (getN t k).1.2, .int .i64 (getN t k).2.1, .int .i64 (getN t k).2.2]) ∧ Below W.heap.size W w' := by
  have h := BerGet_any t (k : Int) W (by unfold maxLen; omega) (by omega)
  rw [getV_in ht] at h
  exact h
def tlvsAgg (u : Value) (c : Int) : Ending := .returned (.agg #[u, .int .i64 c])
theorem own_none (S : Bs) (w : World) : SlOwn tlvE S w [] (.slice none 0 0) := ⟨none, 0, rfl, Nat.le_refl _, fun _ => rfl, .inl rfl⟩
theorem blk_keep {w w' : World} {B g : Nat} {cs : List Value} (h : Blk w g cs) (hb : Below B w w') (hg : g < B) : Blk w' g cs := by
  obtain ⟨T, h⟩ := h
  exact ⟨T, (hb.block g hg).trans h⟩
set_option maxRecDepth 100000 in
set_option maxHeartbeats 4000000 in
theorem BerAll_in (t : ByteArray) (w : World) (h : ¬ 8000 < t.size) :
    Calls Try.prog 15 #[.string t] w fun e w' => (∃ u, e = tlvsAgg u (allV t).2 ∧ SlOwn tlvE (Fresh w w') w' (allV t).1 u) ∧ Below w.heap.size w w' := by
  have HG := Lib.hid (fun W k hk => BerGet_is t k W h hk)
  have HA := Lib.hid (reach_start h)
  go_enter Try.func15, Try.ntmps15
  go_wp2_with fail
  refine wp_world (fun W => Below w.heap.size w W ∧ Blk W w.heap.size [.slice none 0 0, .int .i64 0] ∧ W.heap.size = w.heap.size + 1) ⟨more' (Below.refl _ _) _, Blk.new _ _ _, by simp⟩ ?_
  rintro W1 ⟨b1, t1, z1⟩
  have T1 := Lib.hid t1; have B1 := Lib.hid b1; have Z1 := Lib.hid z1; clear t1 b1 z1
  go_loopw [3, 4] (fun v i wr => ∃ (k : Nat) (a : List TlvT), GoneTo t k a ∧ i = .int .i64 (k : Int) ∧ wr.ownsRow (w.heap.size + 1) 25 2 v a.length (ts a) ∧ Below (w.heap.size + 1) W1 wr) (fun _ i _ => t.size - (intOf i).toNat)
  case atStart => exact ⟨0, [], HA.out, rfl, ⟨rfl, .inl ⟨rfl, rfl⟩⟩, Below.refl _ _⟩
  case round =>
    obtain ⟨k, a, hr, rfl, hown, hbel⟩ := hrel
    have HR := Lib.hid hr; have HO := Lib.hid hown; have HB := Lib.hid hbel
    have hkt := hr.1; have ha := hr.2.1
    have hsz : w.heap.size + 1 ≤ wr.heap.size := by have := hbel.size; have := Z1.out; omega
    clear hr hown hbel
    by_cases hlt : k < t.size
    · have g1 : (k : Int) < (t.size : Int) := by omega
      have HNK := Lib.hid (fun hc => getN_at (t := t) (k := k) hc)
      have HST := Lib.hid (fun e hc h6 he hke het => reach_step (e := e) HR.out hlt hc h6 he hke het)
      have HBD := Lib.hid (fun hc => reach_bad HR.out hlt hc)
      have HFU := Lib.hid (fun hc h6 => reach_full HR.out hlt hc h6)
      have CG := Lib.hid (fun W => HG.out W k (by omega))
      rcases hN : getN t k with ⟨⟨tg, bd⟩, atv, cd⟩
      rw [hN] at HNK HST HBD HFU CG
      dsimp only at HNK HST HBD HFU CG
      clear hN
      go_wp2_with fail
      refine (CG.out _).mono ?_
      rintro e w2 ⟨rfl, hb⟩
      have B2 := Lib.hid (HB.out.trans (hb.mono hsz))
      have O2 := Lib.hid (own_below HO.out hb)
      have hs2 := B2.out.size
      clear CG hb HO
      have T3 := Lib.hid ((blk_keep T1.out B2.out (Nat.lt_succ_self _)).alloc (.cells #[.int .i64 tg, .string bd, .int .i64 atv, .int .i64 cd] 27))
      have B3 := Lib.hid (B1.out.trans ((B2.out.alloc (by have := Z1.out; omega) (.cells #[.int .i64 tg, .string bd, .int .i64 atv, .int .i64 cd] 27)).mono (by omega)))
      by_cases hc : cd = 0
      · subst hc
        obtain ⟨e, he, hke, het, hbs⟩ := HNK.out rfl
        try dsimp only at he
        subst he
        by_cases h6 : a.length < 60
        · have HS := Lib.hid (HST.out e rfl h6 rfl (by omega) het)
          have h6' : ((a.length : Int) == 60) = false := by rw [beq_eq_false_iff_ne]; omega
          obtain ⟨p7, q7, hv7⟩ := own_slice O2.out
          subst hv7
          clear HNK HST HBD HFU T3
          have O3 := Lib.hid (O2.out.alloc (.cells #[.int .i64 tg, .string bd, .int .i64 (e : Int), .int .i64 0] 27))
          have D3 := Lib.hid (B2.out.alloc (by have := Z1.out; omega) (.cells #[.int .i64 tg, .string bd, .int .i64 (e : Int), .int .i64 0] 27))
          have X3 := Lib.hid (Blk.new w2 27 [.int .i64 tg, .string bd, .int .i64 (e : Int), .int .i64 0])
          have hz3 : Hid (w2.heap.size + 1 = (w2.alloc (.cells #[.int .i64 tg, .string bd, .int .i64 (e : Int), .int .i64 0] 27)).heap.size) := Lib.hid (by simp)
          have hz4 : Hid (w.heap.size + 1 ≤ (w2.alloc (.cells #[.int .i64 tg, .string bd, .int .i64 (e : Int), .int .i64 0] 27)).heap.size) := Lib.hid (by simp only [World.alloc, Array.size_push]; have := Z1.out; omega)
          have HL : Hid (a.length ≤ 1000000000) := Lib.hid (by omega)
          have HN : Hid (∀ g, (Value.slice p7 a.length q7).ownBlock = some g → g < w2.heap.size) := Lib.hid (fun g hg => (O2.out.lt g hg).2)
          go_wp2_with (first
            | (at_builtin; refine append_tlv (w.heap.size + 1) rfl _ _ rfl _ a rfl O3.out tg bd _ hz3.out rfl HL.out hz4.out D3.out ?_; intro v5 w5 h5 d5 z5 _ gr5
               have HX5 := Lib.hid (show Blk w5 w2.heap.size [.int .i64 tg, .string bd, .int .i64 (e : Int), .int .i64 0] from by
                 obtain ⟨T, hT⟩ := X3.out
                 exact ⟨T, (gr5.block w2.heap.size (by simp) (fun e0 => by have := HN.out _ e0.symm; omega)).trans hT⟩)
               have H5 := Lib.hid h5; have E5 := Lib.hid d5
               have x1 := HX5.out.cell 2 rfl
               clear h5 d5 O3 D3 gr5)
            | (fail "none"))
          go_roundw
          case rel => exact ⟨e, a ++ [(tg, bd)], HS.out, rfl, H5.out, E5.out⟩
          case measure => simp [intOf]; omega
        · have HV := Lib.hid (HFU.out rfl h6)
          have h6' : a.length = 60 := by omega
          obtain ⟨p7, q7, hv7⟩ := own_slice O2.out
          subst hv7
          rw [h6'] at *
          clear HNK HST HBD HFU h6
          have rf0 := T3.out.soft 0; have rz0 := T3.out.cell 0 rfl
          have rf1 := T3.out.soft 1; have rz1 := T3.out.cell 1 rfl
          have TE := ((T3.out.set 0 (.slice none 0 0)).set 1 (.int .i64 9))
          have rj0 := TE.cell 0 rfl
          have rj1 := TE.cell 1 rfl
          clear TE
          have BE := Lib.hid ((B3.out.setCell (p := ⟨w.heap.size, 0, none⟩) (by show w.heap.size ≤ w.heap.size; omega) (.slice none 0 0)).setCell (p := ⟨w.heap.size, 1, none⟩) (by show w.heap.size ≤ w.heap.size; omega) (.int .i64 9))
          go_wp2
          refine bodyPost_ret (v := .agg #[.slice none 0 0, .int .i64 9]) (by simp [results, Try.results15, go_sem, rj0, rj1]) rfl ?_
          exact ⟨⟨.slice none 0 0, by rw [HV.out]; rfl, by rw [HV.out]; exact own_none _ _⟩, BE.out⟩
      · have HV := Lib.hid (HBD.out hc)
        have hc' : (cd == 0) = false := by rw [beq_eq_false_iff_ne]; exact hc
        clear HNK HST HBD HFU hc
        have rf0 := T3.out.soft 0; have rz0 := T3.out.cell 0 rfl
        have rf1 := T3.out.soft 1; have rz1 := T3.out.cell 1 rfl
        have TE := ((T3.out.set 0 (.slice none 0 0)).set 1 (.int .i64 cd))
        have rj0 := TE.cell 0 rfl
        have rj1 := TE.cell 1 rfl
        clear TE
        have BE := Lib.hid ((B3.out.setCell (p := ⟨w.heap.size, 0, none⟩) (by show w.heap.size ≤ w.heap.size; omega) (.slice none 0 0)).setCell (p := ⟨w.heap.size, 1, none⟩) (by show w.heap.size ≤ w.heap.size; omega) (.int .i64 cd))
        go_wp2
        refine bodyPost_ret (v := .agg #[.slice none 0 0, .int .i64 cd]) (by simp [results, Try.results15, go_sem, rj0, rj1]) rfl ?_
        exact ⟨⟨.slice none 0 0, by rw [HV.out]; rfl, by rw [HV.out]; exact own_none _ _⟩, BE.out⟩
    · have HV := Lib.hid (reach_end HR.out hlt)
      have g1 : ¬ (k : Int) < (t.size : Int) := by omega
      have T3 := Lib.hid (blk_keep T1.out HB.out (Nat.lt_succ_self _))
      have B3 := Lib.hid (B1.out.trans (HB.out.mono (Nat.le_succ _)))
      obtain ⟨p7, q7, hv7⟩ := own_slice HO.out
      subst hv7
      have rf0 := T3.out.soft 0; have rz0 := T3.out.cell 0 rfl
      have rf1 := T3.out.soft 1; have rz1 := T3.out.cell 1 rfl
      have TE := ((T3.out.set 0 (.slice p7 a.length q7)).set 1 (.int .i64 0))
      have rj0 := TE.cell 0 rfl
      have rj1 := TE.cell 1 rfl
      clear TE
      have BE := Lib.hid ((B3.out.setCell (p := ⟨w.heap.size, 0, none⟩) (by show w.heap.size ≤ w.heap.size; omega) (.slice p7 a.length q7)).setCell (p := ⟨w.heap.size, 1, none⟩) (by show w.heap.size ≤ w.heap.size; omega) (.int .i64 0))
      go_wp2
      refine bodyPost_ret (v := .agg #[.slice p7 a.length q7, .int .i64 0]) (by simp [results, Try.results15, go_sem, rj0, rj1]) rfl ?_
      have HOW := Lib.hid (own_tlvs HO.out)
      refine ⟨⟨.slice p7 a.length q7, by rw [HV.out]; rfl, ?_⟩, BE.out⟩
      rw [HV.out]
      have HF : SlOwn tlvE (fun b => w.heap.size + 1 ≤ b ∧ b < wr.heap.size) _ a (.slice p7 a.length q7) := ((HOW.out.frame (Same.set _ (g := w.heap.size) 0 (.slice p7 a.length q7) (by intro h; have := h.1; omega))).frame (Same.set _ (g := w.heap.size) 1 (.int .i64 0) (by intro h; have := h.1; omega)))
      exact HF.wide (fun b hb => ⟨by have := hb.1; omega, by have := hb.2; simpa [World.setCell] using this⟩)
end Go.Proofs.Ytohcdpoffpnfhaa
