/- Merged texts: ClsS1a. -/
import Derived.Test.YtohcdpoffpnfhaaGreatDoorM9
import Derived.Test.YtohcdpoffpnfhaaGreatDoorM4
/- SchemaRight: what the specification returns; one class. -/
namespace Go.Proofs.YtohcdpoffpnfhaaGreatDoor
open Go.RowKit
attribute [local go_sem ↓] Go.wp_at_zero Go.wp_at_succ

theorem classB_eq (c : ClassV) : classB c = (nmL c.nm && (decide (c.must.length ≤ 10) && (decide (c.may.length ≤ 10) && (decide (c.one.length ≤ 10) && (namesB c.must && (namesB c.may && (namesB c.one && ((c.must.all fun x => !(hasS c.may x)) && ((c.one.all fun x => hasS c.may x || hasS c.must x) && (!(hasS c.must clsT) && !(hasS c.may clsT))))))))))) := by
  have h : (fun x => hasS (c.must ++ c.may) x) = fun x => hasS c.may x || hasS c.must x := by
    funext x; rw [hasS_append, Bool.or_comm]
  unfold classB names10
  rw [h, hasS_append, Bool.not_or]
  ac_rfl
theorem all_take_no {l m : List ByteArray} {k : Nat} (hk : k < l.length) (h : hasS m l[k] = true) : (l.all fun x => !(hasS m x)) = false := all_bad (fun x => !(hasS m x)) l k hk (by simp [h])
set_option maxRecDepth 100000 in
set_option maxHeartbeats 4000000 in
theorem l05Class_any (c : ClassV) (v1 v2 v3 : Value) (w : World) (h1 : SlV w v1 c.must) (h2 : SlV w v2 c.may) (h3 : SlV w v3 c.one) (f : FitsC1 c) :
    Calls Tryz.prog 103 #[.agg #[.string c.nm, v1, v2, v3]] w fun e w' => e = .returned (.bool (classB c)) ∧ Below w.heap.size w w' := by
  have HE := Lib.hid (classB_eq c)
  have hn : c.nm.size ≤ maxLen := by have := f.nm; unfold maxLen; omega
  obtain ⟨o1, k1, rfl, s1, _⟩ := h1
  obtain ⟨o2, k2, rfl, s2, _⟩ := h2
  obtain ⟨o3, k3, rfl, s3, _⟩ := h3
  have N1 : Hid (∀ W : World, Below w.heap.size w W → Calls Tryz.prog 149 #[.slice o1 c.must.length k1] W fun e w' => e = .returned (.bool (namesB c.must)) ∧ Below W.heap.size W w') := Lib.hid (fun W b => l04Names_any o1 c.must k1 W (s1.below b) f.must)
  have N2 : Hid (∀ W : World, Below w.heap.size w W → Calls Tryz.prog 149 #[.slice o2 c.may.length k2] W fun e w' => e = .returned (.bool (namesB c.may)) ∧ Below W.heap.size W w') := Lib.hid (fun W b => l04Names_any o2 c.may k2 W (s2.below b) f.may)
  have N3 : Hid (∀ W : World, Below w.heap.size w W → Calls Tryz.prog 149 #[.slice o3 c.one.length k3] W fun e w' => e = .returned (.bool (namesB c.one)) ∧ Below W.heap.size W w') := Lib.hid (fun W b => l04Names_any o3 c.one k3 W (s3.below b) f.one)
  have E1 : Hid (∀ (W : World) (x : ByteArray), Below w.heap.size w W → Calls Tryz.prog 108 #[.slice o1 c.must.length k1, .string x] W fun e w' => e = .returned (.bool (hasS c.must x)) ∧ w' = W) := Lib.hid (fun W x b => l04Has_any o1 c.must k1 x W (s1.below b) (by have := f.must.1; omega))
  have E2 : Hid (∀ (W : World) (x : ByteArray), Below w.heap.size w W → Calls Tryz.prog 108 #[.slice o2 c.may.length k2, .string x] W fun e w' => e = .returned (.bool (hasS c.may x)) ∧ w' = W) := Lib.hid (fun W x b => l04Has_any o2 c.may k2 x W (s2.below b) (by have := f.may.1; omega))
  have S1 := Lib.hid s1; have S3 := Lib.hid s3
  have l1 := f.must.1; have l2 := f.may.1; have l3 := f.one.1
  clear s1 s2 s3 f
  go_enter Tryz.func103, Tryz.ntmps103
  go_wp2_with fail
  refine calls_any' (fun W => Below w.heap.size w W ∧ Quad W w.heap.size 85 (.string c.nm) (.slice o1 c.must.length k1) (.slice o2 c.may.length k2) (.slice o3 c.one.length k3)) ⟨more (Below.refl _ _) _, quadNew _ _ _ _ _ _⟩ ?_
  rintro W1 ⟨b1, t1⟩
  have T1 := Lib.hid t1; clear t1
  refine (SpecNameRight_any _ W1 hn).mono ?_
  rintro e w' ⟨rfl, rfl⟩
  obtain ⟨q0, q1, q2, q3⟩ := T1.out.cells
  cases h0 : nmL c.nm
  · rw [h0] at HE
    go_wp2
    go_ret
    exact ⟨ret_bool (by rw [HE.out]; simp), b1⟩
  rw [h0] at HE
  by_cases d1 : c.must.length ≤ 10
  rotate_left
  · have g1 : 10 < (c.must.length : Int) := by omega
    rw [decide_eq_false d1] at HE
    go_wp2
    go_ret
    exact ⟨ret_bool (by rw [HE.out]; simp), b1⟩
  have g1 : ¬ 10 < (c.must.length : Int) := by omega
  rw [decide_eq_true d1] at HE
  by_cases d2 : c.may.length ≤ 10
  rotate_left
  · have g2 : 10 < (c.may.length : Int) := by omega
    rw [decide_eq_false d2] at HE
    go_wp2
    go_ret
    exact ⟨ret_bool (by rw [HE.out]; simp), b1⟩
  have g2 : ¬ 10 < (c.may.length : Int) := by omega
  rw [decide_eq_true d2] at HE
  by_cases d3 : c.one.length ≤ 10
  rotate_left
  · have g3 : 10 < (c.one.length : Int) := by omega
    rw [decide_eq_false d3] at HE
    go_wp2
    go_ret
    exact ⟨ret_bool (by rw [HE.out]; simp), b1⟩
  have g3 : ¬ 10 < (c.one.length : Int) := by omega
  rw [decide_eq_true d3] at HE
  
  go_wp2_with fail
  refine (N1.out _ b1).mono ?_
  rintro e w2 ⟨rfl, hb⟩
  have T2 := Lib.hid (T1.out.below hb); have b2 := b1.trans (hb.mono b1.size)
  clear hb q0 q1 q2 q3 T1 b1 N1
  cases h1 : namesB c.must
  · rw [h1] at HE
    go_wp2
    go_ret
    exact ⟨ret_bool (by rw [HE.out]; simp), b2⟩
  rw [h1] at HE
  obtain ⟨q0, q1, q2, q3⟩ := T2.out.cells
  go_wp2_with fail
  refine (N2.out _ b2).mono ?_
  rintro e w3 ⟨rfl, hb⟩
  have T3 := Lib.hid (T2.out.below hb); have b3 := b2.trans (hb.mono b2.size)
  clear hb q0 q1 q2 q3 T2 b2 N2
  cases h2 : namesB c.may
  · rw [h2] at HE
    go_wp2
    go_ret
    exact ⟨ret_bool (by rw [HE.out]; simp), b3⟩
  rw [h2] at HE
  obtain ⟨q0, q1, q2, q3⟩ := T3.out.cells
  go_wp2_with fail
  refine (N3.out _ b3).mono ?_
  rintro e w4 ⟨rfl, hb⟩
  have T4 := Lib.hid (T3.out.below hb); have b4 := b3.trans (hb.mono b3.size)
  clear hb q0 q1 q2 q3 T3 b3 N3
  cases h3 : namesB c.one
  · rw [h3] at HE
    go_wp2
    go_ret
    exact ⟨ret_bool (by rw [HE.out]; simp), b4⟩
  rw [h3] at HE
  have b5 : Below w4.heap.size w4 w4 := Below.refl _ _
  go_wp2
  clear g1 g2 g3 d1 d2 d3 h1 h2 h3
  go_loopw [3] (fun i wr => ∃ k : Nat, k ≤ c.must.length ∧ i = .int .i64 k ∧ (∀ j (h : j < c.must.length), j < k → hasS c.may c.must[j] = false) ∧ Below w4.heap.size w4 wr) (fun i _ => c.must.length - (intOf i).toNat)
  case atStart => exact ⟨0, Nat.zero_le _, rfl, fun j _ h => absurd h (Nat.not_lt_zero _), b5⟩
  case round =>
    obtain ⟨k, hk, rfl, ha, hb4⟩ := hrel
    have Ha := Lib.hid ha; clear ha
    have T5 := Lib.hid (T4.out.below hb4)
    have hbel := b4.trans (hb4.mono b4.size)
    obtain ⟨q0, q1, q2, q3⟩ := T5.out.cells
    by_cases hlt : k < c.must.length
    · have g1 : (0 : Int) ≤ (k : Int) := by omega
      have g2 : (k : Int) < (c.must.length : Int) := by omega
      have HY : Hid (hasS c.may c.must[k] = true → (c.must.all fun x => !(hasS c.may x)) = false) := Lib.hid (fun h => all_take_no hlt h)
      have HN : Hid (hasS c.may c.must[k] = false → ∀ j (h : j < c.must.length), j < k + 1 → hasS c.may c.must[j] = false) := Lib.hid (fun hn j h hj => by
        by_cases e : j = k
        · subst e; exact hn
        · exact Ha.out j h (by omega))
      obtain ⟨b, off, rfl, hw0, hd1⟩ := S1.out.at hlt
      generalize c.must[k] = x at *
      have SK : Hid (∀ Z' : World, Below wr.heap.size wr Z' → ((Z'.cell? ⟨w.heap.size, 0, none⟩ = some (.string c.nm) ∧ Z'.cell? ⟨w.heap.size, 1, none⟩ = some (.slice (some ⟨b, off, none⟩) c.must.length k1) ∧ Z'.cell? ⟨w.heap.size, 2, none⟩ = some (.slice o2 c.may.length k2) ∧ Z'.cell? ⟨w.heap.size, 3, none⟩ = some (.slice o3 c.one.length k3)) ∧ Z'.cell? ⟨b, off + k, none⟩ = some (.string x))) := Lib.hid (fun Z' h => ⟨(T5.out.below h).cells, ((hbel.trans (h.mono hbel.size)).cell (p := ⟨b, _, none⟩) hw0).trans hd1⟩)
      have E2' : Hid (∀ W : World, Below wr.heap.size wr W → Calls Tryz.prog 108 #[.slice o2 c.may.length k2, .string x] W fun e w' => e = .returned (.bool (hasS c.may x)) ∧ w' = W) := Lib.hid (fun W h => E2.out W x (hbel.trans (h.mono hbel.size)))
      have hb0 : Below wr.heap.size wr wr := Below.refl _ _
      have hbd := hb0.drew
      have HB4 := Lib.hid hb4; have HBl := Lib.hid hbel
      clear hd1 hb4 hbel
      cases hq : hasS c.may x
      · have HN' := Lib.hid (HN.out hq)
        go_wp2_with fail
        refine wp_region_held_drew (S := (fun Z' => (Z'.cell? ⟨w.heap.size, 0, none⟩ = some (.string c.nm) ∧ Z'.cell? ⟨w.heap.size, 1, none⟩ = some (.slice (some ⟨b, off, none⟩) c.must.length k1) ∧ Z'.cell? ⟨w.heap.size, 2, none⟩ = some (.slice o2 c.may.length k2) ∧ Z'.cell? ⟨w.heap.size, 3, none⟩ = some (.slice o3 c.one.length k3)) ∧ Z'.cell? ⟨b, off + k, none⟩ = some (.string x))) (by kernel_rfl) ?_ (fun hHeld => ?_)
        · (try dsimp only)
          first | exact SK.out _ (by assumption) | exact SK.out _ hbd
        refine wpAnyH_take (i := 0) (oi := { dst := some 52, op := Op.fieldAddr 85 (Operand.tmp 1) 2, type := 0, pos := "l05_schema.go:10", after := #[], guard := none }) (v := ?_) rfl (by kernel_rfl) (by kernel_rfl) (by kernel_rfl) (fun _ _ _ h => h) (Or.inl ⟨by rfl, ?_⟩) (by assumption) ?_
        rotate_left
        · intro w hSw; (try dsimp only at hSw); go_simp; (try with_reducible rfl)
        (try simp only [Act.put, List.setIfInBounds_toArray, List.set_cons_zero, List.set_cons_succ])
        refine wpAnyH_take (i := 1) (oi := { dst := some 53, op := Op.load 79 (Operand.tmp 52), type := 79, pos := "l05_schema.go:10", after := #[{ on := 0, ground := Ground.data }], guard := none }) (v := ?_) rfl (by kernel_rfl) (by kernel_rfl) (by kernel_rfl) (fun _ _ _ h => h) (Or.inl ⟨by rfl, ?_⟩) (by assumption) ?_
        rotate_left
        · intro w hSw; (try dsimp only at hSw); go_simp; (try with_reducible rfl)
        (try simp only [Act.put, List.setIfInBounds_toArray, List.set_cons_zero, List.set_cons_succ])
        refine wpAnyH_take (i := 2) (oi := { dst := some 54, op := Op.fieldAddr 85 (Operand.tmp 1) 1, type := 0, pos := "l05_schema.go:10", after := #[], guard := none }) (v := ?_) rfl (by kernel_rfl) (by kernel_rfl) (by kernel_rfl) (fun _ _ _ h => h) (Or.inl ⟨by rfl, ?_⟩) (by assumption) ?_
        rotate_left
        · intro w hSw; (try dsimp only at hSw); go_simp; (try with_reducible rfl)
        (try simp only [Act.put, List.setIfInBounds_toArray, List.set_cons_zero, List.set_cons_succ])
        refine wpAnyH_take (i := 3) (oi := { dst := some 55, op := Op.load 79 (Operand.tmp 54), type := 79, pos := "l05_schema.go:10", after := #[{ on := 2, ground := Ground.data }], guard := none }) (v := ?_) rfl (by kernel_rfl) (by kernel_rfl) (by kernel_rfl) (fun _ _ _ h => h) (Or.inl ⟨by rfl, ?_⟩) (by assumption) ?_
        rotate_left
        · intro w hSw; (try dsimp only at hSw); go_simp; (try with_reducible rfl)
        (try simp only [Act.put, List.setIfInBounds_toArray, List.set_cons_zero, List.set_cons_succ])
        refine wpAnyH_take (i := 4) (oi := { dst := some 56, op := Op.move (Operand.tmp 3), type := 3, pos := "l05_schema.go:10", after := #[], guard := none }) (v := ?_) rfl (by kernel_rfl) (by kernel_rfl) (by kernel_rfl) (fun _ _ _ h => h) (Or.inl ⟨by rfl, ?_⟩) (by assumption) ?_
        rotate_left
        · intro w hSw; (try dsimp only at hSw); go_simp; (try with_reducible rfl)
        (try simp only [Act.put, List.setIfInBounds_toArray, List.set_cons_zero, List.set_cons_succ])
        refine wpAnyH_take (i := 5) (oi := { dst := some 57, op := Op.indexAddr 79 (Operand.tmp 55) (Operand.tmp 56), type := 0, pos := "l05_schema.go:10", after := #[{ on := 3, ground := Ground.data }, { on := 4, ground := Ground.data }], guard := none }) (v := ?_) rfl (by kernel_rfl) (by kernel_rfl) (by kernel_rfl) (fun _ _ _ h => h) (Or.inl ⟨by rfl, ?_⟩) (by assumption) ?_
        rotate_left
        · intro w hSw; (try dsimp only at hSw); go_simp; (try with_reducible rfl)
        (try simp only [Act.put, List.setIfInBounds_toArray, List.set_cons_zero, List.set_cons_succ])
        refine wpAnyH_take (i := 6) (oi := { dst := some 58, op := Op.load 9 (Operand.tmp 57), type := 9, pos := "l05_schema.go:10", after := #[{ on := 5, ground := Ground.data }], guard := none }) (v := ?_) rfl (by kernel_rfl) (by kernel_rfl) (by kernel_rfl) (fun _ _ _ h => h) (Or.inl ⟨by rfl, ?_⟩) (by assumption) ?_
        rotate_left
        · intro w hSw; (try dsimp only at hSw); go_simp; (try with_reducible rfl)
        (try simp only [Act.put, List.setIfInBounds_toArray, List.set_cons_zero, List.set_cons_succ])
        refine wpAnyH_ready (rs := [7]) (by kernel_rfl) (by simp) ?_
        refine AllReadyH.cons (o := { dst := some 59, op := Op.call { callee := Callee.value (Operand.func 108), args := #[Operand.tmp 53, Operand.tmp 58], argTypes := #[79, 9] }, type := 4, pos := "l05_schema.go:10", after := #[{ on := 1, ground := Ground.data }, { on := 6, ground := Ground.data }], guard := none }) rfl (fun K hK => ?_) (AllReadyH.nil)
        go_simp
        refine (E2'.out _ (by first | assumption | exact hbd)).mono ?_
        rintro e wx ⟨rfl, rfl⟩
        rw [hq]
        clear hHeld
        refine hK.out _ _ ?_ (fun hHeld => ?_)
        · (try dsimp only)
          first | exact SK.out _ (by assumption) | exact SK.out _ hbd
        clear hK K
        (try simp only [Act.put, List.setIfInBounds_toArray, List.set_cons_zero, List.set_cons_succ])
        refine wpAnyH_done (by kernel_rfl) ?_ _
        clear hHeld
        go_wp2
        go_roundw
        case rel => exact ⟨k + 1, by omega, by go_num, HN'.out, by first | exact HB4.out | exact HB4.out.drew⟩
        case measure => simp [intOf]; omega
      · have HY' := Lib.hid (HY.out hq)
        rw [HY'.out] at HE
        go_wp2_with fail
        refine wp_region_held_drew (S := (fun Z' => (Z'.cell? ⟨w.heap.size, 0, none⟩ = some (.string c.nm) ∧ Z'.cell? ⟨w.heap.size, 1, none⟩ = some (.slice (some ⟨b, off, none⟩) c.must.length k1) ∧ Z'.cell? ⟨w.heap.size, 2, none⟩ = some (.slice o2 c.may.length k2) ∧ Z'.cell? ⟨w.heap.size, 3, none⟩ = some (.slice o3 c.one.length k3)) ∧ Z'.cell? ⟨b, off + k, none⟩ = some (.string x))) (by kernel_rfl) ?_ (fun hHeld => ?_)
        · (try dsimp only)
          first | exact SK.out _ (by assumption) | exact SK.out _ hbd
        refine wpAnyH_take (i := 0) (oi := { dst := some 52, op := Op.fieldAddr 85 (Operand.tmp 1) 2, type := 0, pos := "l05_schema.go:10", after := #[], guard := none }) (v := ?_) rfl (by kernel_rfl) (by kernel_rfl) (by kernel_rfl) (fun _ _ _ h => h) (Or.inl ⟨by rfl, ?_⟩) (by assumption) ?_
        rotate_left
        · intro w hSw; (try dsimp only at hSw); go_simp; (try with_reducible rfl)
        (try simp only [Act.put, List.setIfInBounds_toArray, List.set_cons_zero, List.set_cons_succ])
        refine wpAnyH_take (i := 1) (oi := { dst := some 53, op := Op.load 79 (Operand.tmp 52), type := 79, pos := "l05_schema.go:10", after := #[{ on := 0, ground := Ground.data }], guard := none }) (v := ?_) rfl (by kernel_rfl) (by kernel_rfl) (by kernel_rfl) (fun _ _ _ h => h) (Or.inl ⟨by rfl, ?_⟩) (by assumption) ?_
        rotate_left
        · intro w hSw; (try dsimp only at hSw); go_simp; (try with_reducible rfl)
        (try simp only [Act.put, List.setIfInBounds_toArray, List.set_cons_zero, List.set_cons_succ])
        refine wpAnyH_take (i := 2) (oi := { dst := some 54, op := Op.fieldAddr 85 (Operand.tmp 1) 1, type := 0, pos := "l05_schema.go:10", after := #[], guard := none }) (v := ?_) rfl (by kernel_rfl) (by kernel_rfl) (by kernel_rfl) (fun _ _ _ h => h) (Or.inl ⟨by rfl, ?_⟩) (by assumption) ?_
        rotate_left
        · intro w hSw; (try dsimp only at hSw); go_simp; (try with_reducible rfl)
        (try simp only [Act.put, List.setIfInBounds_toArray, List.set_cons_zero, List.set_cons_succ])
        refine wpAnyH_take (i := 3) (oi := { dst := some 55, op := Op.load 79 (Operand.tmp 54), type := 79, pos := "l05_schema.go:10", after := #[{ on := 2, ground := Ground.data }], guard := none }) (v := ?_) rfl (by kernel_rfl) (by kernel_rfl) (by kernel_rfl) (fun _ _ _ h => h) (Or.inl ⟨by rfl, ?_⟩) (by assumption) ?_
        rotate_left
        · intro w hSw; (try dsimp only at hSw); go_simp; (try with_reducible rfl)
        (try simp only [Act.put, List.setIfInBounds_toArray, List.set_cons_zero, List.set_cons_succ])
        refine wpAnyH_take (i := 4) (oi := { dst := some 56, op := Op.move (Operand.tmp 3), type := 3, pos := "l05_schema.go:10", after := #[], guard := none }) (v := ?_) rfl (by kernel_rfl) (by kernel_rfl) (by kernel_rfl) (fun _ _ _ h => h) (Or.inl ⟨by rfl, ?_⟩) (by assumption) ?_
        rotate_left
        · intro w hSw; (try dsimp only at hSw); go_simp; (try with_reducible rfl)
        (try simp only [Act.put, List.setIfInBounds_toArray, List.set_cons_zero, List.set_cons_succ])
        refine wpAnyH_take (i := 5) (oi := { dst := some 57, op := Op.indexAddr 79 (Operand.tmp 55) (Operand.tmp 56), type := 0, pos := "l05_schema.go:10", after := #[{ on := 3, ground := Ground.data }, { on := 4, ground := Ground.data }], guard := none }) (v := ?_) rfl (by kernel_rfl) (by kernel_rfl) (by kernel_rfl) (fun _ _ _ h => h) (Or.inl ⟨by rfl, ?_⟩) (by assumption) ?_
        rotate_left
        · intro w hSw; (try dsimp only at hSw); go_simp; (try with_reducible rfl)
        (try simp only [Act.put, List.setIfInBounds_toArray, List.set_cons_zero, List.set_cons_succ])
        refine wpAnyH_take (i := 6) (oi := { dst := some 58, op := Op.load 9 (Operand.tmp 57), type := 9, pos := "l05_schema.go:10", after := #[{ on := 5, ground := Ground.data }], guard := none }) (v := ?_) rfl (by kernel_rfl) (by kernel_rfl) (by kernel_rfl) (fun _ _ _ h => h) (Or.inl ⟨by rfl, ?_⟩) (by assumption) ?_
        rotate_left
        · intro w hSw; (try dsimp only at hSw); go_simp; (try with_reducible rfl)
        (try simp only [Act.put, List.setIfInBounds_toArray, List.set_cons_zero, List.set_cons_succ])
        refine wpAnyH_ready (rs := [7]) (by kernel_rfl) (by simp) ?_
        refine AllReadyH.cons (o := { dst := some 59, op := Op.call { callee := Callee.value (Operand.func 108), args := #[Operand.tmp 53, Operand.tmp 58], argTypes := #[79, 9] }, type := 4, pos := "l05_schema.go:10", after := #[{ on := 1, ground := Ground.data }, { on := 6, ground := Ground.data }], guard := none }) rfl (fun K hK => ?_) (AllReadyH.nil)
        go_simp
        refine (E2'.out _ (by first | assumption | exact hbd)).mono ?_
        rintro e wx ⟨rfl, rfl⟩
        rw [hq]
        clear hHeld
        refine hK.out _ _ ?_ (fun hHeld => ?_)
        · (try dsimp only)
          first | exact SK.out _ (by assumption) | exact SK.out _ hbd
        clear hK K
        (try simp only [Act.put, List.setIfInBounds_toArray, List.set_cons_zero, List.set_cons_succ])
        refine wpAnyH_done (by kernel_rfl) ?_ _
        clear hHeld
        go_wp2
        go_ret
        exact ⟨ret_bool (by rw [HE.out]; simp), by first | exact HBl.out | exact HBl.out.drew⟩
    · have HA : Hid ((c.must.all fun x => !(hasS c.may x)) = true) := Lib.hid (by
        rw [List.all_eq_true]
        intro x hx
        obtain ⟨i, hi, rfl⟩ := List.getElem_of_mem hx
        rw [Ha.out i hi (by omega)]; rfl)
      rw [HA.out] at HE
      have hb6 : Below wr.heap.size wr wr := Below.refl _ _
      have HB5 := Lib.hid hbel
      clear HA Ha hbel hb4 T4 b5 b4
      go_wp2
      clear q0 q1 q2 q3
      obtain ⟨w5, hw5⟩ : ∃ X, X = wr := ⟨_, rfl⟩
      rw [← hw5] at T5 HB5 hb6
      rw [← hw5]
      clear hw5 wr
      go_loopw [4] (fun i wr => ∃ k : Nat, k ≤ c.one.length ∧ i = .int .i64 k ∧ (∀ j (h : j < c.one.length), j < k → (hasS c.may c.one[j] || hasS c.must c.one[j]) = true) ∧ Below w5.heap.size w5 wr) (fun i _ => c.one.length - (intOf i).toNat)
      case atStart => exact ⟨0, Nat.zero_le _, rfl, fun j _ h => absurd h (Nat.not_lt_zero _), hb6⟩
      case round =>
        obtain ⟨k, hk, rfl, ha, hb4⟩ := hrel
        have Ha := Lib.hid ha; clear ha
        have T6 := Lib.hid (T5.out.below hb4)
        have hbel := HB5.out.trans (hb4.mono HB5.out.size)
        obtain ⟨q0, q1, q2, q3⟩ := T6.out.cells
        by_cases hlt : k < c.one.length
        · have g1 : (0 : Int) ≤ (k : Int) := by omega
          have g2 : (k : Int) < (c.one.length : Int) := by omega
          have HY : Hid ((hasS c.may c.one[k] || hasS c.must c.one[k]) = false → (c.one.all fun x => hasS c.may x || hasS c.must x) = false) := Lib.hid (fun h => all_bad _ c.one k hlt h)
          have HN : Hid ((hasS c.may c.one[k] || hasS c.must c.one[k]) = true → ∀ j (h : j < c.one.length), j < k + 1 → (hasS c.may c.one[j] || hasS c.must c.one[j]) = true) := Lib.hid (fun hn j h hj => by
            by_cases e : j = k
            · subst e; exact hn
            · exact Ha.out j h (by omega))
          obtain ⟨b, off, rfl, hw0, hd1⟩ := S3.out.at hlt
          generalize c.one[k] = x at *
          have SK : Hid (∀ Z' : World, Below wr.heap.size wr Z' → ((Z'.cell? ⟨w.heap.size, 0, none⟩ = some (.string c.nm) ∧ Z'.cell? ⟨w.heap.size, 1, none⟩ = some (.slice o1 c.must.length k1) ∧ Z'.cell? ⟨w.heap.size, 2, none⟩ = some (.slice o2 c.may.length k2) ∧ Z'.cell? ⟨w.heap.size, 3, none⟩ = some (.slice (some ⟨b, off, none⟩) c.one.length k3)) ∧ Z'.cell? ⟨b, off + k, none⟩ = some (.string x))) := Lib.hid (fun Z' h => ⟨(T6.out.below h).cells, ((hbel.trans (h.mono hbel.size)).cell (p := ⟨b, _, none⟩) hw0).trans hd1⟩)
          have E2' : Hid (∀ W : World, Below wr.heap.size wr W → Calls Tryz.prog 108 #[.slice o2 c.may.length k2, .string x] W fun e w' => e = .returned (.bool (hasS c.may x)) ∧ w' = W) := Lib.hid (fun W h => E2.out W x (hbel.trans (h.mono hbel.size)))
          have E1' : Hid (∀ W : World, Below wr.heap.size wr W → Calls Tryz.prog 108 #[.slice o1 c.must.length k1, .string x] W fun e w' => e = .returned (.bool (hasS c.must x)) ∧ w' = W) := Lib.hid (fun W h => E1.out W x (hbel.trans (h.mono hbel.size)))
          have hb0 : Below wr.heap.size wr wr := Below.refl _ _
          have hbd := hb0.drew
          have HB4 := Lib.hid hb4; have HBl := Lib.hid hbel
          clear hd1 hb4 hbel
          cases hq : hasS c.may x
          · cases hq1 : hasS c.must x
            · have HY' := Lib.hid (HY.out (by rw [hq, hq1]; rfl))
              rw [HY'.out] at HE
              go_wp2_with fail
              refine wp_region_held_drew (S := (fun Z' => (Z'.cell? ⟨w.heap.size, 0, none⟩ = some (.string c.nm) ∧ Z'.cell? ⟨w.heap.size, 1, none⟩ = some (.slice o1 c.must.length k1) ∧ Z'.cell? ⟨w.heap.size, 2, none⟩ = some (.slice o2 c.may.length k2) ∧ Z'.cell? ⟨w.heap.size, 3, none⟩ = some (.slice (some ⟨b, off, none⟩) c.one.length k3)) ∧ Z'.cell? ⟨b, off + k, none⟩ = some (.string x))) (by kernel_rfl) ?_ (fun hHeld => ?_)
              · (try dsimp only)
                first | exact SK.out _ (by assumption) | exact SK.out _ hbd
              refine wpAnyH_take (i := 0) (oi := { dst := some 67, op := Op.fieldAddr 85 (Operand.tmp 1) 2, type := 0, pos := "l05_schema.go:15", after := #[], guard := none }) (v := ?_) rfl (by kernel_rfl) (by kernel_rfl) (by kernel_rfl) (fun _ _ _ h => h) (Or.inl ⟨by rfl, ?_⟩) (by assumption) ?_
              rotate_left
              · intro w hSw; (try dsimp only at hSw); go_simp; (try with_reducible rfl)
              (try simp only [Act.put, List.setIfInBounds_toArray, List.set_cons_zero, List.set_cons_succ])
              refine wpAnyH_take (i := 1) (oi := { dst := some 68, op := Op.load 79 (Operand.tmp 67), type := 79, pos := "l05_schema.go:15", after := #[{ on := 0, ground := Ground.data }], guard := none }) (v := ?_) rfl (by kernel_rfl) (by kernel_rfl) (by kernel_rfl) (fun _ _ _ h => h) (Or.inl ⟨by rfl, ?_⟩) (by assumption) ?_
              rotate_left
              · intro w hSw; (try dsimp only at hSw); go_simp; (try with_reducible rfl)
              (try simp only [Act.put, List.setIfInBounds_toArray, List.set_cons_zero, List.set_cons_succ])
              refine wpAnyH_take (i := 2) (oi := { dst := some 69, op := Op.fieldAddr 85 (Operand.tmp 1) 3, type := 0, pos := "l05_schema.go:15", after := #[], guard := none }) (v := ?_) rfl (by kernel_rfl) (by kernel_rfl) (by kernel_rfl) (fun _ _ _ h => h) (Or.inl ⟨by rfl, ?_⟩) (by assumption) ?_
              rotate_left
              · intro w hSw; (try dsimp only at hSw); go_simp; (try with_reducible rfl)
              (try simp only [Act.put, List.setIfInBounds_toArray, List.set_cons_zero, List.set_cons_succ])
              refine wpAnyH_take (i := 3) (oi := { dst := some 70, op := Op.load 79 (Operand.tmp 69), type := 79, pos := "l05_schema.go:15", after := #[{ on := 2, ground := Ground.data }], guard := none }) (v := ?_) rfl (by kernel_rfl) (by kernel_rfl) (by kernel_rfl) (fun _ _ _ h => h) (Or.inl ⟨by rfl, ?_⟩) (by assumption) ?_
              rotate_left
              · intro w hSw; (try dsimp only at hSw); go_simp; (try with_reducible rfl)
              (try simp only [Act.put, List.setIfInBounds_toArray, List.set_cons_zero, List.set_cons_succ])
              refine wpAnyH_take (i := 4) (oi := { dst := some 71, op := Op.move (Operand.tmp 4), type := 3, pos := "l05_schema.go:15", after := #[], guard := none }) (v := ?_) rfl (by kernel_rfl) (by kernel_rfl) (by kernel_rfl) (fun _ _ _ h => h) (Or.inl ⟨by rfl, ?_⟩) (by assumption) ?_
              rotate_left
              · intro w hSw; (try dsimp only at hSw); go_simp; (try with_reducible rfl)
              (try simp only [Act.put, List.setIfInBounds_toArray, List.set_cons_zero, List.set_cons_succ])
              refine wpAnyH_take (i := 5) (oi := { dst := some 72, op := Op.indexAddr 79 (Operand.tmp 70) (Operand.tmp 71), type := 0, pos := "l05_schema.go:15", after := #[{ on := 3, ground := Ground.data }, { on := 4, ground := Ground.data }], guard := none }) (v := ?_) rfl (by kernel_rfl) (by kernel_rfl) (by kernel_rfl) (fun _ _ _ h => h) (Or.inl ⟨by rfl, ?_⟩) (by assumption) ?_
              rotate_left
              · intro w hSw; (try dsimp only at hSw); go_simp; (try with_reducible rfl)
              (try simp only [Act.put, List.setIfInBounds_toArray, List.set_cons_zero, List.set_cons_succ])
              refine wpAnyH_take (i := 6) (oi := { dst := some 73, op := Op.load 9 (Operand.tmp 72), type := 9, pos := "l05_schema.go:15", after := #[{ on := 5, ground := Ground.data }], guard := none }) (v := ?_) rfl (by kernel_rfl) (by kernel_rfl) (by kernel_rfl) (fun _ _ _ h => h) (Or.inl ⟨by rfl, ?_⟩) (by assumption) ?_
              rotate_left
              · intro w hSw; (try dsimp only at hSw); go_simp; (try with_reducible rfl)
              (try simp only [Act.put, List.setIfInBounds_toArray, List.set_cons_zero, List.set_cons_succ])
              refine wpAnyH_ready (rs := [7]) (by kernel_rfl) (by simp) ?_
              refine AllReadyH.cons (o := { dst := some 74, op := Op.call { callee := Callee.value (Operand.func 108), args := #[Operand.tmp 68, Operand.tmp 73], argTypes := #[79, 9] }, type := 4, pos := "l05_schema.go:15", after := #[{ on := 1, ground := Ground.data }, { on := 6, ground := Ground.data }], guard := none }) rfl (fun K hK => ?_) (AllReadyH.nil)
              go_simp
              refine (E2'.out _ (by first | assumption | exact hbd)).mono ?_
              rintro e wx ⟨rfl, rfl⟩
              rw [hq]
              clear hHeld
              refine hK.out _ _ ?_ (fun hHeld => ?_)
              · (try dsimp only)
                first | exact SK.out _ (by assumption) | exact SK.out _ hbd
              clear hK K
              (try simp only [Act.put, List.setIfInBounds_toArray, List.set_cons_zero, List.set_cons_succ])
              refine wpAnyH_take (i := 8) (oi := { dst := some 75, op := Op.unOp UnOp.not 4 (Operand.tmp 74), type := 4, pos := "l05_schema.go:15", after := #[{ on := 7, ground := Ground.data }], guard := none }) (v := ?_) rfl (by kernel_rfl) (by kernel_rfl) (by kernel_rfl) (fun _ _ _ h => h) (Or.inl ⟨by rfl, ?_⟩) (by assumption) ?_
              rotate_left
              · intro w hSw; (try dsimp only at hSw); go_simp; (try with_reducible rfl)
              (try simp only [Act.put, List.setIfInBounds_toArray, List.set_cons_zero, List.set_cons_succ])
              refine wpAnyH_take (i := 9) (oi := { dst := some 76, op := Op.move (Operand.tmp 75), type := 4, pos := "l05_schema.go:15", after := #[{ on := 8, ground := Ground.data }, { on := 7, ground := Ground.chain }], guard := none }) (v := ?_) rfl (by kernel_rfl) (by kernel_rfl) (by kernel_rfl) (fun _ _ _ h => h) (Or.inl ⟨by rfl, ?_⟩) (by assumption) ?_
              rotate_left
              · intro w hSw; (try dsimp only at hSw); go_simp; (try with_reducible rfl)
              (try simp only [Act.put, List.setIfInBounds_toArray, List.set_cons_zero, List.set_cons_succ])
              refine wpAnyH_take (i := 10) (oi := { dst := some 77, op := Op.fieldAddr 85 (Operand.tmp 1) 1, type := 0, pos := "l05_schema.go:15", after := #[{ on := 9, ground := Ground.guard }], guard := some (9, true) }) (v := ?_) rfl (by kernel_rfl) (by kernel_rfl) (by kernel_rfl) (fun _ _ _ h => h) (Or.inl ⟨by rfl, ?_⟩) (by assumption) ?_
              rotate_left
              · intro w hSw; (try dsimp only at hSw); go_simp; (try with_reducible rfl)
              (try simp only [Act.put, List.setIfInBounds_toArray, List.set_cons_zero, List.set_cons_succ])
              refine wpAnyH_take (i := 11) (oi := { dst := some 78, op := Op.load 79 (Operand.tmp 77), type := 79, pos := "l05_schema.go:15", after := #[{ on := 10, ground := Ground.data }, { on := 9, ground := Ground.guard }], guard := some (9, true) }) (v := ?_) rfl (by kernel_rfl) (by kernel_rfl) (by kernel_rfl) (fun _ _ _ h => h) (Or.inl ⟨by rfl, ?_⟩) (by assumption) ?_
              rotate_left
              · intro w hSw; (try dsimp only at hSw); go_simp; (try with_reducible rfl)
              (try simp only [Act.put, List.setIfInBounds_toArray, List.set_cons_zero, List.set_cons_succ])
              refine wpAnyH_take (i := 12) (oi := { dst := some 79, op := Op.fieldAddr 85 (Operand.tmp 1) 3, type := 0, pos := "l05_schema.go:15", after := #[{ on := 9, ground := Ground.guard }], guard := some (9, true) }) (v := ?_) rfl (by kernel_rfl) (by kernel_rfl) (by kernel_rfl) (fun _ _ _ h => h) (Or.inl ⟨by rfl, ?_⟩) (by assumption) ?_
              rotate_left
              · intro w hSw; (try dsimp only at hSw); go_simp; (try with_reducible rfl)
              (try simp only [Act.put, List.setIfInBounds_toArray, List.set_cons_zero, List.set_cons_succ])
              refine wpAnyH_take (i := 13) (oi := { dst := some 80, op := Op.load 79 (Operand.tmp 79), type := 79, pos := "l05_schema.go:15", after := #[{ on := 12, ground := Ground.data }, { on := 9, ground := Ground.guard }], guard := some (9, true) }) (v := ?_) rfl (by kernel_rfl) (by kernel_rfl) (by kernel_rfl) (fun _ _ _ h => h) (Or.inl ⟨by rfl, ?_⟩) (by assumption) ?_
              rotate_left
              · intro w hSw; (try dsimp only at hSw); go_simp; (try with_reducible rfl)
              (try simp only [Act.put, List.setIfInBounds_toArray, List.set_cons_zero, List.set_cons_succ])
              refine wpAnyH_take (i := 14) (oi := { dst := some 81, op := Op.move (Operand.tmp 4), type := 3, pos := "l05_schema.go:15", after := #[{ on := 9, ground := Ground.guard }], guard := some (9, true) }) (v := ?_) rfl (by kernel_rfl) (by kernel_rfl) (by kernel_rfl) (fun _ _ _ h => h) (Or.inl ⟨by rfl, ?_⟩) (by assumption) ?_
              rotate_left
              · intro w hSw; (try dsimp only at hSw); go_simp; (try with_reducible rfl)
              (try simp only [Act.put, List.setIfInBounds_toArray, List.set_cons_zero, List.set_cons_succ])
              refine wpAnyH_take (i := 15) (oi := { dst := some 82, op := Op.indexAddr 79 (Operand.tmp 80) (Operand.tmp 81), type := 0, pos := "l05_schema.go:15", after := #[{ on := 13, ground := Ground.data }, { on := 14, ground := Ground.data }, { on := 9, ground := Ground.guard }], guard := some (9, true) }) (v := ?_) rfl (by kernel_rfl) (by kernel_rfl) (by kernel_rfl) (fun _ _ _ h => h) (Or.inl ⟨by rfl, ?_⟩) (by assumption) ?_
              rotate_left
              · intro w hSw; (try dsimp only at hSw); go_simp; (try with_reducible rfl)
              (try simp only [Act.put, List.setIfInBounds_toArray, List.set_cons_zero, List.set_cons_succ])
              refine wpAnyH_take (i := 16) (oi := { dst := some 83, op := Op.load 9 (Operand.tmp 82), type := 9, pos := "l05_schema.go:15", after := #[{ on := 15, ground := Ground.data }, { on := 9, ground := Ground.guard }], guard := some (9, true) }) (v := ?_) rfl (by kernel_rfl) (by kernel_rfl) (by kernel_rfl) (fun _ _ _ h => h) (Or.inl ⟨by rfl, ?_⟩) (by assumption) ?_
              rotate_left
              · intro w hSw; (try dsimp only at hSw); go_simp; (try with_reducible rfl)
              (try simp only [Act.put, List.setIfInBounds_toArray, List.set_cons_zero, List.set_cons_succ])
              refine wpAnyH_ready (rs := [17]) (by kernel_rfl) (by simp) ?_
              refine AllReadyH.cons (o := { dst := some 84, op := Op.call { callee := Callee.value (Operand.func 108), args := #[Operand.tmp 78, Operand.tmp 83], argTypes := #[79, 9] }, type := 4, pos := "l05_schema.go:15", after := #[{ on := 11, ground := Ground.data }, { on := 16, ground := Ground.data }, { on := 9, ground := Ground.chain }, { on := 9, ground := Ground.guard }], guard := some (9, true) }) rfl (fun K hK => ?_) (AllReadyH.nil)
              go_simp
              refine (E1'.out _ (by first | assumption | exact hbd)).mono ?_
              rintro e wx ⟨rfl, rfl⟩
              rw [hq1]
              clear hHeld
              refine hK.out _ _ ?_ (fun hHeld => ?_)
              · (try dsimp only)
                first | exact SK.out _ (by assumption) | exact SK.out _ hbd
              clear hK K
              (try simp only [Act.put, List.setIfInBounds_toArray, List.set_cons_zero, List.set_cons_succ])
              refine wpAnyH_take (i := 18) (oi := { dst := some 85, op := Op.unOp UnOp.not 4 (Operand.tmp 84), type := 4, pos := "l05_schema.go:15", after := #[{ on := 17, ground := Ground.data }, { on := 9, ground := Ground.guard }], guard := some (9, true) }) (v := ?_) rfl (by kernel_rfl) (by kernel_rfl) (by kernel_rfl) (fun _ _ _ h => h) (Or.inl ⟨by rfl, ?_⟩) (by assumption) ?_
              rotate_left
              · intro w hSw; (try dsimp only at hSw); go_simp; (try with_reducible rfl)
              (try simp only [Act.put, List.setIfInBounds_toArray, List.set_cons_zero, List.set_cons_succ])
              refine wpAnyH_take (i := 19) (oi := { dst := some 86, op := Op.pick (Operand.tmp 76) (Operand.tmp 85) (Operand.const (Value.bool false)), type := 4, pos := "l05_schema.go:15", after := #[{ on := 9, ground := Ground.data }, { on := 18, ground := Ground.data }], guard := none }) (v := ?_) rfl (by kernel_rfl) (by kernel_rfl) (by kernel_rfl) (fun _ _ _ h => h) (Or.inl ⟨by rfl, ?_⟩) (by assumption) ?_
              rotate_left
              · intro w hSw; (try dsimp only at hSw); go_simp; (try with_reducible rfl)
              (try simp only [Act.put, List.setIfInBounds_toArray, List.set_cons_zero, List.set_cons_succ])
              refine wpAnyH_done (by kernel_rfl) ?_ _
              clear hHeld
              go_wp2
              go_ret
              exact ⟨ret_bool (by rw [HE.out]; simp), by first | exact HBl.out | exact HBl.out.drew⟩
            · have HN' := Lib.hid (HN.out (by rw [hq, hq1]; rfl))
              go_wp2_with fail
              refine wp_region_held_drew (S := (fun Z' => (Z'.cell? ⟨w.heap.size, 0, none⟩ = some (.string c.nm) ∧ Z'.cell? ⟨w.heap.size, 1, none⟩ = some (.slice o1 c.must.length k1) ∧ Z'.cell? ⟨w.heap.size, 2, none⟩ = some (.slice o2 c.may.length k2) ∧ Z'.cell? ⟨w.heap.size, 3, none⟩ = some (.slice (some ⟨b, off, none⟩) c.one.length k3)) ∧ Z'.cell? ⟨b, off + k, none⟩ = some (.string x))) (by kernel_rfl) ?_ (fun hHeld => ?_)
              · (try dsimp only)
                first | exact SK.out _ (by assumption) | exact SK.out _ hbd
              refine wpAnyH_take (i := 0) (oi := { dst := some 67, op := Op.fieldAddr 85 (Operand.tmp 1) 2, type := 0, pos := "l05_schema.go:15", after := #[], guard := none }) (v := ?_) rfl (by kernel_rfl) (by kernel_rfl) (by kernel_rfl) (fun _ _ _ h => h) (Or.inl ⟨by rfl, ?_⟩) (by assumption) ?_
              rotate_left
              · intro w hSw; (try dsimp only at hSw); go_simp; (try with_reducible rfl)
              (try simp only [Act.put, List.setIfInBounds_toArray, List.set_cons_zero, List.set_cons_succ])
              refine wpAnyH_take (i := 1) (oi := { dst := some 68, op := Op.load 79 (Operand.tmp 67), type := 79, pos := "l05_schema.go:15", after := #[{ on := 0, ground := Ground.data }], guard := none }) (v := ?_) rfl (by kernel_rfl) (by kernel_rfl) (by kernel_rfl) (fun _ _ _ h => h) (Or.inl ⟨by rfl, ?_⟩) (by assumption) ?_
              rotate_left
              · intro w hSw; (try dsimp only at hSw); go_simp; (try with_reducible rfl)
              (try simp only [Act.put, List.setIfInBounds_toArray, List.set_cons_zero, List.set_cons_succ])
              refine wpAnyH_take (i := 2) (oi := { dst := some 69, op := Op.fieldAddr 85 (Operand.tmp 1) 3, type := 0, pos := "l05_schema.go:15", after := #[], guard := none }) (v := ?_) rfl (by kernel_rfl) (by kernel_rfl) (by kernel_rfl) (fun _ _ _ h => h) (Or.inl ⟨by rfl, ?_⟩) (by assumption) ?_
              rotate_left
              · intro w hSw; (try dsimp only at hSw); go_simp; (try with_reducible rfl)
              (try simp only [Act.put, List.setIfInBounds_toArray, List.set_cons_zero, List.set_cons_succ])
              refine wpAnyH_take (i := 3) (oi := { dst := some 70, op := Op.load 79 (Operand.tmp 69), type := 79, pos := "l05_schema.go:15", after := #[{ on := 2, ground := Ground.data }], guard := none }) (v := ?_) rfl (by kernel_rfl) (by kernel_rfl) (by kernel_rfl) (fun _ _ _ h => h) (Or.inl ⟨by rfl, ?_⟩) (by assumption) ?_
              rotate_left
              · intro w hSw; (try dsimp only at hSw); go_simp; (try with_reducible rfl)
              (try simp only [Act.put, List.setIfInBounds_toArray, List.set_cons_zero, List.set_cons_succ])
              refine wpAnyH_take (i := 4) (oi := { dst := some 71, op := Op.move (Operand.tmp 4), type := 3, pos := "l05_schema.go:15", after := #[], guard := none }) (v := ?_) rfl (by kernel_rfl) (by kernel_rfl) (by kernel_rfl) (fun _ _ _ h => h) (Or.inl ⟨by rfl, ?_⟩) (by assumption) ?_
              rotate_left
              · intro w hSw; (try dsimp only at hSw); go_simp; (try with_reducible rfl)
              (try simp only [Act.put, List.setIfInBounds_toArray, List.set_cons_zero, List.set_cons_succ])
              refine wpAnyH_take (i := 5) (oi := { dst := some 72, op := Op.indexAddr 79 (Operand.tmp 70) (Operand.tmp 71), type := 0, pos := "l05_schema.go:15", after := #[{ on := 3, ground := Ground.data }, { on := 4, ground := Ground.data }], guard := none }) (v := ?_) rfl (by kernel_rfl) (by kernel_rfl) (by kernel_rfl) (fun _ _ _ h => h) (Or.inl ⟨by rfl, ?_⟩) (by assumption) ?_
              rotate_left
              · intro w hSw; (try dsimp only at hSw); go_simp; (try with_reducible rfl)
              (try simp only [Act.put, List.setIfInBounds_toArray, List.set_cons_zero, List.set_cons_succ])
              refine wpAnyH_take (i := 6) (oi := { dst := some 73, op := Op.load 9 (Operand.tmp 72), type := 9, pos := "l05_schema.go:15", after := #[{ on := 5, ground := Ground.data }], guard := none }) (v := ?_) rfl (by kernel_rfl) (by kernel_rfl) (by kernel_rfl) (fun _ _ _ h => h) (Or.inl ⟨by rfl, ?_⟩) (by assumption) ?_
              rotate_left
              · intro w hSw; (try dsimp only at hSw); go_simp; (try with_reducible rfl)
              (try simp only [Act.put, List.setIfInBounds_toArray, List.set_cons_zero, List.set_cons_succ])
              refine wpAnyH_ready (rs := [7]) (by kernel_rfl) (by simp) ?_
              refine AllReadyH.cons (o := { dst := some 74, op := Op.call { callee := Callee.value (Operand.func 108), args := #[Operand.tmp 68, Operand.tmp 73], argTypes := #[79, 9] }, type := 4, pos := "l05_schema.go:15", after := #[{ on := 1, ground := Ground.data }, { on := 6, ground := Ground.data }], guard := none }) rfl (fun K hK => ?_) (AllReadyH.nil)
              go_simp
              refine (E2'.out _ (by first | assumption | exact hbd)).mono ?_
              rintro e wx ⟨rfl, rfl⟩
              rw [hq]
              clear hHeld
              refine hK.out _ _ ?_ (fun hHeld => ?_)
              · (try dsimp only)
                first | exact SK.out _ (by assumption) | exact SK.out _ hbd
              clear hK K
              (try simp only [Act.put, List.setIfInBounds_toArray, List.set_cons_zero, List.set_cons_succ])
              refine wpAnyH_take (i := 8) (oi := { dst := some 75, op := Op.unOp UnOp.not 4 (Operand.tmp 74), type := 4, pos := "l05_schema.go:15", after := #[{ on := 7, ground := Ground.data }], guard := none }) (v := ?_) rfl (by kernel_rfl) (by kernel_rfl) (by kernel_rfl) (fun _ _ _ h => h) (Or.inl ⟨by rfl, ?_⟩) (by assumption) ?_
              rotate_left
              · intro w hSw; (try dsimp only at hSw); go_simp; (try with_reducible rfl)
              (try simp only [Act.put, List.setIfInBounds_toArray, List.set_cons_zero, List.set_cons_succ])
              refine wpAnyH_take (i := 9) (oi := { dst := some 76, op := Op.move (Operand.tmp 75), type := 4, pos := "l05_schema.go:15", after := #[{ on := 8, ground := Ground.data }, { on := 7, ground := Ground.chain }], guard := none }) (v := ?_) rfl (by kernel_rfl) (by kernel_rfl) (by kernel_rfl) (fun _ _ _ h => h) (Or.inl ⟨by rfl, ?_⟩) (by assumption) ?_
              rotate_left
              · intro w hSw; (try dsimp only at hSw); go_simp; (try with_reducible rfl)
              (try simp only [Act.put, List.setIfInBounds_toArray, List.set_cons_zero, List.set_cons_succ])
              refine wpAnyH_take (i := 10) (oi := { dst := some 77, op := Op.fieldAddr 85 (Operand.tmp 1) 1, type := 0, pos := "l05_schema.go:15", after := #[{ on := 9, ground := Ground.guard }], guard := some (9, true) }) (v := ?_) rfl (by kernel_rfl) (by kernel_rfl) (by kernel_rfl) (fun _ _ _ h => h) (Or.inl ⟨by rfl, ?_⟩) (by assumption) ?_
              rotate_left
              · intro w hSw; (try dsimp only at hSw); go_simp; (try with_reducible rfl)
              (try simp only [Act.put, List.setIfInBounds_toArray, List.set_cons_zero, List.set_cons_succ])
              refine wpAnyH_take (i := 11) (oi := { dst := some 78, op := Op.load 79 (Operand.tmp 77), type := 79, pos := "l05_schema.go:15", after := #[{ on := 10, ground := Ground.data }, { on := 9, ground := Ground.guard }], guard := some (9, true) }) (v := ?_) rfl (by kernel_rfl) (by kernel_rfl) (by kernel_rfl) (fun _ _ _ h => h) (Or.inl ⟨by rfl, ?_⟩) (by assumption) ?_
              rotate_left
              · intro w hSw; (try dsimp only at hSw); go_simp; (try with_reducible rfl)
              (try simp only [Act.put, List.setIfInBounds_toArray, List.set_cons_zero, List.set_cons_succ])
              refine wpAnyH_take (i := 12) (oi := { dst := some 79, op := Op.fieldAddr 85 (Operand.tmp 1) 3, type := 0, pos := "l05_schema.go:15", after := #[{ on := 9, ground := Ground.guard }], guard := some (9, true) }) (v := ?_) rfl (by kernel_rfl) (by kernel_rfl) (by kernel_rfl) (fun _ _ _ h => h) (Or.inl ⟨by rfl, ?_⟩) (by assumption) ?_
              rotate_left
              · intro w hSw; (try dsimp only at hSw); go_simp; (try with_reducible rfl)
              (try simp only [Act.put, List.setIfInBounds_toArray, List.set_cons_zero, List.set_cons_succ])
              refine wpAnyH_take (i := 13) (oi := { dst := some 80, op := Op.load 79 (Operand.tmp 79), type := 79, pos := "l05_schema.go:15", after := #[{ on := 12, ground := Ground.data }, { on := 9, ground := Ground.guard }], guard := some (9, true) }) (v := ?_) rfl (by kernel_rfl) (by kernel_rfl) (by kernel_rfl) (fun _ _ _ h => h) (Or.inl ⟨by rfl, ?_⟩) (by assumption) ?_
              rotate_left
              · intro w hSw; (try dsimp only at hSw); go_simp; (try with_reducible rfl)
              (try simp only [Act.put, List.setIfInBounds_toArray, List.set_cons_zero, List.set_cons_succ])
              refine wpAnyH_take (i := 14) (oi := { dst := some 81, op := Op.move (Operand.tmp 4), type := 3, pos := "l05_schema.go:15", after := #[{ on := 9, ground := Ground.guard }], guard := some (9, true) }) (v := ?_) rfl (by kernel_rfl) (by kernel_rfl) (by kernel_rfl) (fun _ _ _ h => h) (Or.inl ⟨by rfl, ?_⟩) (by assumption) ?_
              rotate_left
              · intro w hSw; (try dsimp only at hSw); go_simp; (try with_reducible rfl)
              (try simp only [Act.put, List.setIfInBounds_toArray, List.set_cons_zero, List.set_cons_succ])
              refine wpAnyH_take (i := 15) (oi := { dst := some 82, op := Op.indexAddr 79 (Operand.tmp 80) (Operand.tmp 81), type := 0, pos := "l05_schema.go:15", after := #[{ on := 13, ground := Ground.data }, { on := 14, ground := Ground.data }, { on := 9, ground := Ground.guard }], guard := some (9, true) }) (v := ?_) rfl (by kernel_rfl) (by kernel_rfl) (by kernel_rfl) (fun _ _ _ h => h) (Or.inl ⟨by rfl, ?_⟩) (by assumption) ?_
              rotate_left
              · intro w hSw; (try dsimp only at hSw); go_simp; (try with_reducible rfl)
              (try simp only [Act.put, List.setIfInBounds_toArray, List.set_cons_zero, List.set_cons_succ])
              refine wpAnyH_take (i := 16) (oi := { dst := some 83, op := Op.load 9 (Operand.tmp 82), type := 9, pos := "l05_schema.go:15", after := #[{ on := 15, ground := Ground.data }, { on := 9, ground := Ground.guard }], guard := some (9, true) }) (v := ?_) rfl (by kernel_rfl) (by kernel_rfl) (by kernel_rfl) (fun _ _ _ h => h) (Or.inl ⟨by rfl, ?_⟩) (by assumption) ?_
              rotate_left
              · intro w hSw; (try dsimp only at hSw); go_simp; (try with_reducible rfl)
              (try simp only [Act.put, List.setIfInBounds_toArray, List.set_cons_zero, List.set_cons_succ])
              refine wpAnyH_ready (rs := [17]) (by kernel_rfl) (by simp) ?_
              refine AllReadyH.cons (o := { dst := some 84, op := Op.call { callee := Callee.value (Operand.func 108), args := #[Operand.tmp 78, Operand.tmp 83], argTypes := #[79, 9] }, type := 4, pos := "l05_schema.go:15", after := #[{ on := 11, ground := Ground.data }, { on := 16, ground := Ground.data }, { on := 9, ground := Ground.chain }, { on := 9, ground := Ground.guard }], guard := some (9, true) }) rfl (fun K hK => ?_) (AllReadyH.nil)
              go_simp
              refine (E1'.out _ (by first | assumption | exact hbd)).mono ?_
              rintro e wx ⟨rfl, rfl⟩
              rw [hq1]
              clear hHeld
              refine hK.out _ _ ?_ (fun hHeld => ?_)
              · (try dsimp only)
                first | exact SK.out _ (by assumption) | exact SK.out _ hbd
              clear hK K
              (try simp only [Act.put, List.setIfInBounds_toArray, List.set_cons_zero, List.set_cons_succ])
              refine wpAnyH_take (i := 18) (oi := { dst := some 85, op := Op.unOp UnOp.not 4 (Operand.tmp 84), type := 4, pos := "l05_schema.go:15", after := #[{ on := 17, ground := Ground.data }, { on := 9, ground := Ground.guard }], guard := some (9, true) }) (v := ?_) rfl (by kernel_rfl) (by kernel_rfl) (by kernel_rfl) (fun _ _ _ h => h) (Or.inl ⟨by rfl, ?_⟩) (by assumption) ?_
              rotate_left
              · intro w hSw; (try dsimp only at hSw); go_simp; (try with_reducible rfl)
              (try simp only [Act.put, List.setIfInBounds_toArray, List.set_cons_zero, List.set_cons_succ])
              refine wpAnyH_take (i := 19) (oi := { dst := some 86, op := Op.pick (Operand.tmp 76) (Operand.tmp 85) (Operand.const (Value.bool false)), type := 4, pos := "l05_schema.go:15", after := #[{ on := 9, ground := Ground.data }, { on := 18, ground := Ground.data }], guard := none }) (v := ?_) rfl (by kernel_rfl) (by kernel_rfl) (by kernel_rfl) (fun _ _ _ h => h) (Or.inl ⟨by rfl, ?_⟩) (by assumption) ?_
              rotate_left
              · intro w hSw; (try dsimp only at hSw); go_simp; (try with_reducible rfl)
              (try simp only [Act.put, List.setIfInBounds_toArray, List.set_cons_zero, List.set_cons_succ])
              refine wpAnyH_done (by kernel_rfl) ?_ _
              clear hHeld
              go_wp2
              go_roundw
              case rel => exact ⟨k + 1, by omega, by go_num, HN'.out, by first | exact HB4.out | exact HB4.out.drew⟩
              case measure => simp [intOf]; omega
          · have HN' := Lib.hid (HN.out (by rw [hq]; rfl))
            go_wp2_with fail
            refine wp_region_held_drew (S := (fun Z' => (Z'.cell? ⟨w.heap.size, 0, none⟩ = some (.string c.nm) ∧ Z'.cell? ⟨w.heap.size, 1, none⟩ = some (.slice o1 c.must.length k1) ∧ Z'.cell? ⟨w.heap.size, 2, none⟩ = some (.slice o2 c.may.length k2) ∧ Z'.cell? ⟨w.heap.size, 3, none⟩ = some (.slice (some ⟨b, off, none⟩) c.one.length k3)) ∧ Z'.cell? ⟨b, off + k, none⟩ = some (.string x))) (by kernel_rfl) ?_ (fun hHeld => ?_)
            · (try dsimp only)
              first | exact SK.out _ (by assumption) | exact SK.out _ hbd
            refine wpAnyH_take (i := 0) (oi := { dst := some 67, op := Op.fieldAddr 85 (Operand.tmp 1) 2, type := 0, pos := "l05_schema.go:15", after := #[], guard := none }) (v := ?_) rfl (by kernel_rfl) (by kernel_rfl) (by kernel_rfl) (fun _ _ _ h => h) (Or.inl ⟨by rfl, ?_⟩) (by assumption) ?_
            rotate_left
            · intro w hSw; (try dsimp only at hSw); go_simp; (try with_reducible rfl)
            (try simp only [Act.put, List.setIfInBounds_toArray, List.set_cons_zero, List.set_cons_succ])
            refine wpAnyH_take (i := 1) (oi := { dst := some 68, op := Op.load 79 (Operand.tmp 67), type := 79, pos := "l05_schema.go:15", after := #[{ on := 0, ground := Ground.data }], guard := none }) (v := ?_) rfl (by kernel_rfl) (by kernel_rfl) (by kernel_rfl) (fun _ _ _ h => h) (Or.inl ⟨by rfl, ?_⟩) (by assumption) ?_
            rotate_left
            · intro w hSw; (try dsimp only at hSw); go_simp; (try with_reducible rfl)
            (try simp only [Act.put, List.setIfInBounds_toArray, List.set_cons_zero, List.set_cons_succ])
            refine wpAnyH_take (i := 2) (oi := { dst := some 69, op := Op.fieldAddr 85 (Operand.tmp 1) 3, type := 0, pos := "l05_schema.go:15", after := #[], guard := none }) (v := ?_) rfl (by kernel_rfl) (by kernel_rfl) (by kernel_rfl) (fun _ _ _ h => h) (Or.inl ⟨by rfl, ?_⟩) (by assumption) ?_
            rotate_left
            · intro w hSw; (try dsimp only at hSw); go_simp; (try with_reducible rfl)
            (try simp only [Act.put, List.setIfInBounds_toArray, List.set_cons_zero, List.set_cons_succ])
            refine wpAnyH_take (i := 3) (oi := { dst := some 70, op := Op.load 79 (Operand.tmp 69), type := 79, pos := "l05_schema.go:15", after := #[{ on := 2, ground := Ground.data }], guard := none }) (v := ?_) rfl (by kernel_rfl) (by kernel_rfl) (by kernel_rfl) (fun _ _ _ h => h) (Or.inl ⟨by rfl, ?_⟩) (by assumption) ?_
            rotate_left
            · intro w hSw; (try dsimp only at hSw); go_simp; (try with_reducible rfl)
            (try simp only [Act.put, List.setIfInBounds_toArray, List.set_cons_zero, List.set_cons_succ])
            refine wpAnyH_take (i := 4) (oi := { dst := some 71, op := Op.move (Operand.tmp 4), type := 3, pos := "l05_schema.go:15", after := #[], guard := none }) (v := ?_) rfl (by kernel_rfl) (by kernel_rfl) (by kernel_rfl) (fun _ _ _ h => h) (Or.inl ⟨by rfl, ?_⟩) (by assumption) ?_
            rotate_left
            · intro w hSw; (try dsimp only at hSw); go_simp; (try with_reducible rfl)
            (try simp only [Act.put, List.setIfInBounds_toArray, List.set_cons_zero, List.set_cons_succ])
            refine wpAnyH_take (i := 5) (oi := { dst := some 72, op := Op.indexAddr 79 (Operand.tmp 70) (Operand.tmp 71), type := 0, pos := "l05_schema.go:15", after := #[{ on := 3, ground := Ground.data }, { on := 4, ground := Ground.data }], guard := none }) (v := ?_) rfl (by kernel_rfl) (by kernel_rfl) (by kernel_rfl) (fun _ _ _ h => h) (Or.inl ⟨by rfl, ?_⟩) (by assumption) ?_
            rotate_left
            · intro w hSw; (try dsimp only at hSw); go_simp; (try with_reducible rfl)
            (try simp only [Act.put, List.setIfInBounds_toArray, List.set_cons_zero, List.set_cons_succ])
            refine wpAnyH_take (i := 6) (oi := { dst := some 73, op := Op.load 9 (Operand.tmp 72), type := 9, pos := "l05_schema.go:15", after := #[{ on := 5, ground := Ground.data }], guard := none }) (v := ?_) rfl (by kernel_rfl) (by kernel_rfl) (by kernel_rfl) (fun _ _ _ h => h) (Or.inl ⟨by rfl, ?_⟩) (by assumption) ?_
            rotate_left
            · intro w hSw; (try dsimp only at hSw); go_simp; (try with_reducible rfl)
            (try simp only [Act.put, List.setIfInBounds_toArray, List.set_cons_zero, List.set_cons_succ])
            refine wpAnyH_ready (rs := [7]) (by kernel_rfl) (by simp) ?_
            refine AllReadyH.cons (o := { dst := some 74, op := Op.call { callee := Callee.value (Operand.func 108), args := #[Operand.tmp 68, Operand.tmp 73], argTypes := #[79, 9] }, type := 4, pos := "l05_schema.go:15", after := #[{ on := 1, ground := Ground.data }, { on := 6, ground := Ground.data }], guard := none }) rfl (fun K hK => ?_) (AllReadyH.nil)
            go_simp
            refine (E2'.out _ (by first | assumption | exact hbd)).mono ?_
            rintro e wx ⟨rfl, rfl⟩
            rw [hq]
            clear hHeld
            refine hK.out _ _ ?_ (fun hHeld => ?_)
            · (try dsimp only)
              first | exact SK.out _ (by assumption) | exact SK.out _ hbd
            clear hK K
            (try simp only [Act.put, List.setIfInBounds_toArray, List.set_cons_zero, List.set_cons_succ])
            refine wpAnyH_take (i := 8) (oi := { dst := some 75, op := Op.unOp UnOp.not 4 (Operand.tmp 74), type := 4, pos := "l05_schema.go:15", after := #[{ on := 7, ground := Ground.data }], guard := none }) (v := ?_) rfl (by kernel_rfl) (by kernel_rfl) (by kernel_rfl) (fun _ _ _ h => h) (Or.inl ⟨by rfl, ?_⟩) (by assumption) ?_
            rotate_left
            · intro w hSw; (try dsimp only at hSw); go_simp; (try with_reducible rfl)
            (try simp only [Act.put, List.setIfInBounds_toArray, List.set_cons_zero, List.set_cons_succ])
            refine wpAnyH_take (i := 9) (oi := { dst := some 76, op := Op.move (Operand.tmp 75), type := 4, pos := "l05_schema.go:15", after := #[{ on := 8, ground := Ground.data }, { on := 7, ground := Ground.chain }], guard := none }) (v := ?_) rfl (by kernel_rfl) (by kernel_rfl) (by kernel_rfl) (fun _ _ _ h => h) (Or.inl ⟨by rfl, ?_⟩) (by assumption) ?_
            rotate_left
            · intro w hSw; (try dsimp only at hSw); go_simp; (try with_reducible rfl)
            (try simp only [Act.put, List.setIfInBounds_toArray, List.set_cons_zero, List.set_cons_succ])
            refine wpAnyH_take (i := 10) (oi := { dst := some 77, op := Op.fieldAddr 85 (Operand.tmp 1) 1, type := 0, pos := "l05_schema.go:15", after := #[{ on := 9, ground := Ground.guard }], guard := some (9, true) }) (v := undef) rfl (by kernel_rfl) (by kernel_rfl) (by kernel_rfl) (fun _ _ _ h => h) (Or.inr ⟨by rfl, rfl⟩) (by assumption) ?_
            (try simp only [Act.put, List.setIfInBounds_toArray, List.set_cons_zero, List.set_cons_succ])
            refine wpAnyH_take (i := 11) (oi := { dst := some 78, op := Op.load 79 (Operand.tmp 77), type := 79, pos := "l05_schema.go:15", after := #[{ on := 10, ground := Ground.data }, { on := 9, ground := Ground.guard }], guard := some (9, true) }) (v := undef) rfl (by kernel_rfl) (by kernel_rfl) (by kernel_rfl) (fun _ _ _ h => h) (Or.inr ⟨by rfl, rfl⟩) (by assumption) ?_
            (try simp only [Act.put, List.setIfInBounds_toArray, List.set_cons_zero, List.set_cons_succ])
            refine wpAnyH_take (i := 12) (oi := { dst := some 79, op := Op.fieldAddr 85 (Operand.tmp 1) 3, type := 0, pos := "l05_schema.go:15", after := #[{ on := 9, ground := Ground.guard }], guard := some (9, true) }) (v := undef) rfl (by kernel_rfl) (by kernel_rfl) (by kernel_rfl) (fun _ _ _ h => h) (Or.inr ⟨by rfl, rfl⟩) (by assumption) ?_
            (try simp only [Act.put, List.setIfInBounds_toArray, List.set_cons_zero, List.set_cons_succ])
            refine wpAnyH_take (i := 13) (oi := { dst := some 80, op := Op.load 79 (Operand.tmp 79), type := 79, pos := "l05_schema.go:15", after := #[{ on := 12, ground := Ground.data }, { on := 9, ground := Ground.guard }], guard := some (9, true) }) (v := undef) rfl (by kernel_rfl) (by kernel_rfl) (by kernel_rfl) (fun _ _ _ h => h) (Or.inr ⟨by rfl, rfl⟩) (by assumption) ?_
            (try simp only [Act.put, List.setIfInBounds_toArray, List.set_cons_zero, List.set_cons_succ])
            refine wpAnyH_take (i := 14) (oi := { dst := some 81, op := Op.move (Operand.tmp 4), type := 3, pos := "l05_schema.go:15", after := #[{ on := 9, ground := Ground.guard }], guard := some (9, true) }) (v := undef) rfl (by kernel_rfl) (by kernel_rfl) (by kernel_rfl) (fun _ _ _ h => h) (Or.inr ⟨by rfl, rfl⟩) (by assumption) ?_
            (try simp only [Act.put, List.setIfInBounds_toArray, List.set_cons_zero, List.set_cons_succ])
            refine wpAnyH_take (i := 15) (oi := { dst := some 82, op := Op.indexAddr 79 (Operand.tmp 80) (Operand.tmp 81), type := 0, pos := "l05_schema.go:15", after := #[{ on := 13, ground := Ground.data }, { on := 14, ground := Ground.data }, { on := 9, ground := Ground.guard }], guard := some (9, true) }) (v := undef) rfl (by kernel_rfl) (by kernel_rfl) (by kernel_rfl) (fun _ _ _ h => h) (Or.inr ⟨by rfl, rfl⟩) (by assumption) ?_
            (try simp only [Act.put, List.setIfInBounds_toArray, List.set_cons_zero, List.set_cons_succ])
            refine wpAnyH_take (i := 16) (oi := { dst := some 83, op := Op.load 9 (Operand.tmp 82), type := 9, pos := "l05_schema.go:15", after := #[{ on := 15, ground := Ground.data }, { on := 9, ground := Ground.guard }], guard := some (9, true) }) (v := undef) rfl (by kernel_rfl) (by kernel_rfl) (by kernel_rfl) (fun _ _ _ h => h) (Or.inr ⟨by rfl, rfl⟩) (by assumption) ?_
            (try simp only [Act.put, List.setIfInBounds_toArray, List.set_cons_zero, List.set_cons_succ])
            refine wpAnyH_take (i := 17) (oi := { dst := some 84, op := Op.call { callee := Callee.value (Operand.func 108), args := #[Operand.tmp 78, Operand.tmp 83], argTypes := #[79, 9] }, type := 4, pos := "l05_schema.go:15", after := #[{ on := 11, ground := Ground.data }, { on := 16, ground := Ground.data }, { on := 9, ground := Ground.chain }, { on := 9, ground := Ground.guard }], guard := some (9, true) }) (v := undef) rfl (by kernel_rfl) (by kernel_rfl) (by kernel_rfl) (fun _ _ _ h => h) (Or.inr ⟨by rfl, rfl⟩) (by assumption) ?_
            (try simp only [Act.put, List.setIfInBounds_toArray, List.set_cons_zero, List.set_cons_succ])
            refine wpAnyH_take (i := 18) (oi := { dst := some 85, op := Op.unOp UnOp.not 4 (Operand.tmp 84), type := 4, pos := "l05_schema.go:15", after := #[{ on := 17, ground := Ground.data }, { on := 9, ground := Ground.guard }], guard := some (9, true) }) (v := undef) rfl (by kernel_rfl) (by kernel_rfl) (by kernel_rfl) (fun _ _ _ h => h) (Or.inr ⟨by rfl, rfl⟩) (by assumption) ?_
            (try simp only [Act.put, List.setIfInBounds_toArray, List.set_cons_zero, List.set_cons_succ])
            refine wpAnyH_take (i := 19) (oi := { dst := some 86, op := Op.pick (Operand.tmp 76) (Operand.tmp 85) (Operand.const (Value.bool false)), type := 4, pos := "l05_schema.go:15", after := #[{ on := 9, ground := Ground.data }, { on := 18, ground := Ground.data }], guard := none }) (v := ?_) rfl (by kernel_rfl) (by kernel_rfl) (by kernel_rfl) (fun _ _ _ h => h) (Or.inl ⟨by rfl, ?_⟩) (by assumption) ?_
            rotate_left
            · intro w hSw; (try dsimp only at hSw); go_simp; (try with_reducible rfl)
            (try simp only [Act.put, List.setIfInBounds_toArray, List.set_cons_zero, List.set_cons_succ])
            refine wpAnyH_done (by kernel_rfl) ?_ _
            clear hHeld
            go_wp2
            go_roundw
            case rel => exact ⟨k + 1, by omega, by go_num, HN'.out, by first | exact HB4.out | exact HB4.out.drew⟩
            case measure => simp [intOf]; omega
        · have HA : Hid ((c.one.all fun x => hasS c.may x || hasS c.must x) = true) := Lib.hid (by
            rw [List.all_eq_true]
            intro x hx
            obtain ⟨i, hi, rfl⟩ := List.getElem_of_mem hx
            exact Ha.out i hi (by omega))
          rw [HA.out] at HE
          have HBl := Lib.hid hbel
          clear HA Ha hbel hb4
          go_wp2_with fail
          refine (E1.out _ _ HBl.out).mono ?_
          rintro e wx ⟨rfl, rfl⟩
          rw [show hasS c.must ⟨#[99, 108, 97, 115, 115]⟩ = hasS c.must clsT from rfl]
          cases hm : hasS c.must clsT
          · rw [hm] at HE
            go_wp2_with fail
            refine (E2.out _ _ HBl.out).mono ?_
            rintro e wy ⟨rfl, rfl⟩
            rw [show hasS c.may ⟨#[99, 108, 97, 115, 115]⟩ = hasS c.may clsT from rfl]
            cases hy : hasS c.may clsT
            · rw [hy] at HE
              go_wp2
              go_ret
              exact ⟨ret_bool (by rw [HE.out]; simp), HBl.out⟩
            · rw [hy] at HE
              go_wp2
              go_ret
              exact ⟨ret_bool (by rw [HE.out]; simp), HBl.out⟩
          · rw [hm] at HE
            go_wp2
            go_ret
            exact ⟨ret_bool (by rw [HE.out]; simp), HBl.out⟩
end Go.Proofs.YtohcdpoffpnfhaaGreatDoor
