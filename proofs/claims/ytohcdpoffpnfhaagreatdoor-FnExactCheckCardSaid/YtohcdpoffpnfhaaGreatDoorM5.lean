/- Merged texts: ClsR4a, ClsR5, ClsA. -/
import Derived.Test.YtohcdpoffpnfhaaGreatDoorM4
import Derived.Test.YtohcdpoffpnfhaaGreatDoorM2
import Derived.Test.YtohcdpoffpnfhaaGreatDoorM3
/- SchemaRight: what the program returns. -/
namespace Go.Proofs.YtohcdpoffpnfhaaGreatDoor
open Go.RowKit
attribute [local go_sem ↓] Go.wp_at_zero Go.wp_at_succ

theorem own_strs {w : World} {B n cap : Nat} {ao : Option Addr} {d : List ByteArray} (h : w.ownsRow B 9 1 (.slice ao n cap) d.length (ss d)) : StrsAt w ao d ∧ n = d.length := by
  by_cases h0 : d.length = 0
  · refine ⟨.inl (List.length_eq_zero_iff.1 h0), ?_⟩
    obtain ⟨_, ⟨e, _⟩ | ⟨g, cp, cur, e, _⟩⟩ := h
    · injection e with _ e _; omega
    · injection e with _ e _
  · obtain ⟨g, cp, hv, _, hlt⟩ := h.form (by omega)
    injection hv with e1 e2 e3
    subst e1
    refine ⟨.inr ⟨g, 0, rfl, hlt, fun i hi => ?_⟩, e2⟩
    have := h.cells (g := g) rfl i (.string d[i]) (by unfold ss; simp [hi])
    rw [add_plain] at this
    rw [Nat.zero_add]; exact this
theorem size_up (w : World) (o : Obj) : (w.alloc o).heap.size = w.heap.size + 1 := by simp
theorem own_slv {w : World} {B : Nat} {v : Value} {d : List ByteArray} (h : w.ownsRow B 9 1 v d.length (ss d)) : ∃ ao cap, v = .slice ao d.length cap ∧ StrsAt w ao d := by
  have hs : ∃ ao n cap, v = .slice ao n cap := by
    obtain ⟨_, ⟨e, _⟩ | ⟨g, cp, cur, e, _⟩⟩ := h
    · exact ⟨_, _, _, e⟩
    · exact ⟨_, _, _, e⟩
  obtain ⟨ao, n, cap, rfl⟩ := hs
  obtain ⟨h1, rfl⟩ := own_strs h
  exact ⟨ao, cap, rfl, h1⟩
set_option maxRecDepth 100000 in
set_option maxHeartbeats 2000000 in
theorem permitted_any (c : ClassV) (v1 v2 v3 : Value) (w : World) (h1 : SlV w v1 c.must) (h2 : SlV w v2 c.may) (h3 : IsSl v3) (f1 : FitsV c.must) (f2 : FitsV c.may) :
    Calls Tryz.prog 160 #[.agg #[.string c.nm, v1, v2, v3]] w (GivesV w (c.must ++ c.may)) := by
  obtain ⟨o1, k1, rfl, s1⟩ := h1
  obtain ⟨o2, k2, rfl, s2⟩ := h2
  obtain ⟨o3, n3, k3, rfl⟩ := h3
  have S1 := Lib.hid s1; have S2 := Lib.hid s2; have F1 := Lib.hid f1; have F2 := Lib.hid f2
  clear s1 s2 f1 f2
  go_enter Tryz.func160, Tryz.ntmps160
  go_wp2_with fail
  refine calls_any' (fun W => Below w.heap.size w W ∧ PartsV W (w.heap.size + 1) 0 [⟨o1, k1, c.must⟩, ⟨o2, k2, c.may⟩]) ⟨more (more (Below.refl _ _) _) _, ?_⟩ ?_
  · have hb := more (more (Below.refl w.heap.size w) (Obj.cells #[Value.string c.nm, Value.slice o1 c.must.length k1, Value.slice o2 c.may.length k2, Value.slice o3 n3 k3] 85)) (Obj.cells #[Value.slice o1 c.must.length k1, Value.slice o2 c.may.length k2] 79)
    have ht := twoNew (w.alloc (Obj.cells #[Value.string c.nm, Value.slice o1 c.must.length k1, Value.slice o2 c.may.length k2, Value.slice o3 n3 k3] 85)) 79 (.slice o1 c.must.length k1) (.slice o2 c.may.length k2)
    rw [size_up] at ht
    refine ⟨ht.lt, fun i hi => ?_⟩
    match i, hi with
    | 0, _ => exact ⟨ht.cells.1.1, S1.out.1.below hb, S1.out.2.2, F1.out.1⟩
    | 1, _ => exact ⟨ht.cells.1.2, S2.out.1.below hb, S2.out.2.2, F2.out.1⟩
  rintro W ⟨b1, hp⟩
  refine (concatV_any (w.heap.size + 1) 0 2 [⟨o1, k1, c.must⟩, ⟨o2, k2, c.may⟩] W hp (by simp)).mono ?_
  have e : flatV [⟨o1, k1, c.must⟩, ⟨o2, k2, c.may⟩] = c.must ++ c.may := by simp [flatV]
  rw [e]
  rintro e w2 ⟨⟨v, rfl, hown⟩, hb2⟩
  have HO := Lib.hid (own_mono hown b1.size); have HB := Lib.hid (b1.trans (hb2.mono b1.size))
  clear hown hb2 hp e
  go_wp2
  go_ret
  exact ⟨⟨_, rfl, HO.out⟩, HB.out⟩
set_option maxRecDepth 100000 in
set_option maxHeartbeats 2000000 in
theorem classRight_any (c : ClassV) (v1 v2 v3 : Value) (w : World) (h1 : SlV w v1 c.must) (h2 : SlV w v2 c.may) (h3 : SlV w v3 c.one) (f : FitsC1 c) :
    Calls Tryz.prog 119 #[.agg #[.string c.nm, v1, v2, v3]] w fun e w' => e = .returned (.bool (classB c)) ∧ Below w.heap.size w w' := by
  have HE : Hid (classB c = (nmL c.nm && (names10 c.must && (names10 c.may && (names10 c.one && ((c.must.all fun x => !(hasS c.may x)) && (!(hasS (c.must ++ c.may) clsT) && c.one.all fun x => hasS (c.must ++ c.may) x))))))) := Lib.hid rfl
  have hn : c.nm.size ≤ maxLen := by have := f.nm; unfold maxLen; omega
  have C1 : Hid (∀ W : World, Below w.heap.size w W → Calls Tryz.prog 165 #[v1] W fun e w' => e = .returned (.bool (names10 c.must)) ∧ Below W.heap.size W w') := Lib.hid (fun W b => classNames_any w v1 c.must W b h1 f.must)
  have C2 : Hid (∀ W : World, Below w.heap.size w W → Calls Tryz.prog 165 #[v2] W fun e w' => e = .returned (.bool (names10 c.may)) ∧ Below W.heap.size W w') := Lib.hid (fun W b => classNames_any w v2 c.may W b h2 f.may)
  have C3 : Hid (∀ W : World, Below w.heap.size w W → Calls Tryz.prog 165 #[v3] W fun e w' => e = .returned (.bool (names10 c.one)) ∧ Below W.heap.size W w') := Lib.hid (fun W b => classNames_any w v3 c.one W b h3 f.one)
  have C4 : Hid (∀ W : World, Below w.heap.size w W → Calls Tryz.prog 158 #[v1, v2] W (GivesV W (besideV c.must c.may))) := Lib.hid (fun W b => by obtain ⟨o1, k1, rfl, s1⟩ := h1; obtain ⟨o2, k2, rfl, s2⟩ := h2; exact beside_any o1 o2 c.must c.may k1 k2 W (s1.1.below b) (s2.1.below b) f.must.1 (by have := f.may.1; omega))
  have C5 : Hid (∀ W : World, Below w.heap.size w W → Calls Tryz.prog 160 #[.agg #[.string c.nm, v1, v2, v3]] W (GivesV W (c.must ++ c.may))) := Lib.hid (fun W b => permitted_any c v1 v2 v3 W (h1.below b) (h2.below b) h3.sl f.must f.may)
  have C6 : Hid (∀ (W : World) (ao : Option Addr) (cap : Nat), Below w.heap.size w W → StrsAt W ao (c.must ++ c.may) → Calls Tryz.prog 158 #[v3, .slice ao (c.must ++ c.may).length cap] W (GivesV W (besideV c.one (c.must ++ c.may)))) := Lib.hid (fun W ao cap b s => by obtain ⟨o3, k3, rfl, s3⟩ := h3; exact beside_any o3 ao c.one (c.must ++ c.may) k3 cap W (s3.1.below b) s f.one.1 (by have := f.may.1; have := f.must.1; rw [List.length_append]; omega))
  obtain ⟨o1, k1, rfl, _⟩ := h1
  obtain ⟨o2, k2, rfl, _⟩ := h2
  obtain ⟨o3, k3, rfl, _⟩ := h3
  have HPl : Hid ((c.must ++ c.may).length ≤ 10000000) := Lib.hid (by have := f.may.1; have := f.must.1; rw [List.length_append]; omega)
  have HL1 : Hid ((besideV c.must c.may).length ≤ 1048576) := Lib.hid (by have := f.must.1; have h := besideV_len c.must c.may c.must.length; rw [List.take_length] at h; omega)
  have HL2 : Hid ((besideV c.one (c.must ++ c.may)).length ≤ 1048576) := Lib.hid (by have := f.one.1; have h := besideV_len c.one (c.must ++ c.may) c.one.length; rw [List.take_length] at h; omega)
  have HL3 : Hid (c.must.length ≤ 1048576) := Lib.hid f.must.1
  clear f
  go_enter Tryz.func119, Tryz.ntmps119
  go_wp2_with fail
  refine calls_any' (fun W => Below w.heap.size w W ∧ Quad W w.heap.size 85 (.string c.nm) (.slice o1 c.must.length k1) (.slice o2 c.may.length k2) (.slice o3 c.one.length k3)) ⟨more (Below.refl _ _) _, quadNew _ _ _ _ _ _⟩ ?_
  rintro W1 ⟨b1, t1⟩
  have T1 := Lib.hid t1; clear t1
  refine (NameRight_any _ W1 hn).mono ?_
  rintro e w' ⟨rfl, rfl⟩
  cases h0 : nmL c.nm
  · rw [h0] at HE
    go_wp2
    go_ret
    exact ⟨ret_bool (by rw [HE.out]; simp), b1⟩
  rw [h0] at HE
  obtain ⟨q0, q1, q2, q3⟩ := T1.out.cells
  go_wp2_with fail
  refine (C1.out _ b1).mono ?_
  rintro e w2 ⟨rfl, hb⟩
  have T2 := Lib.hid (T1.out.below hb); have b2 := b1.trans (hb.mono b1.size)
  clear hb q0 q1 q2 q3 T1 b1 C1
  cases h1 : names10 c.must
  · rw [h1] at HE
    go_wp2
    go_ret
    exact ⟨ret_bool (by rw [HE.out]; simp), b2⟩
  rw [h1] at HE
  obtain ⟨q0, q1, q2, q3⟩ := T2.out.cells
  go_wp2_with fail
  refine (C2.out _ b2).mono ?_
  rintro e w3 ⟨rfl, hb⟩
  have T3 := Lib.hid (T2.out.below hb); have b3 := b2.trans (hb.mono b2.size)
  clear hb q0 q1 q2 q3 T2 b2 C2
  cases h2 : names10 c.may
  · rw [h2] at HE
    go_wp2
    go_ret
    exact ⟨ret_bool (by rw [HE.out]; simp), b3⟩
  rw [h2] at HE
  obtain ⟨q0, q1, q2, q3⟩ := T3.out.cells
  go_wp2_with fail
  refine (C3.out _ b3).mono ?_
  rintro e w4 ⟨rfl, hb⟩
  have T4 := Lib.hid (T3.out.below hb); have b4 := b3.trans (hb.mono b3.size)
  clear hb q0 q1 q2 q3 T3 b3 C3
  cases h3 : names10 c.one
  · rw [h3] at HE
    go_wp2
    go_ret
    exact ⟨ret_bool (by rw [HE.out]; simp), b4⟩
  rw [h3] at HE
  have HM : Hid (decide ((besideV c.must c.may).length < c.must.length) = !(c.must.all fun x => !(hasS c.may x))) := Lib.hid (besideV_lt _ _)
  have HO : Hid (decide ((besideV c.one (c.must ++ c.may)).length = 0) = c.one.all fun x => hasS (c.must ++ c.may) x) := Lib.hid (besideV_zero _ _)
  have SK : Hid (∀ Z' : World, Below w4.heap.size w4 Z' → Z'.cell? ⟨w.heap.size, 0, none⟩ = some (.string c.nm) ∧ Z'.cell? ⟨w.heap.size, 1, none⟩ = some (.slice o1 c.must.length k1) ∧ Z'.cell? ⟨w.heap.size, 2, none⟩ = some (.slice o2 c.may.length k2) ∧ Z'.cell? ⟨w.heap.size, 3, none⟩ = some (.slice o3 c.one.length k3)) := Lib.hid (fun Z' h => (T4.out.below h).cells)
  have D4 : Hid (∀ W : World, Below w4.heap.size w4 W → Calls Tryz.prog 158 #[.slice o1 c.must.length k1, .slice o2 c.may.length k2] W fun e w' => (∃ ao cap, e = .returned (.slice ao (besideV c.must c.may).length cap)) ∧ Below w4.heap.size w4 w') := Lib.hid (fun W h => by
    refine (C4.out W (b4.trans (h.mono b4.size))).mono ?_
    rintro e w' ⟨⟨v, rfl, o⟩, b⟩
    obtain ⟨ao, cap, rfl, _⟩ := own_slv o
    exact ⟨⟨ao, cap, rfl⟩, h.trans (b.mono h.size)⟩)
  have D5 : Hid (∀ W : World, Below w4.heap.size w4 W → Calls Tryz.prog 160 #[.agg #[.string c.nm, .slice o1 c.must.length k1, .slice o2 c.may.length k2, .slice o3 c.one.length k3]] W fun e w' => (∃ ao cap, e = .returned (.slice ao (c.must ++ c.may).length cap) ∧ StrsAt w' ao (c.must ++ c.may)) ∧ Below w4.heap.size w4 w') := Lib.hid (fun W h => by
    refine (C5.out W (b4.trans (h.mono b4.size))).mono ?_
    rintro e w' ⟨⟨v, rfl, o⟩, b⟩
    obtain ⟨ao, cap, rfl, s⟩ := own_slv o
    exact ⟨⟨ao, cap, rfl, s⟩, h.trans (b.mono h.size)⟩)
  have D6 : Hid (∀ (W : World) (ao : Option Addr) (cap : Nat), Below w4.heap.size w4 W → StrsAt W ao (c.must ++ c.may) → Calls Tryz.prog 161 #[.slice ao (c.must ++ c.may).length cap, .string ⟨#[99, 108, 97, 115, 115]⟩] W fun e w' => e = .returned (.bool (hasS (c.must ++ c.may) clsT)) ∧ Below w4.heap.size w4 w') := Lib.hid (fun W ao cap h s => by
    refine (contains_any ao (c.must ++ c.may) cap ⟨#[99, 108, 97, 115, 115]⟩ W s HPl.out).mono ?_
    rintro e w' ⟨rfl, rfl⟩
    exact ⟨rfl, h⟩)
  have D7 : Hid (∀ (W : World) (ao : Option Addr) (cap : Nat), Below w4.heap.size w4 W → StrsAt W ao (c.must ++ c.may) → Calls Tryz.prog 158 #[.slice o3 c.one.length k3, .slice ao (c.must ++ c.may).length cap] W fun e w' => (∃ ao cap, e = .returned (.slice ao (besideV c.one (c.must ++ c.may)).length cap)) ∧ Below w4.heap.size w4 w') := Lib.hid (fun W ao cap h s => by
    refine (C6.out W ao cap (b4.trans (h.mono b4.size)) s).mono ?_
    rintro e w' ⟨⟨v, rfl, o⟩, b⟩
    obtain ⟨ao, cap, rfl, _⟩ := own_slv o
    exact ⟨⟨ao, cap, rfl⟩, h.trans (b.mono h.size)⟩)
  have BD : Below w4.heap.size w4 w4.drew := (Below.refl _ _).drew
  have HB4 := Lib.hid b4
  clear b4 T4 C4 C5 C6
  have hn1 : ((besideV c.must c.may).length : Int) ≤ 1048576 := by have := HL1.out; omega
  have hn2 : ((besideV c.one (c.must ++ c.may)).length : Int) ≤ 1048576 := by have := HL2.out; omega
  have hm0 : (c.must.length : Int) ≤ 1048576 := by have := HL3.out; omega
  generalize besideV c.must c.may = X at *
  generalize besideV c.one (c.must ++ c.may) = Y at *
  generalize (c.must ++ c.may) = PP at *
  by_cases hx : X.length < c.must.length
  · have g1 : (X.length : Int) < (c.must.length : Int) := by omega
    have HF : Hid ((c.must.all fun x => !(hasS c.may x)) = false) := Lib.hid (by have := HM.out; rw [decide_eq_true hx] at this; simpa using this.symm)
    rw [HF.out] at HE
    go_wp2_with fail
    refine wp_region_held_drew (S := (fun Z' => Z'.cell? ⟨w.heap.size, 0, none⟩ = some (.string c.nm) ∧ Z'.cell? ⟨w.heap.size, 1, none⟩ = some (.slice o1 c.must.length k1) ∧ Z'.cell? ⟨w.heap.size, 2, none⟩ = some (.slice o2 c.may.length k2) ∧ Z'.cell? ⟨w.heap.size, 3, none⟩ = some (.slice o3 c.one.length k3))) (by kernel_rfl) ?_ (fun hHeld => ?_)
    · (try dsimp only)
      first | exact SK.out _ (by assumption) | exact SK.out _ BD
    refine wpAnyH_take (i := 0) (oi := { dst := some 25, op := Op.fieldAddr 85 (Operand.tmp 1) 1, type := 0, pos := "l05_schema.go:74", after := #[], guard := none }) (v := ?_) rfl (by kernel_rfl) (by kernel_rfl) (by kernel_rfl) (fun _ _ _ h => h) (Or.inl ⟨by rfl, ?_⟩) (by assumption) ?_
    rotate_left
    · intro w hSw; (try dsimp only at hSw); go_simp; (try with_reducible rfl)
    (try simp only [Act.put, List.setIfInBounds_toArray, List.set_cons_zero, List.set_cons_succ])
    refine wpAnyH_take (i := 1) (oi := { dst := some 26, op := Op.load 79 (Operand.tmp 25), type := 79, pos := "l05_schema.go:74", after := #[{ on := 0, ground := Ground.data }], guard := none }) (v := ?_) rfl (by kernel_rfl) (by kernel_rfl) (by kernel_rfl) (fun _ _ _ h => h) (Or.inl ⟨by rfl, ?_⟩) (by assumption) ?_
    rotate_left
    · intro w hSw; (try dsimp only at hSw); go_simp; (try with_reducible rfl)
    (try simp only [Act.put, List.setIfInBounds_toArray, List.set_cons_zero, List.set_cons_succ])
    refine wpAnyH_take (i := 2) (oi := { dst := some 27, op := Op.fieldAddr 85 (Operand.tmp 1) 2, type := 0, pos := "l05_schema.go:74", after := #[], guard := none }) (v := ?_) rfl (by kernel_rfl) (by kernel_rfl) (by kernel_rfl) (fun _ _ _ h => h) (Or.inl ⟨by rfl, ?_⟩) (by assumption) ?_
    rotate_left
    · intro w hSw; (try dsimp only at hSw); go_simp; (try with_reducible rfl)
    (try simp only [Act.put, List.setIfInBounds_toArray, List.set_cons_zero, List.set_cons_succ])
    refine wpAnyH_take (i := 3) (oi := { dst := some 28, op := Op.load 79 (Operand.tmp 27), type := 79, pos := "l05_schema.go:74", after := #[{ on := 2, ground := Ground.data }], guard := none }) (v := ?_) rfl (by kernel_rfl) (by kernel_rfl) (by kernel_rfl) (fun _ _ _ h => h) (Or.inl ⟨by rfl, ?_⟩) (by assumption) ?_
    rotate_left
    · intro w hSw; (try dsimp only at hSw); go_simp; (try with_reducible rfl)
    (try simp only [Act.put, List.setIfInBounds_toArray, List.set_cons_zero, List.set_cons_succ])
    refine wpAnyH_take (i := 6) (oi := { dst := some 31, op := Op.fieldAddr 85 (Operand.tmp 1) 1, type := 0, pos := "l05_schema.go:74", after := #[], guard := none }) (v := ?_) rfl (by kernel_rfl) (by kernel_rfl) (by kernel_rfl) (fun _ _ _ h => h) (Or.inl ⟨by rfl, ?_⟩) (by assumption) ?_
    rotate_left
    · intro w hSw; (try dsimp only at hSw); go_simp; (try with_reducible rfl)
    (try simp only [Act.put, List.setIfInBounds_toArray, List.set_cons_zero, List.set_cons_succ])
    refine wpAnyH_take (i := 7) (oi := { dst := some 32, op := Op.load 79 (Operand.tmp 31), type := 79, pos := "l05_schema.go:74", after := #[{ on := 6, ground := Ground.data }], guard := none }) (v := ?_) rfl (by kernel_rfl) (by kernel_rfl) (by kernel_rfl) (fun _ _ _ h => h) (Or.inl ⟨by rfl, ?_⟩) (by assumption) ?_
    rotate_left
    · intro w hSw; (try dsimp only at hSw); go_simp; (try with_reducible rfl)
    (try simp only [Act.put, List.setIfInBounds_toArray, List.set_cons_zero, List.set_cons_succ])
    refine wpAnyH_take (i := 8) (oi := { dst := some 33, op := Op.call { callee := Callee.builtin Builtin.len, args := #[Operand.tmp 32], argTypes := #[79] }, type := 3, pos := "l05_schema.go:74", after := #[{ on := 7, ground := Ground.data }], guard := none }) (v := ?_) rfl (by kernel_rfl) (by kernel_rfl) (by kernel_rfl) (fun _ _ _ h => h) (Or.inl ⟨by rfl, ?_⟩) (by assumption) ?_
    rotate_left
    · intro w hSw; (try dsimp only at hSw); go_simp; (try with_reducible rfl)
    (try simp only [Act.put, List.setIfInBounds_toArray, List.set_cons_zero, List.set_cons_succ])
    refine wpAnyH_ready (rs := [4]) (by kernel_rfl) (by simp) ?_
    refine AllReadyH.cons (o := { dst := some 29, op := Op.call { callee := Callee.value (Operand.func 158), args := #[Operand.tmp 26, Operand.tmp 28], argTypes := #[79, 79] }, type := 79, pos := "l05_schema.go:74", after := #[{ on := 1, ground := Ground.data }, { on := 3, ground := Ground.data }], guard := none }) rfl (fun K hK => ?_) (AllReadyH.nil)
    go_simp
    refine (D4.out _ (by first | assumption | exact BD)).mono ?_
    rintro e m4 ⟨⟨xo, xc, rfl⟩, d4⟩
    clear hHeld
    refine hK.out _ _ ?_ (fun hHeld => ?_)
    · (try dsimp only)
      first | exact SK.out _ (by assumption) | exact SK.out _ BD
    clear hK K
    (try simp only [Act.put, List.setIfInBounds_toArray, List.set_cons_zero, List.set_cons_succ])
    refine wpAnyH_take (i := 5) (oi := { dst := some 30, op := Op.call { callee := Callee.builtin Builtin.len, args := #[Operand.tmp 29], argTypes := #[79] }, type := 3, pos := "l05_schema.go:74", after := #[{ on := 4, ground := Ground.data }], guard := none }) (v := ?_) rfl (by kernel_rfl) (by kernel_rfl) (by kernel_rfl) (fun _ _ _ h => h) (Or.inl ⟨by rfl, ?_⟩) (by assumption) ?_
    rotate_left
    · intro w hSw; (try dsimp only at hSw); go_simp; (try with_reducible rfl)
    (try simp only [Act.put, List.setIfInBounds_toArray, List.set_cons_zero, List.set_cons_succ])
    refine wpAnyH_take (i := 9) (oi := { dst := some 34, op := Op.binOp BinOp.lss 3 (Operand.tmp 30) (Operand.tmp 33) 3, type := 4, pos := "l05_schema.go:74", after := #[{ on := 5, ground := Ground.data }, { on := 8, ground := Ground.data }], guard := none }) (v := ?_) rfl (by kernel_rfl) (by kernel_rfl) (by kernel_rfl) (fun _ _ _ h => h) (Or.inl ⟨by rfl, ?_⟩) (by assumption) ?_
    rotate_left
    · intro w hSw; (try dsimp only at hSw); go_simp; (try with_reducible rfl)
    (try simp only [Act.put, List.setIfInBounds_toArray, List.set_cons_zero, List.set_cons_succ])
    refine wpAnyH_take (i := 10) (oi := { dst := some 35, op := Op.move (Operand.tmp 34), type := 4, pos := "l05_schema.go:74", after := #[{ on := 9, ground := Ground.data }, { on := 4, ground := Ground.chain }], guard := none }) (v := ?_) rfl (by kernel_rfl) (by kernel_rfl) (by kernel_rfl) (fun _ _ _ h => h) (Or.inl ⟨by rfl, ?_⟩) (by assumption) ?_
    rotate_left
    · intro w hSw; (try dsimp only at hSw); go_simp; (try with_reducible rfl)
    (try simp only [Act.put, List.setIfInBounds_toArray, List.set_cons_zero, List.set_cons_succ])
    refine wpAnyH_take (i := 11) (oi := { dst := some 36, op := Op.load 85 (Operand.tmp 1), type := 85, pos := "l05_schema.go:74", after := #[{ on := 10, ground := Ground.guard }], guard := some (10, false) }) (v := undef) rfl (by kernel_rfl) (by kernel_rfl) (by kernel_rfl) (fun _ _ _ h => h) (Or.inr ⟨by rfl, rfl⟩) (by assumption) ?_
    (try simp only [Act.put, List.setIfInBounds_toArray, List.set_cons_zero, List.set_cons_succ])
    refine wpAnyH_take (i := 12) (oi := { dst := some 37, op := Op.call { callee := Callee.value (Operand.func 160), args := #[Operand.tmp 36], argTypes := #[85] }, type := 79, pos := "l05_schema.go:74", after := #[{ on := 11, ground := Ground.data }, { on := 10, ground := Ground.chain }, { on := 10, ground := Ground.guard }], guard := some (10, false) }) (v := undef) rfl (by kernel_rfl) (by kernel_rfl) (by kernel_rfl) (fun _ _ _ h => h) (Or.inr ⟨by rfl, rfl⟩) (by assumption) ?_
    (try simp only [Act.put, List.setIfInBounds_toArray, List.set_cons_zero, List.set_cons_succ])
    refine wpAnyH_take (i := 13) (oi := { dst := some 38, op := Op.call { callee := Callee.value (Operand.func 161), args := #[Operand.tmp 37, Operand.const (Value.string { data := #[99, 108, 97, 115, 115] })], argTypes := #[79, 9] }, type := 4, pos := "l05_schema.go:74", after := #[{ on := 12, ground := Ground.data }, { on := 12, ground := Ground.chain }, { on := 10, ground := Ground.guard }], guard := some (10, false) }) (v := undef) rfl (by kernel_rfl) (by kernel_rfl) (by kernel_rfl) (fun _ _ _ h => h) (Or.inr ⟨by rfl, rfl⟩) (by assumption) ?_
    (try simp only [Act.put, List.setIfInBounds_toArray, List.set_cons_zero, List.set_cons_succ])
    refine wpAnyH_take (i := 14) (oi := { dst := some 39, op := Op.pick (Operand.tmp 35) (Operand.const (Value.bool true)) (Operand.tmp 38), type := 4, pos := "l05_schema.go:74", after := #[{ on := 10, ground := Ground.data }, { on := 13, ground := Ground.data }], guard := none }) (v := ?_) rfl (by kernel_rfl) (by kernel_rfl) (by kernel_rfl) (fun _ _ _ h => h) (Or.inl ⟨by rfl, ?_⟩) (by assumption) ?_
    rotate_left
    · intro w hSw; (try dsimp only at hSw); go_simp; (try with_reducible rfl)
    (try simp only [Act.put, List.setIfInBounds_toArray, List.set_cons_zero, List.set_cons_succ])
    refine wpAnyH_done (by kernel_rfl) ?_ _
    clear hHeld
    go_wp2
    go_ret
    exact ⟨ret_bool (by rw [HE.out]; simp), HB4.out.trans (d4.mono HB4.out.size)⟩
  · have g1 : ¬ (X.length : Int) < (c.must.length : Int) := by omega
    have HF : Hid ((c.must.all fun x => !(hasS c.may x)) = true) := Lib.hid (by have := HM.out; rw [decide_eq_false hx] at this; simpa using this.symm)
    rw [HF.out] at HE
    go_wp2_with fail
    cases hh : hasS PP clsT
    · rw [hh] at HE D6
      refine wp_region_held_drew (S := (fun Z' => Z'.cell? ⟨w.heap.size, 0, none⟩ = some (.string c.nm) ∧ Z'.cell? ⟨w.heap.size, 1, none⟩ = some (.slice o1 c.must.length k1) ∧ Z'.cell? ⟨w.heap.size, 2, none⟩ = some (.slice o2 c.may.length k2) ∧ Z'.cell? ⟨w.heap.size, 3, none⟩ = some (.slice o3 c.one.length k3))) (by kernel_rfl) ?_ (fun hHeld => ?_)
      · (try dsimp only)
        first | exact SK.out _ (by assumption) | exact SK.out _ BD
      refine wpAnyH_take (i := 0) (oi := { dst := some 25, op := Op.fieldAddr 85 (Operand.tmp 1) 1, type := 0, pos := "l05_schema.go:74", after := #[], guard := none }) (v := ?_) rfl (by kernel_rfl) (by kernel_rfl) (by kernel_rfl) (fun _ _ _ h => h) (Or.inl ⟨by rfl, ?_⟩) (by assumption) ?_
      rotate_left
      · intro w hSw; (try dsimp only at hSw); go_simp; (try with_reducible rfl)
      (try simp only [Act.put, List.setIfInBounds_toArray, List.set_cons_zero, List.set_cons_succ])
      refine wpAnyH_take (i := 1) (oi := { dst := some 26, op := Op.load 79 (Operand.tmp 25), type := 79, pos := "l05_schema.go:74", after := #[{ on := 0, ground := Ground.data }], guard := none }) (v := ?_) rfl (by kernel_rfl) (by kernel_rfl) (by kernel_rfl) (fun _ _ _ h => h) (Or.inl ⟨by rfl, ?_⟩) (by assumption) ?_
      rotate_left
      · intro w hSw; (try dsimp only at hSw); go_simp; (try with_reducible rfl)
      (try simp only [Act.put, List.setIfInBounds_toArray, List.set_cons_zero, List.set_cons_succ])
      refine wpAnyH_take (i := 2) (oi := { dst := some 27, op := Op.fieldAddr 85 (Operand.tmp 1) 2, type := 0, pos := "l05_schema.go:74", after := #[], guard := none }) (v := ?_) rfl (by kernel_rfl) (by kernel_rfl) (by kernel_rfl) (fun _ _ _ h => h) (Or.inl ⟨by rfl, ?_⟩) (by assumption) ?_
      rotate_left
      · intro w hSw; (try dsimp only at hSw); go_simp; (try with_reducible rfl)
      (try simp only [Act.put, List.setIfInBounds_toArray, List.set_cons_zero, List.set_cons_succ])
      refine wpAnyH_take (i := 3) (oi := { dst := some 28, op := Op.load 79 (Operand.tmp 27), type := 79, pos := "l05_schema.go:74", after := #[{ on := 2, ground := Ground.data }], guard := none }) (v := ?_) rfl (by kernel_rfl) (by kernel_rfl) (by kernel_rfl) (fun _ _ _ h => h) (Or.inl ⟨by rfl, ?_⟩) (by assumption) ?_
      rotate_left
      · intro w hSw; (try dsimp only at hSw); go_simp; (try with_reducible rfl)
      (try simp only [Act.put, List.setIfInBounds_toArray, List.set_cons_zero, List.set_cons_succ])
      refine wpAnyH_take (i := 6) (oi := { dst := some 31, op := Op.fieldAddr 85 (Operand.tmp 1) 1, type := 0, pos := "l05_schema.go:74", after := #[], guard := none }) (v := ?_) rfl (by kernel_rfl) (by kernel_rfl) (by kernel_rfl) (fun _ _ _ h => h) (Or.inl ⟨by rfl, ?_⟩) (by assumption) ?_
      rotate_left
      · intro w hSw; (try dsimp only at hSw); go_simp; (try with_reducible rfl)
      (try simp only [Act.put, List.setIfInBounds_toArray, List.set_cons_zero, List.set_cons_succ])
      refine wpAnyH_take (i := 7) (oi := { dst := some 32, op := Op.load 79 (Operand.tmp 31), type := 79, pos := "l05_schema.go:74", after := #[{ on := 6, ground := Ground.data }], guard := none }) (v := ?_) rfl (by kernel_rfl) (by kernel_rfl) (by kernel_rfl) (fun _ _ _ h => h) (Or.inl ⟨by rfl, ?_⟩) (by assumption) ?_
      rotate_left
      · intro w hSw; (try dsimp only at hSw); go_simp; (try with_reducible rfl)
      (try simp only [Act.put, List.setIfInBounds_toArray, List.set_cons_zero, List.set_cons_succ])
      refine wpAnyH_take (i := 8) (oi := { dst := some 33, op := Op.call { callee := Callee.builtin Builtin.len, args := #[Operand.tmp 32], argTypes := #[79] }, type := 3, pos := "l05_schema.go:74", after := #[{ on := 7, ground := Ground.data }], guard := none }) (v := ?_) rfl (by kernel_rfl) (by kernel_rfl) (by kernel_rfl) (fun _ _ _ h => h) (Or.inl ⟨by rfl, ?_⟩) (by assumption) ?_
      rotate_left
      · intro w hSw; (try dsimp only at hSw); go_simp; (try with_reducible rfl)
      (try simp only [Act.put, List.setIfInBounds_toArray, List.set_cons_zero, List.set_cons_succ])
      refine wpAnyH_ready (rs := [4]) (by kernel_rfl) (by simp) ?_
      refine AllReadyH.cons (o := { dst := some 29, op := Op.call { callee := Callee.value (Operand.func 158), args := #[Operand.tmp 26, Operand.tmp 28], argTypes := #[79, 79] }, type := 79, pos := "l05_schema.go:74", after := #[{ on := 1, ground := Ground.data }, { on := 3, ground := Ground.data }], guard := none }) rfl (fun K hK => ?_) (AllReadyH.nil)
      go_simp
      refine (D4.out _ (by first | assumption | exact BD)).mono ?_
      rintro e m4 ⟨⟨xo, xc, rfl⟩, d4⟩
      clear hHeld
      refine hK.out _ _ ?_ (fun hHeld => ?_)
      · (try dsimp only)
        first | exact SK.out _ (by assumption) | exact SK.out _ BD
      clear hK K
      (try simp only [Act.put, List.setIfInBounds_toArray, List.set_cons_zero, List.set_cons_succ])
      refine wpAnyH_take (i := 5) (oi := { dst := some 30, op := Op.call { callee := Callee.builtin Builtin.len, args := #[Operand.tmp 29], argTypes := #[79] }, type := 3, pos := "l05_schema.go:74", after := #[{ on := 4, ground := Ground.data }], guard := none }) (v := ?_) rfl (by kernel_rfl) (by kernel_rfl) (by kernel_rfl) (fun _ _ _ h => h) (Or.inl ⟨by rfl, ?_⟩) (by assumption) ?_
      rotate_left
      · intro w hSw; (try dsimp only at hSw); go_simp; (try with_reducible rfl)
      (try simp only [Act.put, List.setIfInBounds_toArray, List.set_cons_zero, List.set_cons_succ])
      refine wpAnyH_take (i := 9) (oi := { dst := some 34, op := Op.binOp BinOp.lss 3 (Operand.tmp 30) (Operand.tmp 33) 3, type := 4, pos := "l05_schema.go:74", after := #[{ on := 5, ground := Ground.data }, { on := 8, ground := Ground.data }], guard := none }) (v := ?_) rfl (by kernel_rfl) (by kernel_rfl) (by kernel_rfl) (fun _ _ _ h => h) (Or.inl ⟨by rfl, ?_⟩) (by assumption) ?_
      rotate_left
      · intro w hSw; (try dsimp only at hSw); go_simp; (try with_reducible rfl)
      (try simp only [Act.put, List.setIfInBounds_toArray, List.set_cons_zero, List.set_cons_succ])
      refine wpAnyH_take (i := 10) (oi := { dst := some 35, op := Op.move (Operand.tmp 34), type := 4, pos := "l05_schema.go:74", after := #[{ on := 9, ground := Ground.data }, { on := 4, ground := Ground.chain }], guard := none }) (v := ?_) rfl (by kernel_rfl) (by kernel_rfl) (by kernel_rfl) (fun _ _ _ h => h) (Or.inl ⟨by rfl, ?_⟩) (by assumption) ?_
      rotate_left
      · intro w hSw; (try dsimp only at hSw); go_simp; (try with_reducible rfl)
      (try simp only [Act.put, List.setIfInBounds_toArray, List.set_cons_zero, List.set_cons_succ])
      refine wpAnyH_take (i := 11) (oi := { dst := some 36, op := Op.load 85 (Operand.tmp 1), type := 85, pos := "l05_schema.go:74", after := #[{ on := 10, ground := Ground.guard }], guard := some (10, false) }) (v := ?_) rfl (by kernel_rfl) (by kernel_rfl) (by kernel_rfl) (fun _ _ _ h => h) (Or.inl ⟨by rfl, ?_⟩) (by assumption) ?_
      rotate_left
      · intro w hSw; (try dsimp only at hSw); go_simp; (try with_reducible rfl)
      (try simp only [Act.put, List.setIfInBounds_toArray, List.set_cons_zero, List.set_cons_succ])
      refine wpAnyH_ready (rs := [12]) (by kernel_rfl) (by simp) ?_
      refine AllReadyH.cons (o := { dst := some 37, op := Op.call { callee := Callee.value (Operand.func 160), args := #[Operand.tmp 36], argTypes := #[85] }, type := 79, pos := "l05_schema.go:74", after := #[{ on := 11, ground := Ground.data }, { on := 10, ground := Ground.chain }, { on := 10, ground := Ground.guard }], guard := some (10, false) }) rfl (fun K hK => ?_) (AllReadyH.nil)
      go_simp
      refine (D5.out _ (by first | assumption | exact BD)).mono ?_
      rintro e m12 ⟨⟨yo, yc, rfl, sy⟩, d12⟩
      clear d4
      clear hHeld
      refine hK.out _ _ ?_ (fun hHeld => ?_)
      · (try dsimp only)
        first | exact SK.out _ (by assumption) | exact SK.out _ BD
      clear hK K
      (try simp only [Act.put, List.setIfInBounds_toArray, List.set_cons_zero, List.set_cons_succ])
      refine wpAnyH_ready (rs := [13]) (by kernel_rfl) (by simp) ?_
      refine AllReadyH.cons (o := { dst := some 38, op := Op.call { callee := Callee.value (Operand.func 161), args := #[Operand.tmp 37, Operand.const (Value.string { data := #[99, 108, 97, 115, 115] })], argTypes := #[79, 9] }, type := 4, pos := "l05_schema.go:74", after := #[{ on := 12, ground := Ground.data }, { on := 12, ground := Ground.chain }, { on := 10, ground := Ground.guard }], guard := some (10, false) }) rfl (fun K hK => ?_) (AllReadyH.nil)
      go_simp
      refine (D6.out m12 yo yc d12 sy).mono ?_
      rintro e m13 ⟨rfl, d13⟩
      clear d12 sy
      clear hHeld
      refine hK.out _ _ ?_ (fun hHeld => ?_)
      · (try dsimp only)
        first | exact SK.out _ (by assumption) | exact SK.out _ BD
      clear hK K
      (try simp only [Act.put, List.setIfInBounds_toArray, List.set_cons_zero, List.set_cons_succ])
      refine wpAnyH_take (i := 14) (oi := { dst := some 39, op := Op.pick (Operand.tmp 35) (Operand.const (Value.bool true)) (Operand.tmp 38), type := 4, pos := "l05_schema.go:74", after := #[{ on := 10, ground := Ground.data }, { on := 13, ground := Ground.data }], guard := none }) (v := ?_) rfl (by kernel_rfl) (by kernel_rfl) (by kernel_rfl) (fun _ _ _ h => h) (Or.inl ⟨by rfl, ?_⟩) (by assumption) ?_
      rotate_left
      · intro w hSw; (try dsimp only at hSw); go_simp; (try with_reducible rfl)
      (try simp only [Act.put, List.setIfInBounds_toArray, List.set_cons_zero, List.set_cons_succ])
      refine wpAnyH_done (by kernel_rfl) ?_ _
      clear hHeld
      have BE := d13.drew
      go_wp2_with fail
      by_cases hy : Y.length = 0
      · have g2 : ((Y.length : Int) == 0) = true := by simpa using hy
        have HG : Hid ((c.one.all fun x => hasS PP x) = true) := Lib.hid (by rw [← HO.out]; exact decide_eq_true hy)
        rw [HG.out] at HE
        refine wp_region_held_drew (S := (fun Z' => Z'.cell? ⟨w.heap.size, 0, none⟩ = some (.string c.nm) ∧ Z'.cell? ⟨w.heap.size, 1, none⟩ = some (.slice o1 c.must.length k1) ∧ Z'.cell? ⟨w.heap.size, 2, none⟩ = some (.slice o2 c.may.length k2) ∧ Z'.cell? ⟨w.heap.size, 3, none⟩ = some (.slice o3 c.one.length k3))) (by kernel_rfl) ?_ (fun hHeld => ?_)
        · (try dsimp only)
          first | exact SK.out _ (by assumption) | exact SK.out _ BE
        refine wpAnyH_take (i := 0) (oi := { dst := some 40, op := Op.fieldAddr 85 (Operand.tmp 1) 3, type := 0, pos := "l05_schema.go:77", after := #[], guard := none }) (v := ?_) rfl (by kernel_rfl) (by kernel_rfl) (by kernel_rfl) (fun _ _ _ h => h) (Or.inl ⟨by rfl, ?_⟩) (by assumption) ?_
        rotate_left
        · intro w hSw; (try dsimp only at hSw); go_simp; (try with_reducible rfl)
        (try simp only [Act.put, List.setIfInBounds_toArray, List.set_cons_zero, List.set_cons_succ])
        refine wpAnyH_take (i := 1) (oi := { dst := some 41, op := Op.load 79 (Operand.tmp 40), type := 79, pos := "l05_schema.go:77", after := #[{ on := 0, ground := Ground.data }], guard := none }) (v := ?_) rfl (by kernel_rfl) (by kernel_rfl) (by kernel_rfl) (fun _ _ _ h => h) (Or.inl ⟨by rfl, ?_⟩) (by assumption) ?_
        rotate_left
        · intro w hSw; (try dsimp only at hSw); go_simp; (try with_reducible rfl)
        (try simp only [Act.put, List.setIfInBounds_toArray, List.set_cons_zero, List.set_cons_succ])
        refine wpAnyH_take (i := 2) (oi := { dst := some 42, op := Op.load 85 (Operand.tmp 1), type := 85, pos := "l05_schema.go:77", after := #[], guard := none }) (v := ?_) rfl (by kernel_rfl) (by kernel_rfl) (by kernel_rfl) (fun _ _ _ h => h) (Or.inl ⟨by rfl, ?_⟩) (by assumption) ?_
        rotate_left
        · intro w hSw; (try dsimp only at hSw); go_simp; (try with_reducible rfl)
        (try simp only [Act.put, List.setIfInBounds_toArray, List.set_cons_zero, List.set_cons_succ])
        refine wpAnyH_ready (rs := [3]) (by kernel_rfl) (by simp) ?_
        refine AllReadyH.cons (o := { dst := some 43, op := Op.call { callee := Callee.value (Operand.func 160), args := #[Operand.tmp 42], argTypes := #[85] }, type := 79, pos := "l05_schema.go:77", after := #[{ on := 2, ground := Ground.data }], guard := none }) rfl (fun K hK => ?_) (AllReadyH.nil)
        go_simp
        refine (D5.out _ (by first | assumption | exact BE)).mono ?_
        rintro e n3 ⟨⟨zo, zc, rfl, sz⟩, f3⟩
        clear hHeld
        refine hK.out _ _ ?_ (fun hHeld => ?_)
        · (try dsimp only)
          first | exact SK.out _ (by assumption) | exact SK.out _ BE
        clear hK K
        (try simp only [Act.put, List.setIfInBounds_toArray, List.set_cons_zero, List.set_cons_succ])
        refine wpAnyH_ready (rs := [4]) (by kernel_rfl) (by simp) ?_
        refine AllReadyH.cons (o := { dst := some 44, op := Op.call { callee := Callee.value (Operand.func 158), args := #[Operand.tmp 41, Operand.tmp 43], argTypes := #[79, 79] }, type := 79, pos := "l05_schema.go:77", after := #[{ on := 1, ground := Ground.data }, { on := 3, ground := Ground.data }, { on := 3, ground := Ground.chain }], guard := none }) rfl (fun K hK => ?_) (AllReadyH.nil)
        go_simp
        refine (D7.out n3 zo zc f3 sz).mono ?_
        rintro e n4 ⟨⟨uo, uc, rfl⟩, f4⟩
        clear f3 sz
        clear hHeld
        refine hK.out _ _ ?_ (fun hHeld => ?_)
        · (try dsimp only)
          first | exact SK.out _ (by assumption) | exact SK.out _ BE
        clear hK K
        (try simp only [Act.put, List.setIfInBounds_toArray, List.set_cons_zero, List.set_cons_succ])
        refine wpAnyH_take (i := 5) (oi := { dst := some 45, op := Op.call { callee := Callee.builtin Builtin.len, args := #[Operand.tmp 44], argTypes := #[79] }, type := 3, pos := "l05_schema.go:77", after := #[{ on := 4, ground := Ground.data }], guard := none }) (v := ?_) rfl (by kernel_rfl) (by kernel_rfl) (by kernel_rfl) (fun _ _ _ h => h) (Or.inl ⟨by rfl, ?_⟩) (by assumption) ?_
        rotate_left
        · intro w hSw; (try dsimp only at hSw); go_simp; (try with_reducible rfl)
        (try simp only [Act.put, List.setIfInBounds_toArray, List.set_cons_zero, List.set_cons_succ])
        refine wpAnyH_take (i := 6) (oi := { dst := some 46, op := Op.binOp BinOp.eql 3 (Operand.tmp 45) (Operand.const (Value.int IntKind.i64 0)) 3, type := 4, pos := "l05_schema.go:77", after := #[{ on := 5, ground := Ground.data }], guard := none }) (v := ?_) rfl (by kernel_rfl) (by kernel_rfl) (by kernel_rfl) (fun _ _ _ h => h) (Or.inl ⟨by rfl, ?_⟩) (by assumption) ?_
        rotate_left
        · intro w hSw; (try dsimp only at hSw); go_simp; (try with_reducible rfl)
        (try simp only [Act.put, List.setIfInBounds_toArray, List.set_cons_zero, List.set_cons_succ])
        refine wpAnyH_take (i := 7) (oi := { dst := some 2, op := Op.assign (Operand.tmp 46), type := 4, pos := "l05_schema.go:77", after := #[{ on := 6, ground := Ground.data }, { on := 4, ground := Ground.chain }, { on := 0, ground := Ground.phase }, { on := 1, ground := Ground.phase }, { on := 2, ground := Ground.phase }, { on := 3, ground := Ground.phase }, { on := 4, ground := Ground.phase }, { on := 5, ground := Ground.phase }, { on := 6, ground := Ground.phase }], guard := none }) (v := ?_) rfl (by kernel_rfl) (by kernel_rfl) (by kernel_rfl) (fun _ _ _ h => h) (Or.inl ⟨by rfl, ?_⟩) (by assumption) ?_
        rotate_left
        · intro w hSw; (try dsimp only at hSw); go_simp; (try with_reducible rfl)
        (try simp only [Act.put, List.setIfInBounds_toArray, List.set_cons_zero, List.set_cons_succ])
        refine wpAnyH_done (by kernel_rfl) ?_ _
        clear hHeld
        go_wp2
        go_ret
        exact ⟨ret_bool (by rw [HE.out]; simp), HB4.out.trans (f4.mono HB4.out.size)⟩
      · have g2 : ((Y.length : Int) == 0) = false := by simpa using hy
        have HG : Hid ((c.one.all fun x => hasS PP x) = false) := Lib.hid (by rw [← HO.out]; exact decide_eq_false hy)
        rw [HG.out] at HE
        refine wp_region_held_drew (S := (fun Z' => Z'.cell? ⟨w.heap.size, 0, none⟩ = some (.string c.nm) ∧ Z'.cell? ⟨w.heap.size, 1, none⟩ = some (.slice o1 c.must.length k1) ∧ Z'.cell? ⟨w.heap.size, 2, none⟩ = some (.slice o2 c.may.length k2) ∧ Z'.cell? ⟨w.heap.size, 3, none⟩ = some (.slice o3 c.one.length k3))) (by kernel_rfl) ?_ (fun hHeld => ?_)
        · (try dsimp only)
          first | exact SK.out _ (by assumption) | exact SK.out _ BE
        refine wpAnyH_take (i := 0) (oi := { dst := some 40, op := Op.fieldAddr 85 (Operand.tmp 1) 3, type := 0, pos := "l05_schema.go:77", after := #[], guard := none }) (v := ?_) rfl (by kernel_rfl) (by kernel_rfl) (by kernel_rfl) (fun _ _ _ h => h) (Or.inl ⟨by rfl, ?_⟩) (by assumption) ?_
        rotate_left
        · intro w hSw; (try dsimp only at hSw); go_simp; (try with_reducible rfl)
        (try simp only [Act.put, List.setIfInBounds_toArray, List.set_cons_zero, List.set_cons_succ])
        refine wpAnyH_take (i := 1) (oi := { dst := some 41, op := Op.load 79 (Operand.tmp 40), type := 79, pos := "l05_schema.go:77", after := #[{ on := 0, ground := Ground.data }], guard := none }) (v := ?_) rfl (by kernel_rfl) (by kernel_rfl) (by kernel_rfl) (fun _ _ _ h => h) (Or.inl ⟨by rfl, ?_⟩) (by assumption) ?_
        rotate_left
        · intro w hSw; (try dsimp only at hSw); go_simp; (try with_reducible rfl)
        (try simp only [Act.put, List.setIfInBounds_toArray, List.set_cons_zero, List.set_cons_succ])
        refine wpAnyH_take (i := 2) (oi := { dst := some 42, op := Op.load 85 (Operand.tmp 1), type := 85, pos := "l05_schema.go:77", after := #[], guard := none }) (v := ?_) rfl (by kernel_rfl) (by kernel_rfl) (by kernel_rfl) (fun _ _ _ h => h) (Or.inl ⟨by rfl, ?_⟩) (by assumption) ?_
        rotate_left
        · intro w hSw; (try dsimp only at hSw); go_simp; (try with_reducible rfl)
        (try simp only [Act.put, List.setIfInBounds_toArray, List.set_cons_zero, List.set_cons_succ])
        refine wpAnyH_ready (rs := [3]) (by kernel_rfl) (by simp) ?_
        refine AllReadyH.cons (o := { dst := some 43, op := Op.call { callee := Callee.value (Operand.func 160), args := #[Operand.tmp 42], argTypes := #[85] }, type := 79, pos := "l05_schema.go:77", after := #[{ on := 2, ground := Ground.data }], guard := none }) rfl (fun K hK => ?_) (AllReadyH.nil)
        go_simp
        refine (D5.out _ (by first | assumption | exact BE)).mono ?_
        rintro e n3 ⟨⟨zo, zc, rfl, sz⟩, f3⟩
        clear hHeld
        refine hK.out _ _ ?_ (fun hHeld => ?_)
        · (try dsimp only)
          first | exact SK.out _ (by assumption) | exact SK.out _ BE
        clear hK K
        (try simp only [Act.put, List.setIfInBounds_toArray, List.set_cons_zero, List.set_cons_succ])
        refine wpAnyH_ready (rs := [4]) (by kernel_rfl) (by simp) ?_
        refine AllReadyH.cons (o := { dst := some 44, op := Op.call { callee := Callee.value (Operand.func 158), args := #[Operand.tmp 41, Operand.tmp 43], argTypes := #[79, 79] }, type := 79, pos := "l05_schema.go:77", after := #[{ on := 1, ground := Ground.data }, { on := 3, ground := Ground.data }, { on := 3, ground := Ground.chain }], guard := none }) rfl (fun K hK => ?_) (AllReadyH.nil)
        go_simp
        refine (D7.out n3 zo zc f3 sz).mono ?_
        rintro e n4 ⟨⟨uo, uc, rfl⟩, f4⟩
        clear f3 sz
        clear hHeld
        refine hK.out _ _ ?_ (fun hHeld => ?_)
        · (try dsimp only)
          first | exact SK.out _ (by assumption) | exact SK.out _ BE
        clear hK K
        (try simp only [Act.put, List.setIfInBounds_toArray, List.set_cons_zero, List.set_cons_succ])
        refine wpAnyH_take (i := 5) (oi := { dst := some 45, op := Op.call { callee := Callee.builtin Builtin.len, args := #[Operand.tmp 44], argTypes := #[79] }, type := 3, pos := "l05_schema.go:77", after := #[{ on := 4, ground := Ground.data }], guard := none }) (v := ?_) rfl (by kernel_rfl) (by kernel_rfl) (by kernel_rfl) (fun _ _ _ h => h) (Or.inl ⟨by rfl, ?_⟩) (by assumption) ?_
        rotate_left
        · intro w hSw; (try dsimp only at hSw); go_simp; (try with_reducible rfl)
        (try simp only [Act.put, List.setIfInBounds_toArray, List.set_cons_zero, List.set_cons_succ])
        refine wpAnyH_take (i := 6) (oi := { dst := some 46, op := Op.binOp BinOp.eql 3 (Operand.tmp 45) (Operand.const (Value.int IntKind.i64 0)) 3, type := 4, pos := "l05_schema.go:77", after := #[{ on := 5, ground := Ground.data }], guard := none }) (v := ?_) rfl (by kernel_rfl) (by kernel_rfl) (by kernel_rfl) (fun _ _ _ h => h) (Or.inl ⟨by rfl, ?_⟩) (by assumption) ?_
        rotate_left
        · intro w hSw; (try dsimp only at hSw); go_simp; (try with_reducible rfl)
        (try simp only [Act.put, List.setIfInBounds_toArray, List.set_cons_zero, List.set_cons_succ])
        refine wpAnyH_take (i := 7) (oi := { dst := some 2, op := Op.assign (Operand.tmp 46), type := 4, pos := "l05_schema.go:77", after := #[{ on := 6, ground := Ground.data }, { on := 4, ground := Ground.chain }, { on := 0, ground := Ground.phase }, { on := 1, ground := Ground.phase }, { on := 2, ground := Ground.phase }, { on := 3, ground := Ground.phase }, { on := 4, ground := Ground.phase }, { on := 5, ground := Ground.phase }, { on := 6, ground := Ground.phase }], guard := none }) (v := ?_) rfl (by kernel_rfl) (by kernel_rfl) (by kernel_rfl) (fun _ _ _ h => h) (Or.inl ⟨by rfl, ?_⟩) (by assumption) ?_
        rotate_left
        · intro w hSw; (try dsimp only at hSw); go_simp; (try with_reducible rfl)
        (try simp only [Act.put, List.setIfInBounds_toArray, List.set_cons_zero, List.set_cons_succ])
        refine wpAnyH_done (by kernel_rfl) ?_ _
        clear hHeld
        go_wp2
        go_ret
        exact ⟨ret_bool (by rw [HE.out]; simp), HB4.out.trans (f4.mono HB4.out.size)⟩
    · rw [hh] at HE D6
      refine wp_region_held_drew (S := (fun Z' => Z'.cell? ⟨w.heap.size, 0, none⟩ = some (.string c.nm) ∧ Z'.cell? ⟨w.heap.size, 1, none⟩ = some (.slice o1 c.must.length k1) ∧ Z'.cell? ⟨w.heap.size, 2, none⟩ = some (.slice o2 c.may.length k2) ∧ Z'.cell? ⟨w.heap.size, 3, none⟩ = some (.slice o3 c.one.length k3))) (by kernel_rfl) ?_ (fun hHeld => ?_)
      · (try dsimp only)
        first | exact SK.out _ (by assumption) | exact SK.out _ BD
      refine wpAnyH_take (i := 0) (oi := { dst := some 25, op := Op.fieldAddr 85 (Operand.tmp 1) 1, type := 0, pos := "l05_schema.go:74", after := #[], guard := none }) (v := ?_) rfl (by kernel_rfl) (by kernel_rfl) (by kernel_rfl) (fun _ _ _ h => h) (Or.inl ⟨by rfl, ?_⟩) (by assumption) ?_
      rotate_left
      · intro w hSw; (try dsimp only at hSw); go_simp; (try with_reducible rfl)
      (try simp only [Act.put, List.setIfInBounds_toArray, List.set_cons_zero, List.set_cons_succ])
      refine wpAnyH_take (i := 1) (oi := { dst := some 26, op := Op.load 79 (Operand.tmp 25), type := 79, pos := "l05_schema.go:74", after := #[{ on := 0, ground := Ground.data }], guard := none }) (v := ?_) rfl (by kernel_rfl) (by kernel_rfl) (by kernel_rfl) (fun _ _ _ h => h) (Or.inl ⟨by rfl, ?_⟩) (by assumption) ?_
      rotate_left
      · intro w hSw; (try dsimp only at hSw); go_simp; (try with_reducible rfl)
      (try simp only [Act.put, List.setIfInBounds_toArray, List.set_cons_zero, List.set_cons_succ])
      refine wpAnyH_take (i := 2) (oi := { dst := some 27, op := Op.fieldAddr 85 (Operand.tmp 1) 2, type := 0, pos := "l05_schema.go:74", after := #[], guard := none }) (v := ?_) rfl (by kernel_rfl) (by kernel_rfl) (by kernel_rfl) (fun _ _ _ h => h) (Or.inl ⟨by rfl, ?_⟩) (by assumption) ?_
      rotate_left
      · intro w hSw; (try dsimp only at hSw); go_simp; (try with_reducible rfl)
      (try simp only [Act.put, List.setIfInBounds_toArray, List.set_cons_zero, List.set_cons_succ])
      refine wpAnyH_take (i := 3) (oi := { dst := some 28, op := Op.load 79 (Operand.tmp 27), type := 79, pos := "l05_schema.go:74", after := #[{ on := 2, ground := Ground.data }], guard := none }) (v := ?_) rfl (by kernel_rfl) (by kernel_rfl) (by kernel_rfl) (fun _ _ _ h => h) (Or.inl ⟨by rfl, ?_⟩) (by assumption) ?_
      rotate_left
      · intro w hSw; (try dsimp only at hSw); go_simp; (try with_reducible rfl)
      (try simp only [Act.put, List.setIfInBounds_toArray, List.set_cons_zero, List.set_cons_succ])
      refine wpAnyH_take (i := 6) (oi := { dst := some 31, op := Op.fieldAddr 85 (Operand.tmp 1) 1, type := 0, pos := "l05_schema.go:74", after := #[], guard := none }) (v := ?_) rfl (by kernel_rfl) (by kernel_rfl) (by kernel_rfl) (fun _ _ _ h => h) (Or.inl ⟨by rfl, ?_⟩) (by assumption) ?_
      rotate_left
      · intro w hSw; (try dsimp only at hSw); go_simp; (try with_reducible rfl)
      (try simp only [Act.put, List.setIfInBounds_toArray, List.set_cons_zero, List.set_cons_succ])
      refine wpAnyH_take (i := 7) (oi := { dst := some 32, op := Op.load 79 (Operand.tmp 31), type := 79, pos := "l05_schema.go:74", after := #[{ on := 6, ground := Ground.data }], guard := none }) (v := ?_) rfl (by kernel_rfl) (by kernel_rfl) (by kernel_rfl) (fun _ _ _ h => h) (Or.inl ⟨by rfl, ?_⟩) (by assumption) ?_
      rotate_left
      · intro w hSw; (try dsimp only at hSw); go_simp; (try with_reducible rfl)
      (try simp only [Act.put, List.setIfInBounds_toArray, List.set_cons_zero, List.set_cons_succ])
      refine wpAnyH_take (i := 8) (oi := { dst := some 33, op := Op.call { callee := Callee.builtin Builtin.len, args := #[Operand.tmp 32], argTypes := #[79] }, type := 3, pos := "l05_schema.go:74", after := #[{ on := 7, ground := Ground.data }], guard := none }) (v := ?_) rfl (by kernel_rfl) (by kernel_rfl) (by kernel_rfl) (fun _ _ _ h => h) (Or.inl ⟨by rfl, ?_⟩) (by assumption) ?_
      rotate_left
      · intro w hSw; (try dsimp only at hSw); go_simp; (try with_reducible rfl)
      (try simp only [Act.put, List.setIfInBounds_toArray, List.set_cons_zero, List.set_cons_succ])
      refine wpAnyH_ready (rs := [4]) (by kernel_rfl) (by simp) ?_
      refine AllReadyH.cons (o := { dst := some 29, op := Op.call { callee := Callee.value (Operand.func 158), args := #[Operand.tmp 26, Operand.tmp 28], argTypes := #[79, 79] }, type := 79, pos := "l05_schema.go:74", after := #[{ on := 1, ground := Ground.data }, { on := 3, ground := Ground.data }], guard := none }) rfl (fun K hK => ?_) (AllReadyH.nil)
      go_simp
      refine (D4.out _ (by first | assumption | exact BD)).mono ?_
      rintro e m4 ⟨⟨xo, xc, rfl⟩, d4⟩
      clear hHeld
      refine hK.out _ _ ?_ (fun hHeld => ?_)
      · (try dsimp only)
        first | exact SK.out _ (by assumption) | exact SK.out _ BD
      clear hK K
      (try simp only [Act.put, List.setIfInBounds_toArray, List.set_cons_zero, List.set_cons_succ])
      refine wpAnyH_take (i := 5) (oi := { dst := some 30, op := Op.call { callee := Callee.builtin Builtin.len, args := #[Operand.tmp 29], argTypes := #[79] }, type := 3, pos := "l05_schema.go:74", after := #[{ on := 4, ground := Ground.data }], guard := none }) (v := ?_) rfl (by kernel_rfl) (by kernel_rfl) (by kernel_rfl) (fun _ _ _ h => h) (Or.inl ⟨by rfl, ?_⟩) (by assumption) ?_
      rotate_left
      · intro w hSw; (try dsimp only at hSw); go_simp; (try with_reducible rfl)
      (try simp only [Act.put, List.setIfInBounds_toArray, List.set_cons_zero, List.set_cons_succ])
      refine wpAnyH_take (i := 9) (oi := { dst := some 34, op := Op.binOp BinOp.lss 3 (Operand.tmp 30) (Operand.tmp 33) 3, type := 4, pos := "l05_schema.go:74", after := #[{ on := 5, ground := Ground.data }, { on := 8, ground := Ground.data }], guard := none }) (v := ?_) rfl (by kernel_rfl) (by kernel_rfl) (by kernel_rfl) (fun _ _ _ h => h) (Or.inl ⟨by rfl, ?_⟩) (by assumption) ?_
      rotate_left
      · intro w hSw; (try dsimp only at hSw); go_simp; (try with_reducible rfl)
      (try simp only [Act.put, List.setIfInBounds_toArray, List.set_cons_zero, List.set_cons_succ])
      refine wpAnyH_take (i := 10) (oi := { dst := some 35, op := Op.move (Operand.tmp 34), type := 4, pos := "l05_schema.go:74", after := #[{ on := 9, ground := Ground.data }, { on := 4, ground := Ground.chain }], guard := none }) (v := ?_) rfl (by kernel_rfl) (by kernel_rfl) (by kernel_rfl) (fun _ _ _ h => h) (Or.inl ⟨by rfl, ?_⟩) (by assumption) ?_
      rotate_left
      · intro w hSw; (try dsimp only at hSw); go_simp; (try with_reducible rfl)
      (try simp only [Act.put, List.setIfInBounds_toArray, List.set_cons_zero, List.set_cons_succ])
      refine wpAnyH_take (i := 11) (oi := { dst := some 36, op := Op.load 85 (Operand.tmp 1), type := 85, pos := "l05_schema.go:74", after := #[{ on := 10, ground := Ground.guard }], guard := some (10, false) }) (v := ?_) rfl (by kernel_rfl) (by kernel_rfl) (by kernel_rfl) (fun _ _ _ h => h) (Or.inl ⟨by rfl, ?_⟩) (by assumption) ?_
      rotate_left
      · intro w hSw; (try dsimp only at hSw); go_simp; (try with_reducible rfl)
      (try simp only [Act.put, List.setIfInBounds_toArray, List.set_cons_zero, List.set_cons_succ])
      refine wpAnyH_ready (rs := [12]) (by kernel_rfl) (by simp) ?_
      refine AllReadyH.cons (o := { dst := some 37, op := Op.call { callee := Callee.value (Operand.func 160), args := #[Operand.tmp 36], argTypes := #[85] }, type := 79, pos := "l05_schema.go:74", after := #[{ on := 11, ground := Ground.data }, { on := 10, ground := Ground.chain }, { on := 10, ground := Ground.guard }], guard := some (10, false) }) rfl (fun K hK => ?_) (AllReadyH.nil)
      go_simp
      refine (D5.out _ (by first | assumption | exact BD)).mono ?_
      rintro e m12 ⟨⟨yo, yc, rfl, sy⟩, d12⟩
      clear d4
      clear hHeld
      refine hK.out _ _ ?_ (fun hHeld => ?_)
      · (try dsimp only)
        first | exact SK.out _ (by assumption) | exact SK.out _ BD
      clear hK K
      (try simp only [Act.put, List.setIfInBounds_toArray, List.set_cons_zero, List.set_cons_succ])
      refine wpAnyH_ready (rs := [13]) (by kernel_rfl) (by simp) ?_
      refine AllReadyH.cons (o := { dst := some 38, op := Op.call { callee := Callee.value (Operand.func 161), args := #[Operand.tmp 37, Operand.const (Value.string { data := #[99, 108, 97, 115, 115] })], argTypes := #[79, 9] }, type := 4, pos := "l05_schema.go:74", after := #[{ on := 12, ground := Ground.data }, { on := 12, ground := Ground.chain }, { on := 10, ground := Ground.guard }], guard := some (10, false) }) rfl (fun K hK => ?_) (AllReadyH.nil)
      go_simp
      refine (D6.out m12 yo yc d12 sy).mono ?_
      rintro e m13 ⟨rfl, d13⟩
      clear d12 sy
      clear hHeld
      refine hK.out _ _ ?_ (fun hHeld => ?_)
      · (try dsimp only)
        first | exact SK.out _ (by assumption) | exact SK.out _ BD
      clear hK K
      (try simp only [Act.put, List.setIfInBounds_toArray, List.set_cons_zero, List.set_cons_succ])
      refine wpAnyH_take (i := 14) (oi := { dst := some 39, op := Op.pick (Operand.tmp 35) (Operand.const (Value.bool true)) (Operand.tmp 38), type := 4, pos := "l05_schema.go:74", after := #[{ on := 10, ground := Ground.data }, { on := 13, ground := Ground.data }], guard := none }) (v := ?_) rfl (by kernel_rfl) (by kernel_rfl) (by kernel_rfl) (fun _ _ _ h => h) (Or.inl ⟨by rfl, ?_⟩) (by assumption) ?_
      rotate_left
      · intro w hSw; (try dsimp only at hSw); go_simp; (try with_reducible rfl)
      (try simp only [Act.put, List.setIfInBounds_toArray, List.set_cons_zero, List.set_cons_succ])
      refine wpAnyH_done (by kernel_rfl) ?_ _
      clear hHeld
      go_wp2
      go_ret
      exact ⟨ret_bool (by rw [HE.out]; simp), HB4.out.trans (d13.mono HB4.out.size)⟩
end Go.Proofs.YtohcdpoffpnfhaaGreatDoor
/- SchemaRight: what the program returns for a whole schema. -/
namespace Go.Proofs.YtohcdpoffpnfhaaGreatDoor
open Go.RowKit
attribute [local go_sem ↓] Go.wp_at_zero Go.wp_at_succ

set_option maxRecDepth 100000 in
set_option maxHeartbeats 1000000 in
theorem SchemaRight_any (ao : Option Addr) (l : List ClassV) (cap : Nat) (w : World) (hd : ClassesAt w ao l) (hf : FitsC l) :
    Calls Tryz.prog 61 #[.slice ao l.length cap] w fun e w' => e = .returned (.bool (schemaB l)) ∧ Below w.heap.size w w' := by
  have hl := hf.1
  have HD := Lib.hid hd; have HF := Lib.hid hf; clear hd hf
  by_cases h6 : 6 < l.length
  · have HV : Hid (schemaB l = false) := Lib.hid (by unfold schemaB; rw [decide_eq_false (by omega)]; rfl)
    have g6 : 6 < (l.length : Int) := by omega
    go_enter Tryz.func61, Tryz.ntmps61
    go_wp2
    go_ret
    exact ⟨ret_bool HV.out.symm, Below.refl _ _⟩
  · have HV : Hid (schemaB l = (l.all classB && incB clsLt l)) := Lib.hid (by unfold schemaB; rw [decide_eq_true (by omega)]; rfl)
    have g6 : ¬ 6 < (l.length : Int) := by omega
    go_enter Tryz.func61, Tryz.ntmps61
    go_wp2
    go_loopw [10] (fun i wr => ∃ k : Nat, k ≤ l.length ∧ i = .int .i64 k ∧ (l.take k).all classB = true ∧ Below w.heap.size w wr) (fun i _ => l.length - (intOf i).toNat)
    case atStart => exact ⟨0, Nat.zero_le _, rfl, rfl, Below.refl _ _⟩
    case round =>
      obtain ⟨k, hk, rfl, ha, hbel⟩ := hrel
      have Ha := Lib.hid ha; clear ha
      have hsz := hbel.size
      by_cases hlt : k < l.length
      · obtain ⟨b, off, v1, v2, v3, rfl, hb0, hc⟩ := (HD.out.below hbel).at hlt
        obtain ⟨hc0, hc1, hc2, hc3, s1, s2, s3⟩ := hc
        have HT : Hid (classB l[k] = true → (l.take (k + 1)).all classB = true) := Lib.hid (fun h => by rw [all_take classB l k hlt, Ha.out, h]; rfl)
        have HX : Hid (classB l[k] = false → schemaB l = false) := Lib.hid (fun h => schemaB_bad hlt h)
        have HZ := Lib.hid (HF.out.at hlt)
        generalize l[k] = A at *
        have CC : Hid (∀ W : World, Below wr.heap.size wr W → Calls Tryz.prog 119 #[.agg #[.string A.nm, v1, v2, v3]] W fun e w' => e = .returned (.bool (classB A)) ∧ Below w.heap.size w w') := Lib.hid (fun W h => (classRight_any A v1 v2 v3 W (s1.below h) (s2.below h) (s3.below h) HZ.out).mono fun e w' ⟨p, q⟩ => ⟨p, hbel.trans ((h.trans (q.mono h.size)).mono hsz)⟩)
        have i1 := s1.sl; have i2 := s2.sl; have i3 := s3.sl
        obtain ⟨_, _, _, rfl⟩ := i1
        obtain ⟨_, _, _, rfl⟩ := i2
        obtain ⟨_, _, _, rfl⟩ := i3
        clear s1 s2 s3
        have HB0 := Lib.hid (Below.refl wr.heap.size wr)
        go_wp2_with fail
        refine (CC.out _ (by first | exact HB0.out | exact more HB0.out _)).mono ?_
        rintro e w1 ⟨rfl, hb1⟩
        cases hr : classB A
        · have HX' := Lib.hid (HX.out hr)
          go_wp2
          go_ret
          exact ⟨ret_bool (by rw [HX'.out]), hb1⟩
        · have HT' := Lib.hid (HT.out hr)
          go_wp2
          go_roundw
          case rel => exact ⟨k + 1, by omega, by go_num, HT'.out, hb1⟩
          case measure => simp [intOf]; omega
      · have e : l.take k = l := List.take_of_length_le (by omega)
        have HT : Hid (schemaB l = incB clsLt l) := Lib.hid (by rw [HV.out, ← e, Ha.out, e]; rfl)
        clear e
        go_wp2_with fail
        refine (incClass_any ao l cap wr (HD.out.below hbel) hl).mono ?_
        rintro e w1 ⟨rfl, hb1⟩
        have B1 := Lib.hid (hbel.trans (hb1.mono hsz))
        generalize incB clsLt l = r at *
        go_wp2
        go_ret
        exact ⟨ret_bool (by rw [HT.out]), B1.out⟩
end Go.Proofs.YtohcdpoffpnfhaaGreatDoor
/- ClassOf: the program's map of classes by their names. -/
namespace Go.Proofs.YtohcdpoffpnfhaaGreatDoor
open Go.RowKit
attribute [local go_sem ↓] Go.wp_at_zero Go.wp_at_succ

def zeroC : ClassV := ⟨ByteArray.empty, [], [], []⟩
def atC (l : List ClassV) (nm : ByteArray) : Option Nat := l.findIdx? (fun a => decide (a.nm = nm))
def clsAt (l : List ClassV) (nm : ByteArray) : ClassV := match atC l nm with | some i => l.getD i zeroC | none => zeroC
theorem atC_some {l : List ClassV} {nm : ByteArray} {i : Nat} (h : atC l nm = some i) : ∃ hi : i < l.length, l[i].nm = nm ∧ clsAt l nm = l[i] ∧ ∀ j (hj : j < i), l[j].nm ≠ nm := by
  have h' := h
  unfold atC at h'
  rw [List.findIdx?_eq_some_iff_getElem] at h'
  obtain ⟨hi, h1, h2⟩ := h'
  refine ⟨hi, by simpa using h1, ?_, fun j hj => by simpa using h2 j hj⟩
  unfold clsAt
  rw [h]
  simp [hi]
theorem atC_none {l : List ClassV} {nm : ByteArray} (h : atC l nm = none) : (∀ a ∈ l, a.nm ≠ nm) ∧ clsAt l nm = zeroC := by
  have h' := h
  unfold atC at h'
  rw [List.findIdx?_eq_none_iff] at h'
  refine ⟨fun a ha => by simpa using h' a ha, ?_⟩
  unfold clsAt
  rw [h]
theorem cls_apart {l : List ClassV} (h : schemaB l = true) : ∀ (i j : Nat) (hi : i < l.length) (hj : j < l.length), i < j → l[i].nm ≠ l[j].nm := by
  unfold schemaB at h
  simp only [Bool.and_eq_true] at h
  intro i j hi hj hij e
  have := inc_far (lt := clsLt) (fun a b c => less_trans _ _ _) h.2.2 i j hi hj hij
  unfold clsLt at this
  rw [e, less_irrefl] at this
  cases this
/-- a class's value -/
def ClsV (w : World) (v : Value) (c : ClassV) : Prop := ∃ v1 v2 v3, v = .agg #[.string c.nm, v1, v2, v3] ∧ SlV w v1 c.must ∧ SlV w v2 c.may ∧ SlV w v3 c.one
theorem ClsV.below {w w' : World} {v : Value} {c : ClassV} (h : ClsV w v c) (hb : Below w.heap.size w w') : ClsV w' v c := by
  obtain ⟨v1, v2, v3, h0, h1, h2, h3⟩ := h
  exact ⟨v1, v2, v3, h0, h1.below hb, h2.below hb, h3.below hb⟩
def ClsVals (w : World) (l : List ClassV) (ps : List (ByteArray × Value)) : Prop :=
  ps.length = l.length ∧ ∀ i (h : i < l.length) (h' : i < ps.length), ps[i].1 = l[i].nm ∧ ClsV w ps[i].2 l[i]
theorem ClsVals.snoc {w : World} {l : List ClassV} {ps : List (ByteArray × Value)} (h : ClsVals w l ps) (a : ClassV) (v : Value) (hv : ClsV w v a) : ClsVals w (l ++ [a]) (ps ++ [(a.nm, v)]) := by
  refine ⟨by simp [h.1], fun i h1 h2 => ?_⟩
  by_cases e : i < l.length
  · have e' : i < ps.length := by rw [h.1]; exact e
    rw [List.getElem_append_left e, List.getElem_append_left e']
    exact h.2 i e e'
  · have hi : i = l.length := by simp at h1; omega
    subst hi
    have hl := h.1
    rw [List.getElem_append_right (Nat.le_refl _), List.getElem_append_right (by omega)]
    simp only [hl, Nat.sub_self, List.getElem_cons_zero]
    exact ⟨trivial, hv⟩
def zeroV : Value := .agg #[.string ByteArray.empty, .slice none 0 0, .slice none 0 0, .slice none 0 0]
theorem zeroV_cls (w : World) : ClsV w zeroV zeroC := ⟨_, _, _, rfl, ⟨none, 0, rfl, .inl rfl, Nat.le_refl _, fun _ => rfl⟩, ⟨none, 0, rfl, .inl rfl, Nat.le_refl _, fun _ => rfl⟩, ⟨none, 0, rfl, .inl rfl, Nat.le_refl _, fun _ => rfl⟩⟩
/-- what the map of a valid schema's classes holds at a name -/
theorem clsMap_at {w : World} {l : List ClassV} {ps : List (ByteArray × Value)} (h : ClsVals w l ps) (hr : schemaB l = true) (nm : ByteArray) :
    ∃ v, (mapOf ps).atKey (.string nm.data.toList) (.held zeroV) = .held v ∧ ClsV w v (clsAt l nm) := by
  have hl := h.1
  cases ha : atC l nm with
  | none =>
    obtain ⟨h1, h2⟩ := atC_none ha
    refine ⟨zeroV, ?_, ?_⟩
    · refine mapOf_miss ps nm _ fun p hp => ?_
      obtain ⟨i, hi, rfl⟩ := List.getElem_of_mem hp
      rw [(h.2 i (by omega) hi).1]
      exact h1 _ (List.getElem_mem _)
    · rw [h2]; exact zeroV_cls w
  | some i =>
    obtain ⟨hi, h1, h2, _⟩ := atC_some ha
    obtain ⟨q1, q2⟩ := h.2 i hi (by omega)
    refine ⟨ps[i].2, ?_, by rw [h2]; exact q2⟩
    exact mapOf_hit ps nm _ i (by omega) (q1.trans h1) (fun j hj hij => by
      rw [(h.2 j (by omega) hj).1, ← h1]
      exact (cls_apart hr i j hi (by omega) hij).symm)
set_option maxRecDepth 100000 in
set_option maxHeartbeats 1000000 in
theorem classesByName_any (bo : Option Addr) (l : List ClassV) (cb : Nat) (w : World) (hd : ClassesAt w bo l) (hf : FitsC l) :
    Calls Tryz.prog 155 #[.slice bo l.length cb] w fun e w' => e = .returned (.map (some w.heap.size)) ∧ (∃ ps, ClsVals w l ps ∧ w'.ownsMap Tryz.prog 9 valR w.heap.size l.length (mapOf ps)) ∧ Below w.heap.size w w' := by
  have hl := hf.1
  have HD := Lib.hid hd; have HF := Lib.hid hf; clear hd hf
  have hmm := @run_makeMap Tryz.prog
  go_enter Tryz.func155, Tryz.ntmps155
  go_wp2_with fail
  go_loopw [9] (fun i wr => ∃ k : Nat, k ≤ l.length ∧ i = .int .i64 k ∧ (∃ ps, ClsVals w (l.take k) ps ∧ wr.ownsMap Tryz.prog 9 valR w.heap.size k (mapOf ps)) ∧ Below w.heap.size w wr) (fun i _ => l.length - (intOf i).toNat)
  case atStart => exact ⟨0, Nat.zero_le _, rfl, ⟨[], ⟨rfl, fun i h => by simp at h⟩, World.ownsMap_made _ _ _ _⟩, more (Below.refl _ _) _⟩
  case round =>
    obtain ⟨k, hk, rfl, ⟨ps, hps, hown⟩, hbel⟩ := hrel
    have HP := Lib.hid hps; clear hps
    have hsz := hbel.size
    by_cases hlt : k < l.length
    · obtain ⟨p, off, v1, v2, v3, rfl, hp0, hc⟩ := HD.out.at hlt
      obtain ⟨d0, d1, d2, d3, s1, s2, s3⟩ := hc
      have c0 := (hbel.cell (p := ⟨p, off + k * 4, none⟩) hp0).trans d0
      have c1 := (hbel.cell (p := ⟨p, off + k * 4 + 1, none⟩) hp0).trans d1
      have c2 := (hbel.cell (p := ⟨p, off + k * 4 + 2, none⟩) hp0).trans d2
      have c3 := (hbel.cell (p := ⟨p, off + k * 4 + 3, none⟩) hp0).trans d3
      have hp1 : p < wr.heap.size := Nat.lt_of_lt_of_le hp0 hsz
      have hz : l[k].nm.size ≤ maxLen := by have := (HF.out.at hlt).nm; unfold maxLen; omega
      have HN := Lib.hid (HP.out.snoc l[k] _ ⟨v1, v2, v3, rfl, s1, s2, s3⟩)
      rw [← take_snoc' l k hlt] at HN
      have g1 : (0 : Int) ≤ (k : Int) := by omega
      have g2 : (k : Int) < (l.length : Int) := by omega
      have i1 := s1.sl; have i2 := s2.sl; have i3 := s3.sl
      obtain ⟨o1, n1, k1, rfl⟩ := i1
      obtain ⟨o2, n2, k2, rfl⟩ := i2
      obtain ⟨o3, n3, k3, rfl⟩ := i3
      clear d0 d1 d2 d3 s1 s2 s3
      generalize l[k] = A at *
      have hkey := Go.WideMaps.keyOf_string_mk Tryz.underlying9 (s := A.nm) hz
      have HO := Lib.hid (hown.alloc (.cells #[.string A.nm, .slice o1 n1 k1, .slice o2 n2 k2, .slice o3 n3 k3] 85))
      have HB := Lib.hid (more hbel (.cells #[.string A.nm, .slice o1 n1 k1, .slice o2 n2 k2, .slice o3 n3 k3] 85))
      clear hown hbel
      go_wp2_with (first
        | (at_mapUpdate; refine wpList_mapUpdate_own _ rfl _ _ _ 184 rfl 9 85 Tryz.keyed9 Tryz.underlying184 valR w.heap.size k (mapOf ps) rfl HO.out (by unfold maxLen; omega) _ _ _ rfl rfl hkey (.held (.agg #[.string A.nm, .slice o1 n1 k1, .slice o2 n2 k2, .slice o3 n3 k3])) [] rfl ?_; intro w4 hown4 hgrow4)
        | (fail "none"))
      go_roundw
      case rel => exact ⟨k + 1, by omega, by go_num, ⟨_, HN.out, by rw [mapOf_snoc]; exact hown4⟩, HB.out.grown hgrow4 HB.out.size (fun j hj => by cases hj; exact Nat.le_refl _)⟩
      case measure => simp [intOf]; omega
    · obtain rfl : k = l.length := by omega
      rw [List.take_length] at HP
      go_wp2
      go_ret
      exact ⟨rfl, ⟨ps, HP.out, hown⟩, hbel⟩
end Go.Proofs.YtohcdpoffpnfhaaGreatDoor
