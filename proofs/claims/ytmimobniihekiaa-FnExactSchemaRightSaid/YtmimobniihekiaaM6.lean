/- Merged texts: ClsR4a, ClsR5, ClsCopy, ClsEq, ClsOpen, SchemaW. -/
import Derived.Test.YtmimobniihekiaaM2
import Derived.Test.YtmimobniihekiaaM5
import Derived.Test.YtmimobniihekiaaM3
/- SchemaRight: what the program returns. -/
namespace Go.Proofs.Ytmimobniihekiaa
open Go.RowKit
attribute [local go_sem ↓] Go.wp_at_zero Go.wp_at_succ

theorem own_strs {w : World} {B n cap : Nat} {ao : Option Addr} {d : List ByteArray} (h : w.ownsRow B 9 1 (.slice ao n cap) d.length (ss d)) : StrsAt w ao d ∧ n = d.length := by
  by_cases h0 : d.length = 0
  · refine ⟨.inl (List.length_eq_zero_iff.1 h0), ?_⟩
    obtain ⟨_, ⟨e, _⟩ | ⟨g, cp, cur, e, _⟩⟩ := h
    · injection e with _ e _; omega
    · injection e with _ e _
  · obtain ⟨g, cp, hv, _, hlt⟩ := h.form (by omega)
    injection hv with e1 e2 e3
    subst e1
    refine ⟨.inr ⟨g, 0, rfl, hlt, fun i hi => ?_⟩, e2⟩
    have := h.cells (g := g) rfl i (.string d[i]) (by unfold ss; simp [hi])
    rw [add_plain] at this
    rw [Nat.zero_add]; exact this
theorem own_mono {w : World} {B B' e z n : Nat} {v : Value} {xs : List Value} (h : w.ownsRow B e z v n xs) (hB : B' ≤ B) : w.ownsRow B' e z v n xs := by
  refine ⟨h.1, ?_⟩
  rcases h.2 with h | ⟨g, cap, cur, h1, h2, h3⟩
  · exact .inl h
  · exact .inr ⟨g, cap, cur, h1, Nat.le_trans hB h2, h3⟩
theorem size_up (w : World) (o : Obj) : (w.alloc o).heap.size = w.heap.size + 1 := by simp
theorem own_slv {w : World} {B : Nat} {v : Value} {d : List ByteArray} (h : w.ownsRow B 9 1 v d.length (ss d)) : ∃ ao cap, v = .slice ao d.length cap ∧ StrsAt w ao d := by
  have hs : ∃ ao n cap, v = .slice ao n cap := by
    obtain ⟨_, ⟨e, _⟩ | ⟨g, cp, cur, e, _⟩⟩ := h
    · exact ⟨_, _, _, e⟩
    · exact ⟨_, _, _, e⟩
  obtain ⟨ao, n, cap, rfl⟩ := hs
  obtain ⟨h1, rfl⟩ := own_strs h
  exact ⟨ao, cap, rfl, h1⟩
set_option maxRecDepth 100000 in
set_option maxHeartbeats 2000000 in
theorem permitted_any (c : ClassV) (v1 v2 v3 : Value) (w : World) (h1 : SlV w v1 c.must) (h2 : SlV w v2 c.may) (h3 : IsSl v3) (f1 : FitsV c.must) (f2 : FitsV c.may) :
    Calls Try.prog 54 #[.agg #[.string c.nm, v1, v2, v3]] w (GivesV w (c.must ++ c.may)) := by
  obtain ⟨o1, k1, rfl, s1⟩ := h1
  obtain ⟨o2, k2, rfl, s2⟩ := h2
  obtain ⟨o3, n3, k3, rfl⟩ := h3
  have S1 := Lib.hid s1; have S2 := Lib.hid s2; have F1 := Lib.hid f1; have F2 := Lib.hid f2
  clear s1 s2 f1 f2
  go_enter Try.func54, Try.ntmps54
  go_wp2_with fail
  refine calls_any' (fun W => Below w.heap.size w W ∧ PartsV W (w.heap.size + 1) 0 [⟨o1, k1, c.must⟩, ⟨o2, k2, c.may⟩]) ⟨more (more (Below.refl _ _) _) _, ?_⟩ ?_
  · have hb := more (more (Below.refl w.heap.size w) (Obj.cells #[Value.string c.nm, Value.slice o1 c.must.length k1, Value.slice o2 c.may.length k2, Value.slice o3 n3 k3] 42)) (Obj.cells #[Value.slice o1 c.must.length k1, Value.slice o2 c.may.length k2] 29)
    have ht := twoNew (w.alloc (Obj.cells #[Value.string c.nm, Value.slice o1 c.must.length k1, Value.slice o2 c.may.length k2, Value.slice o3 n3 k3] 42)) 29 (.slice o1 c.must.length k1) (.slice o2 c.may.length k2)
    rw [size_up] at ht
    refine ⟨ht.lt, fun i hi => ?_⟩
    match i, hi with
    | 0, _ => exact ⟨ht.cells.1.1, S1.out.1.below hb, S1.out.2.2, F1.out.1⟩
    | 1, _ => exact ⟨ht.cells.1.2, S2.out.1.below hb, S2.out.2.2, F2.out.1⟩
  rintro W ⟨b1, hp⟩
  refine (concatV_any (w.heap.size + 1) 0 2 [⟨o1, k1, c.must⟩, ⟨o2, k2, c.may⟩] W hp (by simp)).mono ?_
  have e : flatV [⟨o1, k1, c.must⟩, ⟨o2, k2, c.may⟩] = c.must ++ c.may := by simp [flatV]
  rw [e]
  rintro e w2 ⟨⟨v, rfl, hown⟩, hb2⟩
  have HO := Lib.hid (own_mono hown b1.size); have HB := Lib.hid (b1.trans (hb2.mono b1.size))
  clear hown hb2 hp e
  go_wp2
  go_ret
  exact ⟨⟨_, rfl, HO.out⟩, HB.out⟩
set_option maxRecDepth 100000 in
set_option maxHeartbeats 2000000 in
theorem classRight_any (c : ClassV) (v1 v2 v3 : Value) (w : World) (h1 : SlV w v1 c.must) (h2 : SlV w v2 c.may) (h3 : SlV w v3 c.one) (f : FitsC1 c) :
    Calls Try.prog 46 #[.agg #[.string c.nm, v1, v2, v3]] w fun e w' => e = .returned (.bool (classB c)) ∧ Below w.heap.size w w' := by
  have HE : Hid (classB c = (nmL c.nm && (names10 c.must && (names10 c.may && (names10 c.one && ((c.must.all fun x => !(hasS c.may x)) && (!(hasS (c.must ++ c.may) clsT) && c.one.all fun x => hasS (c.must ++ c.may) x))))))) := Lib.hid rfl
  have hn : c.nm.size ≤ maxLen := by have := f.nm; unfold maxLen; omega
  have C1 : Hid (∀ W : World, Below w.heap.size w W → Calls Try.prog 67 #[v1] W fun e w' => e = .returned (.bool (names10 c.must)) ∧ Below W.heap.size W w') := Lib.hid (fun W b => classNames_any w v1 c.must W b h1 f.must)
  have C2 : Hid (∀ W : World, Below w.heap.size w W → Calls Try.prog 67 #[v2] W fun e w' => e = .returned (.bool (names10 c.may)) ∧ Below W.heap.size W w') := Lib.hid (fun W b => classNames_any w v2 c.may W b h2 f.may)
  have C3 : Hid (∀ W : World, Below w.heap.size w W → Calls Try.prog 67 #[v3] W fun e w' => e = .returned (.bool (names10 c.one)) ∧ Below W.heap.size W w') := Lib.hid (fun W b => classNames_any w v3 c.one W b h3 f.one)
  have C4 : Hid (∀ W : World, Below w.heap.size w W → Calls Try.prog 68 #[v1, v2] W (GivesV W (besideV c.must c.may))) := Lib.hid (fun W b => by obtain ⟨o1, k1, rfl, s1⟩ := h1; obtain ⟨o2, k2, rfl, s2⟩ := h2; exact beside_any o1 o2 c.must c.may k1 k2 W (s1.1.below b) (s2.1.below b) f.must.1 (by have := f.may.1; omega))
  have C5 : Hid (∀ W : World, Below w.heap.size w W → Calls Try.prog 54 #[.agg #[.string c.nm, v1, v2, v3]] W (GivesV W (c.must ++ c.may))) := Lib.hid (fun W b => permitted_any c v1 v2 v3 W (h1.below b) (h2.below b) h3.sl f.must f.may)
  have C6 : Hid (∀ (W : World) (ao : Option Addr) (cap : Nat), Below w.heap.size w W → StrsAt W ao (c.must ++ c.may) → Calls Try.prog 68 #[v3, .slice ao (c.must ++ c.may).length cap] W (GivesV W (besideV c.one (c.must ++ c.may)))) := Lib.hid (fun W ao cap b s => by obtain ⟨o3, k3, rfl, s3⟩ := h3; exact beside_any o3 ao c.one (c.must ++ c.may) k3 cap W (s3.1.below b) s f.one.1 (by have := f.may.1; have := f.must.1; rw [List.length_append]; omega))
  obtain ⟨o1, k1, rfl, _⟩ := h1
  obtain ⟨o2, k2, rfl, _⟩ := h2
  obtain ⟨o3, k3, rfl, _⟩ := h3
  have HPl : Hid ((c.must ++ c.may).length ≤ 10000000) := Lib.hid (by have := f.may.1; have := f.must.1; rw [List.length_append]; omega)
  have HL1 : Hid ((besideV c.must c.may).length ≤ 1048576) := Lib.hid (by have := f.must.1; have h := besideV_len c.must c.may c.must.length; rw [List.take_length] at h; omega)
  have HL2 : Hid ((besideV c.one (c.must ++ c.may)).length ≤ 1048576) := Lib.hid (by have := f.one.1; have h := besideV_len c.one (c.must ++ c.may) c.one.length; rw [List.take_length] at h; omega)
  have HL3 : Hid (c.must.length ≤ 1048576) := Lib.hid f.must.1
  clear f
  go_enter Try.func46, Try.ntmps46
  go_wp2_with fail
  refine calls_any' (fun W => Below w.heap.size w W ∧ Quad W w.heap.size 42 (.string c.nm) (.slice o1 c.must.length k1) (.slice o2 c.may.length k2) (.slice o3 c.one.length k3)) ⟨more (Below.refl _ _) _, quadNew _ _ _ _ _ _⟩ ?_
  rintro W1 ⟨b1, t1⟩
  have T1 := Lib.hid t1; clear t1
  refine (NameRight_any _ W1 hn).mono ?_
  rintro e w' ⟨rfl, rfl⟩
  cases h0 : nmL c.nm
  · rw [h0] at HE
    go_wp2
    go_ret
    exact ⟨ret_bool (by rw [HE.out]; simp), b1⟩
  rw [h0] at HE
  obtain ⟨q0, q1, q2, q3⟩ := T1.out.cells
  go_wp2_with fail
  refine (C1.out _ b1).mono ?_
  rintro e w2 ⟨rfl, hb⟩
  have T2 := Lib.hid (T1.out.below hb); have b2 := b1.trans (hb.mono b1.size)
  clear hb q0 q1 q2 q3 T1 b1 C1
  cases h1 : names10 c.must
  · rw [h1] at HE
    go_wp2
    go_ret
    exact ⟨ret_bool (by rw [HE.out]; simp), b2⟩
  rw [h1] at HE
  obtain ⟨q0, q1, q2, q3⟩ := T2.out.cells
  go_wp2_with fail
  refine (C2.out _ b2).mono ?_
  rintro e w3 ⟨rfl, hb⟩
  have T3 := Lib.hid (T2.out.below hb); have b3 := b2.trans (hb.mono b2.size)
  clear hb q0 q1 q2 q3 T2 b2 C2
  cases h2 : names10 c.may
  · rw [h2] at HE
    go_wp2
    go_ret
    exact ⟨ret_bool (by rw [HE.out]; simp), b3⟩
  rw [h2] at HE
  obtain ⟨q0, q1, q2, q3⟩ := T3.out.cells
  go_wp2_with fail
  refine (C3.out _ b3).mono ?_
  rintro e w4 ⟨rfl, hb⟩
  have T4 := Lib.hid (T3.out.below hb); have b4 := b3.trans (hb.mono b3.size)
  clear hb q0 q1 q2 q3 T3 b3 C3
  cases h3 : names10 c.one
  · rw [h3] at HE
    go_wp2
    go_ret
    exact ⟨ret_bool (by rw [HE.out]; simp), b4⟩
  rw [h3] at HE
  have HM : Hid (decide ((besideV c.must c.may).length < c.must.length) = !(c.must.all fun x => !(hasS c.may x))) := Lib.hid (besideV_lt _ _)
  have HO : Hid (decide ((besideV c.one (c.must ++ c.may)).length = 0) = c.one.all fun x => hasS (c.must ++ c.may) x) := Lib.hid (besideV_zero _ _)
  have SK : Hid (∀ Z' : World, Below w4.heap.size w4 Z' → Z'.cell? ⟨w.heap.size, 0, none⟩ = some (.string c.nm) ∧ Z'.cell? ⟨w.heap.size, 1, none⟩ = some (.slice o1 c.must.length k1) ∧ Z'.cell? ⟨w.heap.size, 2, none⟩ = some (.slice o2 c.may.length k2) ∧ Z'.cell? ⟨w.heap.size, 3, none⟩ = some (.slice o3 c.one.length k3)) := Lib.hid (fun Z' h => (T4.out.below h).cells)
  have D4 : Hid (∀ W : World, Below w4.heap.size w4 W → Calls Try.prog 68 #[.slice o1 c.must.length k1, .slice o2 c.may.length k2] W fun e w' => (∃ ao cap, e = .returned (.slice ao (besideV c.must c.may).length cap)) ∧ Below w4.heap.size w4 w') := Lib.hid (fun W h => by
    refine (C4.out W (b4.trans (h.mono b4.size))).mono ?_
    rintro e w' ⟨⟨v, rfl, o⟩, b⟩
    obtain ⟨ao, cap, rfl, _⟩ := own_slv o
    exact ⟨⟨ao, cap, rfl⟩, h.trans (b.mono h.size)⟩)
  have D5 : Hid (∀ W : World, Below w4.heap.size w4 W → Calls Try.prog 54 #[.agg #[.string c.nm, .slice o1 c.must.length k1, .slice o2 c.may.length k2, .slice o3 c.one.length k3]] W fun e w' => (∃ ao cap, e = .returned (.slice ao (c.must ++ c.may).length cap) ∧ StrsAt w' ao (c.must ++ c.may)) ∧ Below w4.heap.size w4 w') := Lib.hid (fun W h => by
    refine (C5.out W (b4.trans (h.mono b4.size))).mono ?_
    rintro e w' ⟨⟨v, rfl, o⟩, b⟩
    obtain ⟨ao, cap, rfl, s⟩ := own_slv o
    exact ⟨⟨ao, cap, rfl, s⟩, h.trans (b.mono h.size)⟩)
  have D6 : Hid (∀ (W : World) (ao : Option Addr) (cap : Nat), Below w4.heap.size w4 W → StrsAt W ao (c.must ++ c.may) → Calls Try.prog 69 #[.slice ao (c.must ++ c.may).length cap, .string ⟨#[99, 108, 97, 115, 115]⟩] W fun e w' => e = .returned (.bool (hasS (c.must ++ c.may) clsT)) ∧ Below w4.heap.size w4 w') := Lib.hid (fun W ao cap h s => by
    refine (contains_any ao (c.must ++ c.may) cap ⟨#[99, 108, 97, 115, 115]⟩ W s HPl.out).mono ?_
    rintro e w' ⟨rfl, rfl⟩
    exact ⟨rfl, h⟩)
  have D7 : Hid (∀ (W : World) (ao : Option Addr) (cap : Nat), Below w4.heap.size w4 W → StrsAt W ao (c.must ++ c.may) → Calls Try.prog 68 #[.slice o3 c.one.length k3, .slice ao (c.must ++ c.may).length cap] W fun e w' => (∃ ao cap, e = .returned (.slice ao (besideV c.one (c.must ++ c.may)).length cap)) ∧ Below w4.heap.size w4 w') := Lib.hid (fun W ao cap h s => by
    refine (C6.out W ao cap (b4.trans (h.mono b4.size)) s).mono ?_
    rintro e w' ⟨⟨v, rfl, o⟩, b⟩
    obtain ⟨ao, cap, rfl, _⟩ := own_slv o
    exact ⟨⟨ao, cap, rfl⟩, h.trans (b.mono h.size)⟩)
  have BD : Below w4.heap.size w4 w4.drew := (Below.refl _ _).drew
  have HB4 := Lib.hid b4
  clear b4 T4 C4 C5 C6
  have hn1 : ((besideV c.must c.may).length : Int) ≤ 1048576 := by have := HL1.out; omega
  have hn2 : ((besideV c.one (c.must ++ c.may)).length : Int) ≤ 1048576 := by have := HL2.out; omega
  have hm0 : (c.must.length : Int) ≤ 1048576 := by have := HL3.out; omega
  generalize besideV c.must c.may = X at *
  generalize besideV c.one (c.must ++ c.may) = Y at *
  generalize (c.must ++ c.may) = PP at *
  by_cases hx : X.length < c.must.length
  · have g1 : (X.length : Int) < (c.must.length : Int) := by omega
    have HF : Hid ((c.must.all fun x => !(hasS c.may x)) = false) := Lib.hid (by have := HM.out; rw [decide_eq_true hx] at this; simpa using this.symm)
    rw [HF.out] at HE
    go_wp2_with fail
    refine wp_region_held_drew (S := (fun Z' => Z'.cell? ⟨w.heap.size, 0, none⟩ = some (.string c.nm) ∧ Z'.cell? ⟨w.heap.size, 1, none⟩ = some (.slice o1 c.must.length k1) ∧ Z'.cell? ⟨w.heap.size, 2, none⟩ = some (.slice o2 c.may.length k2) ∧ Z'.cell? ⟨w.heap.size, 3, none⟩ = some (.slice o3 c.one.length k3))) (by kernel_rfl) ?_ (fun hHeld => ?_)
    · (try dsimp only)
      first | exact SK.out _ (by assumption) | exact SK.out _ BD
    refine wpAnyH_take (i := 0) (oi := { dst := some 25, op := Op.fieldAddr 42 (Operand.tmp 1) 1, type := 0, pos := "l05_schema.go:74", after := #[], guard := none }) (v := ?_) rfl (by kernel_rfl) (by kernel_rfl) (by kernel_rfl) (fun _ _ _ h => h) (Or.inl ⟨by rfl, ?_⟩) (by assumption) ?_
    rotate_left
    · intro w hSw; (try dsimp only at hSw); go_simp; (try with_reducible rfl)
    (try simp only [Act.put, List.setIfInBounds_toArray, List.set_cons_zero, List.set_cons_succ])
    refine wpAnyH_take (i := 1) (oi := { dst := some 26, op := Op.load 29 (Operand.tmp 25), type := 29, pos := "l05_schema.go:74", after := #[{ on := 0, ground := Ground.data }], guard := none }) (v := ?_) rfl (by kernel_rfl) (by kernel_rfl) (by kernel_rfl) (fun _ _ _ h => h) (Or.inl ⟨by rfl, ?_⟩) (by assumption) ?_
    rotate_left
    · intro w hSw; (try dsimp only at hSw); go_simp; (try with_reducible rfl)
    (try simp only [Act.put, List.setIfInBounds_toArray, List.set_cons_zero, List.set_cons_succ])
    refine wpAnyH_take (i := 2) (oi := { dst := some 27, op := Op.fieldAddr 42 (Operand.tmp 1) 2, type := 0, pos := "l05_schema.go:74", after := #[], guard := none }) (v := ?_) rfl (by kernel_rfl) (by kernel_rfl) (by kernel_rfl) (fun _ _ _ h => h) (Or.inl ⟨by rfl, ?_⟩) (by assumption) ?_
    rotate_left
    · intro w hSw; (try dsimp only at hSw); go_simp; (try with_reducible rfl)
    (try simp only [Act.put, List.setIfInBounds_toArray, List.set_cons_zero, List.set_cons_succ])
    refine wpAnyH_take (i := 3) (oi := { dst := some 28, op := Op.load 29 (Operand.tmp 27), type := 29, pos := "l05_schema.go:74", after := #[{ on := 2, ground := Ground.data }], guard := none }) (v := ?_) rfl (by kernel_rfl) (by kernel_rfl) (by kernel_rfl) (fun _ _ _ h => h) (Or.inl ⟨by rfl, ?_⟩) (by assumption) ?_
    rotate_left
    · intro w hSw; (try dsimp only at hSw); go_simp; (try with_reducible rfl)
    (try simp only [Act.put, List.setIfInBounds_toArray, List.set_cons_zero, List.set_cons_succ])
    refine wpAnyH_take (i := 6) (oi := { dst := some 31, op := Op.fieldAddr 42 (Operand.tmp 1) 1, type := 0, pos := "l05_schema.go:74", after := #[], guard := none }) (v := ?_) rfl (by kernel_rfl) (by kernel_rfl) (by kernel_rfl) (fun _ _ _ h => h) (Or.inl ⟨by rfl, ?_⟩) (by assumption) ?_
    rotate_left
    · intro w hSw; (try dsimp only at hSw); go_simp; (try with_reducible rfl)
    (try simp only [Act.put, List.setIfInBounds_toArray, List.set_cons_zero, List.set_cons_succ])
    refine wpAnyH_take (i := 7) (oi := { dst := some 32, op := Op.load 29 (Operand.tmp 31), type := 29, pos := "l05_schema.go:74", after := #[{ on := 6, ground := Ground.data }], guard := none }) (v := ?_) rfl (by kernel_rfl) (by kernel_rfl) (by kernel_rfl) (fun _ _ _ h => h) (Or.inl ⟨by rfl, ?_⟩) (by assumption) ?_
    rotate_left
    · intro w hSw; (try dsimp only at hSw); go_simp; (try with_reducible rfl)
    (try simp only [Act.put, List.setIfInBounds_toArray, List.set_cons_zero, List.set_cons_succ])
    refine wpAnyH_take (i := 8) (oi := { dst := some 33, op := Op.call { callee := Callee.builtin Builtin.len, args := #[Operand.tmp 32], argTypes := #[29] }, type := 3, pos := "l05_schema.go:74", after := #[{ on := 7, ground := Ground.data }], guard := none }) (v := ?_) rfl (by kernel_rfl) (by kernel_rfl) (by kernel_rfl) (fun _ _ _ h => h) (Or.inl ⟨by rfl, ?_⟩) (by assumption) ?_
    rotate_left
    · intro w hSw; (try dsimp only at hSw); go_simp; (try with_reducible rfl)
    (try simp only [Act.put, List.setIfInBounds_toArray, List.set_cons_zero, List.set_cons_succ])
    refine wpAnyH_ready (rs := [4]) (by kernel_rfl) (by simp) ?_
    refine AllReadyH.cons (o := { dst := some 29, op := Op.call { callee := Callee.value (Operand.func 68), args := #[Operand.tmp 26, Operand.tmp 28], argTypes := #[29, 29] }, type := 29, pos := "l05_schema.go:74", after := #[{ on := 1, ground := Ground.data }, { on := 3, ground := Ground.data }], guard := none }) rfl (fun K hK => ?_) (AllReadyH.nil)
    go_simp
    refine (D4.out _ (by first | assumption | exact BD)).mono ?_
    rintro e m4 ⟨⟨xo, xc, rfl⟩, d4⟩
    clear hHeld
    refine hK.out _ _ ?_ (fun hHeld => ?_)
    · (try dsimp only)
      first | exact SK.out _ (by assumption) | exact SK.out _ BD
    clear hK K
    (try simp only [Act.put, List.setIfInBounds_toArray, List.set_cons_zero, List.set_cons_succ])
    refine wpAnyH_take (i := 5) (oi := { dst := some 30, op := Op.call { callee := Callee.builtin Builtin.len, args := #[Operand.tmp 29], argTypes := #[29] }, type := 3, pos := "l05_schema.go:74", after := #[{ on := 4, ground := Ground.data }], guard := none }) (v := ?_) rfl (by kernel_rfl) (by kernel_rfl) (by kernel_rfl) (fun _ _ _ h => h) (Or.inl ⟨by rfl, ?_⟩) (by assumption) ?_
    rotate_left
    · intro w hSw; (try dsimp only at hSw); go_simp; (try with_reducible rfl)
    (try simp only [Act.put, List.setIfInBounds_toArray, List.set_cons_zero, List.set_cons_succ])
    refine wpAnyH_take (i := 9) (oi := { dst := some 34, op := Op.binOp BinOp.lss 3 (Operand.tmp 30) (Operand.tmp 33) 3, type := 4, pos := "l05_schema.go:74", after := #[{ on := 5, ground := Ground.data }, { on := 8, ground := Ground.data }], guard := none }) (v := ?_) rfl (by kernel_rfl) (by kernel_rfl) (by kernel_rfl) (fun _ _ _ h => h) (Or.inl ⟨by rfl, ?_⟩) (by assumption) ?_
    rotate_left
    · intro w hSw; (try dsimp only at hSw); go_simp; (try with_reducible rfl)
    (try simp only [Act.put, List.setIfInBounds_toArray, List.set_cons_zero, List.set_cons_succ])
    refine wpAnyH_take (i := 10) (oi := { dst := some 35, op := Op.move (Operand.tmp 34), type := 4, pos := "l05_schema.go:74", after := #[{ on := 9, ground := Ground.data }, { on := 4, ground := Ground.chain }], guard := none }) (v := ?_) rfl (by kernel_rfl) (by kernel_rfl) (by kernel_rfl) (fun _ _ _ h => h) (Or.inl ⟨by rfl, ?_⟩) (by assumption) ?_
    rotate_left
    · intro w hSw; (try dsimp only at hSw); go_simp; (try with_reducible rfl)
    (try simp only [Act.put, List.setIfInBounds_toArray, List.set_cons_zero, List.set_cons_succ])
    refine wpAnyH_take (i := 11) (oi := { dst := some 36, op := Op.load 42 (Operand.tmp 1), type := 42, pos := "l05_schema.go:74", after := #[{ on := 10, ground := Ground.guard }], guard := some (10, false) }) (v := undef) rfl (by kernel_rfl) (by kernel_rfl) (by kernel_rfl) (fun _ _ _ h => h) (Or.inr ⟨by rfl, rfl⟩) (by assumption) ?_
    (try simp only [Act.put, List.setIfInBounds_toArray, List.set_cons_zero, List.set_cons_succ])
    refine wpAnyH_take (i := 12) (oi := { dst := some 37, op := Op.call { callee := Callee.value (Operand.func 54), args := #[Operand.tmp 36], argTypes := #[42] }, type := 29, pos := "l05_schema.go:74", after := #[{ on := 11, ground := Ground.data }, { on := 10, ground := Ground.chain }, { on := 10, ground := Ground.guard }], guard := some (10, false) }) (v := undef) rfl (by kernel_rfl) (by kernel_rfl) (by kernel_rfl) (fun _ _ _ h => h) (Or.inr ⟨by rfl, rfl⟩) (by assumption) ?_
    (try simp only [Act.put, List.setIfInBounds_toArray, List.set_cons_zero, List.set_cons_succ])
    refine wpAnyH_take (i := 13) (oi := { dst := some 38, op := Op.call { callee := Callee.value (Operand.func 69), args := #[Operand.tmp 37, Operand.const (Value.string { data := #[99, 108, 97, 115, 115] })], argTypes := #[29, 9] }, type := 4, pos := "l05_schema.go:74", after := #[{ on := 12, ground := Ground.data }, { on := 12, ground := Ground.chain }, { on := 10, ground := Ground.guard }], guard := some (10, false) }) (v := undef) rfl (by kernel_rfl) (by kernel_rfl) (by kernel_rfl) (fun _ _ _ h => h) (Or.inr ⟨by rfl, rfl⟩) (by assumption) ?_
    (try simp only [Act.put, List.setIfInBounds_toArray, List.set_cons_zero, List.set_cons_succ])
    refine wpAnyH_take (i := 14) (oi := { dst := some 39, op := Op.pick (Operand.tmp 35) (Operand.const (Value.bool true)) (Operand.tmp 38), type := 4, pos := "l05_schema.go:74", after := #[{ on := 10, ground := Ground.data }, { on := 13, ground := Ground.data }], guard := none }) (v := ?_) rfl (by kernel_rfl) (by kernel_rfl) (by kernel_rfl) (fun _ _ _ h => h) (Or.inl ⟨by rfl, ?_⟩) (by assumption) ?_
    rotate_left
    · intro w hSw; (try dsimp only at hSw); go_simp; (try with_reducible rfl)
    (try simp only [Act.put, List.setIfInBounds_toArray, List.set_cons_zero, List.set_cons_succ])
    refine wpAnyH_done (by kernel_rfl) ?_ _
    clear hHeld
    go_wp2
    go_ret
    exact ⟨ret_bool (by rw [HE.out]; simp), HB4.out.trans (d4.mono HB4.out.size)⟩
  · have g1 : ¬ (X.length : Int) < (c.must.length : Int) := by omega
    have HF : Hid ((c.must.all fun x => !(hasS c.may x)) = true) := Lib.hid (by have := HM.out; rw [decide_eq_false hx] at this; simpa using this.symm)
    rw [HF.out] at HE
    go_wp2_with fail
    cases hh : hasS PP clsT
    · rw [hh] at HE D6
      refine wp_region_held_drew (S := (fun Z' => Z'.cell? ⟨w.heap.size, 0, none⟩ = some (.string c.nm) ∧ Z'.cell? ⟨w.heap.size, 1, none⟩ = some (.slice o1 c.must.length k1) ∧ Z'.cell? ⟨w.heap.size, 2, none⟩ = some (.slice o2 c.may.length k2) ∧ Z'.cell? ⟨w.heap.size, 3, none⟩ = some (.slice o3 c.one.length k3))) (by kernel_rfl) ?_ (fun hHeld => ?_)
      · (try dsimp only)
        first | exact SK.out _ (by assumption) | exact SK.out _ BD
      refine wpAnyH_take (i := 0) (oi := { dst := some 25, op := Op.fieldAddr 42 (Operand.tmp 1) 1, type := 0, pos := "l05_schema.go:74", after := #[], guard := none }) (v := ?_) rfl (by kernel_rfl) (by kernel_rfl) (by kernel_rfl) (fun _ _ _ h => h) (Or.inl ⟨by rfl, ?_⟩) (by assumption) ?_
      rotate_left
      · intro w hSw; (try dsimp only at hSw); go_simp; (try with_reducible rfl)
      (try simp only [Act.put, List.setIfInBounds_toArray, List.set_cons_zero, List.set_cons_succ])
      refine wpAnyH_take (i := 1) (oi := { dst := some 26, op := Op.load 29 (Operand.tmp 25), type := 29, pos := "l05_schema.go:74", after := #[{ on := 0, ground := Ground.data }], guard := none }) (v := ?_) rfl (by kernel_rfl) (by kernel_rfl) (by kernel_rfl) (fun _ _ _ h => h) (Or.inl ⟨by rfl, ?_⟩) (by assumption) ?_
      rotate_left
      · intro w hSw; (try dsimp only at hSw); go_simp; (try with_reducible rfl)
      (try simp only [Act.put, List.setIfInBounds_toArray, List.set_cons_zero, List.set_cons_succ])
      refine wpAnyH_take (i := 2) (oi := { dst := some 27, op := Op.fieldAddr 42 (Operand.tmp 1) 2, type := 0, pos := "l05_schema.go:74", after := #[], guard := none }) (v := ?_) rfl (by kernel_rfl) (by kernel_rfl) (by kernel_rfl) (fun _ _ _ h => h) (Or.inl ⟨by rfl, ?_⟩) (by assumption) ?_
      rotate_left
      · intro w hSw; (try dsimp only at hSw); go_simp; (try with_reducible rfl)
      (try simp only [Act.put, List.setIfInBounds_toArray, List.set_cons_zero, List.set_cons_succ])
      refine wpAnyH_take (i := 3) (oi := { dst := some 28, op := Op.load 29 (Operand.tmp 27), type := 29, pos := "l05_schema.go:74", after := #[{ on := 2, ground := Ground.data }], guard := none }) (v := ?_) rfl (by kernel_rfl) (by kernel_rfl) (by kernel_rfl) (fun _ _ _ h => h) (Or.inl ⟨by rfl, ?_⟩) (by assumption) ?_
      rotate_left
      · intro w hSw; (try dsimp only at hSw); go_simp; (try with_reducible rfl)
      (try simp only [Act.put, List.setIfInBounds_toArray, List.set_cons_zero, List.set_cons_succ])
      refine wpAnyH_take (i := 6) (oi := { dst := some 31, op := Op.fieldAddr 42 (Operand.tmp 1) 1, type := 0, pos := "l05_schema.go:74", after := #[], guard := none }) (v := ?_) rfl (by kernel_rfl) (by kernel_rfl) (by kernel_rfl) (fun _ _ _ h => h) (Or.inl ⟨by rfl, ?_⟩) (by assumption) ?_
      rotate_left
      · intro w hSw; (try dsimp only at hSw); go_simp; (try with_reducible rfl)
      (try simp only [Act.put, List.setIfInBounds_toArray, List.set_cons_zero, List.set_cons_succ])
      refine wpAnyH_take (i := 7) (oi := { dst := some 32, op := Op.load 29 (Operand.tmp 31), type := 29, pos := "l05_schema.go:74", after := #[{ on := 6, ground := Ground.data }], guard := none }) (v := ?_) rfl (by kernel_rfl) (by kernel_rfl) (by kernel_rfl) (fun _ _ _ h => h) (Or.inl ⟨by rfl, ?_⟩) (by assumption) ?_
      rotate_left
      · intro w hSw; (try dsimp only at hSw); go_simp; (try with_reducible rfl)
      (try simp only [Act.put, List.setIfInBounds_toArray, List.set_cons_zero, List.set_cons_succ])
      refine wpAnyH_take (i := 8) (oi := { dst := some 33, op := Op.call { callee := Callee.builtin Builtin.len, args := #[Operand.tmp 32], argTypes := #[29] }, type := 3, pos := "l05_schema.go:74", after := #[{ on := 7, ground := Ground.data }], guard := none }) (v := ?_) rfl (by kernel_rfl) (by kernel_rfl) (by kernel_rfl) (fun _ _ _ h => h) (Or.inl ⟨by rfl, ?_⟩) (by assumption) ?_
      rotate_left
      · intro w hSw; (try dsimp only at hSw); go_simp; (try with_reducible rfl)
      (try simp only [Act.put, List.setIfInBounds_toArray, List.set_cons_zero, List.set_cons_succ])
      refine wpAnyH_ready (rs := [4]) (by kernel_rfl) (by simp) ?_
      refine AllReadyH.cons (o := { dst := some 29, op := Op.call { callee := Callee.value (Operand.func 68), args := #[Operand.tmp 26, Operand.tmp 28], argTypes := #[29, 29] }, type := 29, pos := "l05_schema.go:74", after := #[{ on := 1, ground := Ground.data }, { on := 3, ground := Ground.data }], guard := none }) rfl (fun K hK => ?_) (AllReadyH.nil)
      go_simp
      refine (D4.out _ (by first | assumption | exact BD)).mono ?_
      rintro e m4 ⟨⟨xo, xc, rfl⟩, d4⟩
      clear hHeld
      refine hK.out _ _ ?_ (fun hHeld => ?_)
      · (try dsimp only)
        first | exact SK.out _ (by assumption) | exact SK.out _ BD
      clear hK K
      (try simp only [Act.put, List.setIfInBounds_toArray, List.set_cons_zero, List.set_cons_succ])
      refine wpAnyH_take (i := 5) (oi := { dst := some 30, op := Op.call { callee := Callee.builtin Builtin.len, args := #[Operand.tmp 29], argTypes := #[29] }, type := 3, pos := "l05_schema.go:74", after := #[{ on := 4, ground := Ground.data }], guard := none }) (v := ?_) rfl (by kernel_rfl) (by kernel_rfl) (by kernel_rfl) (fun _ _ _ h => h) (Or.inl ⟨by rfl, ?_⟩) (by assumption) ?_
      rotate_left
      · intro w hSw; (try dsimp only at hSw); go_simp; (try with_reducible rfl)
      (try simp only [Act.put, List.setIfInBounds_toArray, List.set_cons_zero, List.set_cons_succ])
      refine wpAnyH_take (i := 9) (oi := { dst := some 34, op := Op.binOp BinOp.lss 3 (Operand.tmp 30) (Operand.tmp 33) 3, type := 4, pos := "l05_schema.go:74", after := #[{ on := 5, ground := Ground.data }, { on := 8, ground := Ground.data }], guard := none }) (v := ?_) rfl (by kernel_rfl) (by kernel_rfl) (by kernel_rfl) (fun _ _ _ h => h) (Or.inl ⟨by rfl, ?_⟩) (by assumption) ?_
      rotate_left
      · intro w hSw; (try dsimp only at hSw); go_simp; (try with_reducible rfl)
      (try simp only [Act.put, List.setIfInBounds_toArray, List.set_cons_zero, List.set_cons_succ])
      refine wpAnyH_take (i := 10) (oi := { dst := some 35, op := Op.move (Operand.tmp 34), type := 4, pos := "l05_schema.go:74", after := #[{ on := 9, ground := Ground.data }, { on := 4, ground := Ground.chain }], guard := none }) (v := ?_) rfl (by kernel_rfl) (by kernel_rfl) (by kernel_rfl) (fun _ _ _ h => h) (Or.inl ⟨by rfl, ?_⟩) (by assumption) ?_
      rotate_left
      · intro w hSw; (try dsimp only at hSw); go_simp; (try with_reducible rfl)
      (try simp only [Act.put, List.setIfInBounds_toArray, List.set_cons_zero, List.set_cons_succ])
      refine wpAnyH_take (i := 11) (oi := { dst := some 36, op := Op.load 42 (Operand.tmp 1), type := 42, pos := "l05_schema.go:74", after := #[{ on := 10, ground := Ground.guard }], guard := some (10, false) }) (v := ?_) rfl (by kernel_rfl) (by kernel_rfl) (by kernel_rfl) (fun _ _ _ h => h) (Or.inl ⟨by rfl, ?_⟩) (by assumption) ?_
      rotate_left
      · intro w hSw; (try dsimp only at hSw); go_simp; (try with_reducible rfl)
      (try simp only [Act.put, List.setIfInBounds_toArray, List.set_cons_zero, List.set_cons_succ])
      refine wpAnyH_ready (rs := [12]) (by kernel_rfl) (by simp) ?_
      refine AllReadyH.cons (o := { dst := some 37, op := Op.call { callee := Callee.value (Operand.func 54), args := #[Operand.tmp 36], argTypes := #[42] }, type := 29, pos := "l05_schema.go:74", after := #[{ on := 11, ground := Ground.data }, { on := 10, ground := Ground.chain }, { on := 10, ground := Ground.guard }], guard := some (10, false) }) rfl (fun K hK => ?_) (AllReadyH.nil)
      go_simp
      refine (D5.out _ (by first | assumption | exact BD)).mono ?_
      rintro e m12 ⟨⟨yo, yc, rfl, sy⟩, d12⟩
      clear d4
      clear hHeld
      refine hK.out _ _ ?_ (fun hHeld => ?_)
      · (try dsimp only)
        first | exact SK.out _ (by assumption) | exact SK.out _ BD
      clear hK K
      (try simp only [Act.put, List.setIfInBounds_toArray, List.set_cons_zero, List.set_cons_succ])
      refine wpAnyH_ready (rs := [13]) (by kernel_rfl) (by simp) ?_
      refine AllReadyH.cons (o := { dst := some 38, op := Op.call { callee := Callee.value (Operand.func 69), args := #[Operand.tmp 37, Operand.const (Value.string { data := #[99, 108, 97, 115, 115] })], argTypes := #[29, 9] }, type := 4, pos := "l05_schema.go:74", after := #[{ on := 12, ground := Ground.data }, { on := 12, ground := Ground.chain }, { on := 10, ground := Ground.guard }], guard := some (10, false) }) rfl (fun K hK => ?_) (AllReadyH.nil)
      go_simp
      refine (D6.out m12 yo yc d12 sy).mono ?_
      rintro e m13 ⟨rfl, d13⟩
      clear d12 sy
      clear hHeld
      refine hK.out _ _ ?_ (fun hHeld => ?_)
      · (try dsimp only)
        first | exact SK.out _ (by assumption) | exact SK.out _ BD
      clear hK K
      (try simp only [Act.put, List.setIfInBounds_toArray, List.set_cons_zero, List.set_cons_succ])
      refine wpAnyH_take (i := 14) (oi := { dst := some 39, op := Op.pick (Operand.tmp 35) (Operand.const (Value.bool true)) (Operand.tmp 38), type := 4, pos := "l05_schema.go:74", after := #[{ on := 10, ground := Ground.data }, { on := 13, ground := Ground.data }], guard := none }) (v := ?_) rfl (by kernel_rfl) (by kernel_rfl) (by kernel_rfl) (fun _ _ _ h => h) (Or.inl ⟨by rfl, ?_⟩) (by assumption) ?_
      rotate_left
      · intro w hSw; (try dsimp only at hSw); go_simp; (try with_reducible rfl)
      (try simp only [Act.put, List.setIfInBounds_toArray, List.set_cons_zero, List.set_cons_succ])
      refine wpAnyH_done (by kernel_rfl) ?_ _
      clear hHeld
      have BE := d13.drew
      go_wp2_with fail
      by_cases hy : Y.length = 0
      · have g2 : ((Y.length : Int) == 0) = true := by simpa using hy
        have HG : Hid ((c.one.all fun x => hasS PP x) = true) := Lib.hid (by rw [← HO.out]; exact decide_eq_true hy)
        rw [HG.out] at HE
        refine wp_region_held_drew (S := (fun Z' => Z'.cell? ⟨w.heap.size, 0, none⟩ = some (.string c.nm) ∧ Z'.cell? ⟨w.heap.size, 1, none⟩ = some (.slice o1 c.must.length k1) ∧ Z'.cell? ⟨w.heap.size, 2, none⟩ = some (.slice o2 c.may.length k2) ∧ Z'.cell? ⟨w.heap.size, 3, none⟩ = some (.slice o3 c.one.length k3))) (by kernel_rfl) ?_ (fun hHeld => ?_)
        · (try dsimp only)
          first | exact SK.out _ (by assumption) | exact SK.out _ BE
        refine wpAnyH_take (i := 0) (oi := { dst := some 40, op := Op.fieldAddr 42 (Operand.tmp 1) 3, type := 0, pos := "l05_schema.go:77", after := #[], guard := none }) (v := ?_) rfl (by kernel_rfl) (by kernel_rfl) (by kernel_rfl) (fun _ _ _ h => h) (Or.inl ⟨by rfl, ?_⟩) (by assumption) ?_
        rotate_left
        · intro w hSw; (try dsimp only at hSw); go_simp; (try with_reducible rfl)
        (try simp only [Act.put, List.setIfInBounds_toArray, List.set_cons_zero, List.set_cons_succ])
        refine wpAnyH_take (i := 1) (oi := { dst := some 41, op := Op.load 29 (Operand.tmp 40), type := 29, pos := "l05_schema.go:77", after := #[{ on := 0, ground := Ground.data }], guard := none }) (v := ?_) rfl (by kernel_rfl) (by kernel_rfl) (by kernel_rfl) (fun _ _ _ h => h) (Or.inl ⟨by rfl, ?_⟩) (by assumption) ?_
        rotate_left
        · intro w hSw; (try dsimp only at hSw); go_simp; (try with_reducible rfl)
        (try simp only [Act.put, List.setIfInBounds_toArray, List.set_cons_zero, List.set_cons_succ])
        refine wpAnyH_take (i := 2) (oi := { dst := some 42, op := Op.load 42 (Operand.tmp 1), type := 42, pos := "l05_schema.go:77", after := #[], guard := none }) (v := ?_) rfl (by kernel_rfl) (by kernel_rfl) (by kernel_rfl) (fun _ _ _ h => h) (Or.inl ⟨by rfl, ?_⟩) (by assumption) ?_
        rotate_left
        · intro w hSw; (try dsimp only at hSw); go_simp; (try with_reducible rfl)
        (try simp only [Act.put, List.setIfInBounds_toArray, List.set_cons_zero, List.set_cons_succ])
        refine wpAnyH_ready (rs := [3]) (by kernel_rfl) (by simp) ?_
        refine AllReadyH.cons (o := { dst := some 43, op := Op.call { callee := Callee.value (Operand.func 54), args := #[Operand.tmp 42], argTypes := #[42] }, type := 29, pos := "l05_schema.go:77", after := #[{ on := 2, ground := Ground.data }], guard := none }) rfl (fun K hK => ?_) (AllReadyH.nil)
        go_simp
        refine (D5.out _ (by first | assumption | exact BE)).mono ?_
        rintro e n3 ⟨⟨zo, zc, rfl, sz⟩, f3⟩
        clear hHeld
        refine hK.out _ _ ?_ (fun hHeld => ?_)
        · (try dsimp only)
          first | exact SK.out _ (by assumption) | exact SK.out _ BE
        clear hK K
        (try simp only [Act.put, List.setIfInBounds_toArray, List.set_cons_zero, List.set_cons_succ])
        refine wpAnyH_ready (rs := [4]) (by kernel_rfl) (by simp) ?_
        refine AllReadyH.cons (o := { dst := some 44, op := Op.call { callee := Callee.value (Operand.func 68), args := #[Operand.tmp 41, Operand.tmp 43], argTypes := #[29, 29] }, type := 29, pos := "l05_schema.go:77", after := #[{ on := 1, ground := Ground.data }, { on := 3, ground := Ground.data }, { on := 3, ground := Ground.chain }], guard := none }) rfl (fun K hK => ?_) (AllReadyH.nil)
        go_simp
        refine (D7.out n3 zo zc f3 sz).mono ?_
        rintro e n4 ⟨⟨uo, uc, rfl⟩, f4⟩
        clear f3 sz
        clear hHeld
        refine hK.out _ _ ?_ (fun hHeld => ?_)
        · (try dsimp only)
          first | exact SK.out _ (by assumption) | exact SK.out _ BE
        clear hK K
        (try simp only [Act.put, List.setIfInBounds_toArray, List.set_cons_zero, List.set_cons_succ])
        refine wpAnyH_take (i := 5) (oi := { dst := some 45, op := Op.call { callee := Callee.builtin Builtin.len, args := #[Operand.tmp 44], argTypes := #[29] }, type := 3, pos := "l05_schema.go:77", after := #[{ on := 4, ground := Ground.data }], guard := none }) (v := ?_) rfl (by kernel_rfl) (by kernel_rfl) (by kernel_rfl) (fun _ _ _ h => h) (Or.inl ⟨by rfl, ?_⟩) (by assumption) ?_
        rotate_left
        · intro w hSw; (try dsimp only at hSw); go_simp; (try with_reducible rfl)
        (try simp only [Act.put, List.setIfInBounds_toArray, List.set_cons_zero, List.set_cons_succ])
        refine wpAnyH_take (i := 6) (oi := { dst := some 46, op := Op.binOp BinOp.eql 3 (Operand.tmp 45) (Operand.const (Value.int IntKind.i64 0)) 3, type := 4, pos := "l05_schema.go:77", after := #[{ on := 5, ground := Ground.data }], guard := none }) (v := ?_) rfl (by kernel_rfl) (by kernel_rfl) (by kernel_rfl) (fun _ _ _ h => h) (Or.inl ⟨by rfl, ?_⟩) (by assumption) ?_
        rotate_left
        · intro w hSw; (try dsimp only at hSw); go_simp; (try with_reducible rfl)
        (try simp only [Act.put, List.setIfInBounds_toArray, List.set_cons_zero, List.set_cons_succ])
        refine wpAnyH_take (i := 7) (oi := { dst := some 2, op := Op.assign (Operand.tmp 46), type := 4, pos := "l05_schema.go:77", after := #[{ on := 6, ground := Ground.data }, { on := 4, ground := Ground.chain }, { on := 0, ground := Ground.phase }, { on := 1, ground := Ground.phase }, { on := 2, ground := Ground.phase }, { on := 3, ground := Ground.phase }, { on := 4, ground := Ground.phase }, { on := 5, ground := Ground.phase }, { on := 6, ground := Ground.phase }], guard := none }) (v := ?_) rfl (by kernel_rfl) (by kernel_rfl) (by kernel_rfl) (fun _ _ _ h => h) (Or.inl ⟨by rfl, ?_⟩) (by assumption) ?_
        rotate_left
        · intro w hSw; (try dsimp only at hSw); go_simp; (try with_reducible rfl)
        (try simp only [Act.put, List.setIfInBounds_toArray, List.set_cons_zero, List.set_cons_succ])
        refine wpAnyH_done (by kernel_rfl) ?_ _
        clear hHeld
        go_wp2
        go_ret
        exact ⟨ret_bool (by rw [HE.out]; simp), HB4.out.trans (f4.mono HB4.out.size)⟩
      · have g2 : ((Y.length : Int) == 0) = false := by simpa using hy
        have HG : Hid ((c.one.all fun x => hasS PP x) = false) := Lib.hid (by rw [← HO.out]; exact decide_eq_false hy)
        rw [HG.out] at HE
        refine wp_region_held_drew (S := (fun Z' => Z'.cell? ⟨w.heap.size, 0, none⟩ = some (.string c.nm) ∧ Z'.cell? ⟨w.heap.size, 1, none⟩ = some (.slice o1 c.must.length k1) ∧ Z'.cell? ⟨w.heap.size, 2, none⟩ = some (.slice o2 c.may.length k2) ∧ Z'.cell? ⟨w.heap.size, 3, none⟩ = some (.slice o3 c.one.length k3))) (by kernel_rfl) ?_ (fun hHeld => ?_)
        · (try dsimp only)
          first | exact SK.out _ (by assumption) | exact SK.out _ BE
        refine wpAnyH_take (i := 0) (oi := { dst := some 40, op := Op.fieldAddr 42 (Operand.tmp 1) 3, type := 0, pos := "l05_schema.go:77", after := #[], guard := none }) (v := ?_) rfl (by kernel_rfl) (by kernel_rfl) (by kernel_rfl) (fun _ _ _ h => h) (Or.inl ⟨by rfl, ?_⟩) (by assumption) ?_
        rotate_left
        · intro w hSw; (try dsimp only at hSw); go_simp; (try with_reducible rfl)
        (try simp only [Act.put, List.setIfInBounds_toArray, List.set_cons_zero, List.set_cons_succ])
        refine wpAnyH_take (i := 1) (oi := { dst := some 41, op := Op.load 29 (Operand.tmp 40), type := 29, pos := "l05_schema.go:77", after := #[{ on := 0, ground := Ground.data }], guard := none }) (v := ?_) rfl (by kernel_rfl) (by kernel_rfl) (by kernel_rfl) (fun _ _ _ h => h) (Or.inl ⟨by rfl, ?_⟩) (by assumption) ?_
        rotate_left
        · intro w hSw; (try dsimp only at hSw); go_simp; (try with_reducible rfl)
        (try simp only [Act.put, List.setIfInBounds_toArray, List.set_cons_zero, List.set_cons_succ])
        refine wpAnyH_take (i := 2) (oi := { dst := some 42, op := Op.load 42 (Operand.tmp 1), type := 42, pos := "l05_schema.go:77", after := #[], guard := none }) (v := ?_) rfl (by kernel_rfl) (by kernel_rfl) (by kernel_rfl) (fun _ _ _ h => h) (Or.inl ⟨by rfl, ?_⟩) (by assumption) ?_
        rotate_left
        · intro w hSw; (try dsimp only at hSw); go_simp; (try with_reducible rfl)
        (try simp only [Act.put, List.setIfInBounds_toArray, List.set_cons_zero, List.set_cons_succ])
        refine wpAnyH_ready (rs := [3]) (by kernel_rfl) (by simp) ?_
        refine AllReadyH.cons (o := { dst := some 43, op := Op.call { callee := Callee.value (Operand.func 54), args := #[Operand.tmp 42], argTypes := #[42] }, type := 29, pos := "l05_schema.go:77", after := #[{ on := 2, ground := Ground.data }], guard := none }) rfl (fun K hK => ?_) (AllReadyH.nil)
        go_simp
        refine (D5.out _ (by first | assumption | exact BE)).mono ?_
        rintro e n3 ⟨⟨zo, zc, rfl, sz⟩, f3⟩
        clear hHeld
        refine hK.out _ _ ?_ (fun hHeld => ?_)
        · (try dsimp only)
          first | exact SK.out _ (by assumption) | exact SK.out _ BE
        clear hK K
        (try simp only [Act.put, List.setIfInBounds_toArray, List.set_cons_zero, List.set_cons_succ])
        refine wpAnyH_ready (rs := [4]) (by kernel_rfl) (by simp) ?_
        refine AllReadyH.cons (o := { dst := some 44, op := Op.call { callee := Callee.value (Operand.func 68), args := #[Operand.tmp 41, Operand.tmp 43], argTypes := #[29, 29] }, type := 29, pos := "l05_schema.go:77", after := #[{ on := 1, ground := Ground.data }, { on := 3, ground := Ground.data }, { on := 3, ground := Ground.chain }], guard := none }) rfl (fun K hK => ?_) (AllReadyH.nil)
        go_simp
        refine (D7.out n3 zo zc f3 sz).mono ?_
        rintro e n4 ⟨⟨uo, uc, rfl⟩, f4⟩
        clear f3 sz
        clear hHeld
        refine hK.out _ _ ?_ (fun hHeld => ?_)
        · (try dsimp only)
          first | exact SK.out _ (by assumption) | exact SK.out _ BE
        clear hK K
        (try simp only [Act.put, List.setIfInBounds_toArray, List.set_cons_zero, List.set_cons_succ])
        refine wpAnyH_take (i := 5) (oi := { dst := some 45, op := Op.call { callee := Callee.builtin Builtin.len, args := #[Operand.tmp 44], argTypes := #[29] }, type := 3, pos := "l05_schema.go:77", after := #[{ on := 4, ground := Ground.data }], guard := none }) (v := ?_) rfl (by kernel_rfl) (by kernel_rfl) (by kernel_rfl) (fun _ _ _ h => h) (Or.inl ⟨by rfl, ?_⟩) (by assumption) ?_
        rotate_left
        · intro w hSw; (try dsimp only at hSw); go_simp; (try with_reducible rfl)
        (try simp only [Act.put, List.setIfInBounds_toArray, List.set_cons_zero, List.set_cons_succ])
        refine wpAnyH_take (i := 6) (oi := { dst := some 46, op := Op.binOp BinOp.eql 3 (Operand.tmp 45) (Operand.const (Value.int IntKind.i64 0)) 3, type := 4, pos := "l05_schema.go:77", after := #[{ on := 5, ground := Ground.data }], guard := none }) (v := ?_) rfl (by kernel_rfl) (by kernel_rfl) (by kernel_rfl) (fun _ _ _ h => h) (Or.inl ⟨by rfl, ?_⟩) (by assumption) ?_
        rotate_left
        · intro w hSw; (try dsimp only at hSw); go_simp; (try with_reducible rfl)
        (try simp only [Act.put, List.setIfInBounds_toArray, List.set_cons_zero, List.set_cons_succ])
        refine wpAnyH_take (i := 7) (oi := { dst := some 2, op := Op.assign (Operand.tmp 46), type := 4, pos := "l05_schema.go:77", after := #[{ on := 6, ground := Ground.data }, { on := 4, ground := Ground.chain }, { on := 0, ground := Ground.phase }, { on := 1, ground := Ground.phase }, { on := 2, ground := Ground.phase }, { on := 3, ground := Ground.phase }, { on := 4, ground := Ground.phase }, { on := 5, ground := Ground.phase }, { on := 6, ground := Ground.phase }], guard := none }) (v := ?_) rfl (by kernel_rfl) (by kernel_rfl) (by kernel_rfl) (fun _ _ _ h => h) (Or.inl ⟨by rfl, ?_⟩) (by assumption) ?_
        rotate_left
        · intro w hSw; (try dsimp only at hSw); go_simp; (try with_reducible rfl)
        (try simp only [Act.put, List.setIfInBounds_toArray, List.set_cons_zero, List.set_cons_succ])
        refine wpAnyH_done (by kernel_rfl) ?_ _
        clear hHeld
        go_wp2
        go_ret
        exact ⟨ret_bool (by rw [HE.out]; simp), HB4.out.trans (f4.mono HB4.out.size)⟩
    · rw [hh] at HE D6
      refine wp_region_held_drew (S := (fun Z' => Z'.cell? ⟨w.heap.size, 0, none⟩ = some (.string c.nm) ∧ Z'.cell? ⟨w.heap.size, 1, none⟩ = some (.slice o1 c.must.length k1) ∧ Z'.cell? ⟨w.heap.size, 2, none⟩ = some (.slice o2 c.may.length k2) ∧ Z'.cell? ⟨w.heap.size, 3, none⟩ = some (.slice o3 c.one.length k3))) (by kernel_rfl) ?_ (fun hHeld => ?_)
      · (try dsimp only)
        first | exact SK.out _ (by assumption) | exact SK.out _ BD
      refine wpAnyH_take (i := 0) (oi := { dst := some 25, op := Op.fieldAddr 42 (Operand.tmp 1) 1, type := 0, pos := "l05_schema.go:74", after := #[], guard := none }) (v := ?_) rfl (by kernel_rfl) (by kernel_rfl) (by kernel_rfl) (fun _ _ _ h => h) (Or.inl ⟨by rfl, ?_⟩) (by assumption) ?_
      rotate_left
      · intro w hSw; (try dsimp only at hSw); go_simp; (try with_reducible rfl)
      (try simp only [Act.put, List.setIfInBounds_toArray, List.set_cons_zero, List.set_cons_succ])
      refine wpAnyH_take (i := 1) (oi := { dst := some 26, op := Op.load 29 (Operand.tmp 25), type := 29, pos := "l05_schema.go:74", after := #[{ on := 0, ground := Ground.data }], guard := none }) (v := ?_) rfl (by kernel_rfl) (by kernel_rfl) (by kernel_rfl) (fun _ _ _ h => h) (Or.inl ⟨by rfl, ?_⟩) (by assumption) ?_
      rotate_left
      · intro w hSw; (try dsimp only at hSw); go_simp; (try with_reducible rfl)
      (try simp only [Act.put, List.setIfInBounds_toArray, List.set_cons_zero, List.set_cons_succ])
      refine wpAnyH_take (i := 2) (oi := { dst := some 27, op := Op.fieldAddr 42 (Operand.tmp 1) 2, type := 0, pos := "l05_schema.go:74", after := #[], guard := none }) (v := ?_) rfl (by kernel_rfl) (by kernel_rfl) (by kernel_rfl) (fun _ _ _ h => h) (Or.inl ⟨by rfl, ?_⟩) (by assumption) ?_
      rotate_left
      · intro w hSw; (try dsimp only at hSw); go_simp; (try with_reducible rfl)
      (try simp only [Act.put, List.setIfInBounds_toArray, List.set_cons_zero, List.set_cons_succ])
      refine wpAnyH_take (i := 3) (oi := { dst := some 28, op := Op.load 29 (Operand.tmp 27), type := 29, pos := "l05_schema.go:74", after := #[{ on := 2, ground := Ground.data }], guard := none }) (v := ?_) rfl (by kernel_rfl) (by kernel_rfl) (by kernel_rfl) (fun _ _ _ h => h) (Or.inl ⟨by rfl, ?_⟩) (by assumption) ?_
      rotate_left
      · intro w hSw; (try dsimp only at hSw); go_simp; (try with_reducible rfl)
      (try simp only [Act.put, List.setIfInBounds_toArray, List.set_cons_zero, List.set_cons_succ])
      refine wpAnyH_take (i := 6) (oi := { dst := some 31, op := Op.fieldAddr 42 (Operand.tmp 1) 1, type := 0, pos := "l05_schema.go:74", after := #[], guard := none }) (v := ?_) rfl (by kernel_rfl) (by kernel_rfl) (by kernel_rfl) (fun _ _ _ h => h) (Or.inl ⟨by rfl, ?_⟩) (by assumption) ?_
      rotate_left
      · intro w hSw; (try dsimp only at hSw); go_simp; (try with_reducible rfl)
      (try simp only [Act.put, List.setIfInBounds_toArray, List.set_cons_zero, List.set_cons_succ])
      refine wpAnyH_take (i := 7) (oi := { dst := some 32, op := Op.load 29 (Operand.tmp 31), type := 29, pos := "l05_schema.go:74", after := #[{ on := 6, ground := Ground.data }], guard := none }) (v := ?_) rfl (by kernel_rfl) (by kernel_rfl) (by kernel_rfl) (fun _ _ _ h => h) (Or.inl ⟨by rfl, ?_⟩) (by assumption) ?_
      rotate_left
      · intro w hSw; (try dsimp only at hSw); go_simp; (try with_reducible rfl)
      (try simp only [Act.put, List.setIfInBounds_toArray, List.set_cons_zero, List.set_cons_succ])
      refine wpAnyH_take (i := 8) (oi := { dst := some 33, op := Op.call { callee := Callee.builtin Builtin.len, args := #[Operand.tmp 32], argTypes := #[29] }, type := 3, pos := "l05_schema.go:74", after := #[{ on := 7, ground := Ground.data }], guard := none }) (v := ?_) rfl (by kernel_rfl) (by kernel_rfl) (by kernel_rfl) (fun _ _ _ h => h) (Or.inl ⟨by rfl, ?_⟩) (by assumption) ?_
      rotate_left
      · intro w hSw; (try dsimp only at hSw); go_simp; (try with_reducible rfl)
      (try simp only [Act.put, List.setIfInBounds_toArray, List.set_cons_zero, List.set_cons_succ])
      refine wpAnyH_ready (rs := [4]) (by kernel_rfl) (by simp) ?_
      refine AllReadyH.cons (o := { dst := some 29, op := Op.call { callee := Callee.value (Operand.func 68), args := #[Operand.tmp 26, Operand.tmp 28], argTypes := #[29, 29] }, type := 29, pos := "l05_schema.go:74", after := #[{ on := 1, ground := Ground.data }, { on := 3, ground := Ground.data }], guard := none }) rfl (fun K hK => ?_) (AllReadyH.nil)
      go_simp
      refine (D4.out _ (by first | assumption | exact BD)).mono ?_
      rintro e m4 ⟨⟨xo, xc, rfl⟩, d4⟩
      clear hHeld
      refine hK.out _ _ ?_ (fun hHeld => ?_)
      · (try dsimp only)
        first | exact SK.out _ (by assumption) | exact SK.out _ BD
      clear hK K
      (try simp only [Act.put, List.setIfInBounds_toArray, List.set_cons_zero, List.set_cons_succ])
      refine wpAnyH_take (i := 5) (oi := { dst := some 30, op := Op.call { callee := Callee.builtin Builtin.len, args := #[Operand.tmp 29], argTypes := #[29] }, type := 3, pos := "l05_schema.go:74", after := #[{ on := 4, ground := Ground.data }], guard := none }) (v := ?_) rfl (by kernel_rfl) (by kernel_rfl) (by kernel_rfl) (fun _ _ _ h => h) (Or.inl ⟨by rfl, ?_⟩) (by assumption) ?_
      rotate_left
      · intro w hSw; (try dsimp only at hSw); go_simp; (try with_reducible rfl)
      (try simp only [Act.put, List.setIfInBounds_toArray, List.set_cons_zero, List.set_cons_succ])
      refine wpAnyH_take (i := 9) (oi := { dst := some 34, op := Op.binOp BinOp.lss 3 (Operand.tmp 30) (Operand.tmp 33) 3, type := 4, pos := "l05_schema.go:74", after := #[{ on := 5, ground := Ground.data }, { on := 8, ground := Ground.data }], guard := none }) (v := ?_) rfl (by kernel_rfl) (by kernel_rfl) (by kernel_rfl) (fun _ _ _ h => h) (Or.inl ⟨by rfl, ?_⟩) (by assumption) ?_
      rotate_left
      · intro w hSw; (try dsimp only at hSw); go_simp; (try with_reducible rfl)
      (try simp only [Act.put, List.setIfInBounds_toArray, List.set_cons_zero, List.set_cons_succ])
      refine wpAnyH_take (i := 10) (oi := { dst := some 35, op := Op.move (Operand.tmp 34), type := 4, pos := "l05_schema.go:74", after := #[{ on := 9, ground := Ground.data }, { on := 4, ground := Ground.chain }], guard := none }) (v := ?_) rfl (by kernel_rfl) (by kernel_rfl) (by kernel_rfl) (fun _ _ _ h => h) (Or.inl ⟨by rfl, ?_⟩) (by assumption) ?_
      rotate_left
      · intro w hSw; (try dsimp only at hSw); go_simp; (try with_reducible rfl)
      (try simp only [Act.put, List.setIfInBounds_toArray, List.set_cons_zero, List.set_cons_succ])
      refine wpAnyH_take (i := 11) (oi := { dst := some 36, op := Op.load 42 (Operand.tmp 1), type := 42, pos := "l05_schema.go:74", after := #[{ on := 10, ground := Ground.guard }], guard := some (10, false) }) (v := ?_) rfl (by kernel_rfl) (by kernel_rfl) (by kernel_rfl) (fun _ _ _ h => h) (Or.inl ⟨by rfl, ?_⟩) (by assumption) ?_
      rotate_left
      · intro w hSw; (try dsimp only at hSw); go_simp; (try with_reducible rfl)
      (try simp only [Act.put, List.setIfInBounds_toArray, List.set_cons_zero, List.set_cons_succ])
      refine wpAnyH_ready (rs := [12]) (by kernel_rfl) (by simp) ?_
      refine AllReadyH.cons (o := { dst := some 37, op := Op.call { callee := Callee.value (Operand.func 54), args := #[Operand.tmp 36], argTypes := #[42] }, type := 29, pos := "l05_schema.go:74", after := #[{ on := 11, ground := Ground.data }, { on := 10, ground := Ground.chain }, { on := 10, ground := Ground.guard }], guard := some (10, false) }) rfl (fun K hK => ?_) (AllReadyH.nil)
      go_simp
      refine (D5.out _ (by first | assumption | exact BD)).mono ?_
      rintro e m12 ⟨⟨yo, yc, rfl, sy⟩, d12⟩
      clear d4
      clear hHeld
      refine hK.out _ _ ?_ (fun hHeld => ?_)
      · (try dsimp only)
        first | exact SK.out _ (by assumption) | exact SK.out _ BD
      clear hK K
      (try simp only [Act.put, List.setIfInBounds_toArray, List.set_cons_zero, List.set_cons_succ])
      refine wpAnyH_ready (rs := [13]) (by kernel_rfl) (by simp) ?_
      refine AllReadyH.cons (o := { dst := some 38, op := Op.call { callee := Callee.value (Operand.func 69), args := #[Operand.tmp 37, Operand.const (Value.string { data := #[99, 108, 97, 115, 115] })], argTypes := #[29, 9] }, type := 4, pos := "l05_schema.go:74", after := #[{ on := 12, ground := Ground.data }, { on := 12, ground := Ground.chain }, { on := 10, ground := Ground.guard }], guard := some (10, false) }) rfl (fun K hK => ?_) (AllReadyH.nil)
      go_simp
      refine (D6.out m12 yo yc d12 sy).mono ?_
      rintro e m13 ⟨rfl, d13⟩
      clear d12 sy
      clear hHeld
      refine hK.out _ _ ?_ (fun hHeld => ?_)
      · (try dsimp only)
        first | exact SK.out _ (by assumption) | exact SK.out _ BD
      clear hK K
      (try simp only [Act.put, List.setIfInBounds_toArray, List.set_cons_zero, List.set_cons_succ])
      refine wpAnyH_take (i := 14) (oi := { dst := some 39, op := Op.pick (Operand.tmp 35) (Operand.const (Value.bool true)) (Operand.tmp 38), type := 4, pos := "l05_schema.go:74", after := #[{ on := 10, ground := Ground.data }, { on := 13, ground := Ground.data }], guard := none }) (v := ?_) rfl (by kernel_rfl) (by kernel_rfl) (by kernel_rfl) (fun _ _ _ h => h) (Or.inl ⟨by rfl, ?_⟩) (by assumption) ?_
      rotate_left
      · intro w hSw; (try dsimp only at hSw); go_simp; (try with_reducible rfl)
      (try simp only [Act.put, List.setIfInBounds_toArray, List.set_cons_zero, List.set_cons_succ])
      refine wpAnyH_done (by kernel_rfl) ?_ _
      clear hHeld
      go_wp2
      go_ret
      exact ⟨ret_bool (by rw [HE.out]; simp), HB4.out.trans (d13.mono HB4.out.size)⟩
end Go.Proofs.Ytmimobniihekiaa
/- SchemaRight: what the program returns for a whole schema. -/
namespace Go.Proofs.Ytmimobniihekiaa
open Go.RowKit
attribute [local go_sem ↓] Go.wp_at_zero Go.wp_at_succ

set_option maxRecDepth 100000 in
set_option maxHeartbeats 1000000 in
theorem SchemaRight_any (ao : Option Addr) (l : List ClassV) (cap : Nat) (w : World) (hd : ClassesAt w ao l) (hf : FitsC l) :
    Calls Try.prog 22 #[.slice ao l.length cap] w fun e w' => e = .returned (.bool (schemaB l)) ∧ Below w.heap.size w w' := by
  have hl := hf.1
  have HD := Lib.hid hd; have HF := Lib.hid hf; clear hd hf
  by_cases h6 : 6 < l.length
  · have HV : Hid (schemaB l = false) := Lib.hid (by unfold schemaB; rw [decide_eq_false (by omega)]; rfl)
    have g6 : 6 < (l.length : Int) := by omega
    go_enter Try.func22, Try.ntmps22
    go_wp2
    go_ret
    exact ⟨ret_bool HV.out.symm, Below.refl _ _⟩
  · have HV : Hid (schemaB l = (l.all classB && incB clsLt l)) := Lib.hid (by unfold schemaB; rw [decide_eq_true (by omega)]; rfl)
    have g6 : ¬ 6 < (l.length : Int) := by omega
    go_enter Try.func22, Try.ntmps22
    go_wp2
    go_loopw [10] (fun i wr => ∃ k : Nat, k ≤ l.length ∧ i = .int .i64 k ∧ (l.take k).all classB = true ∧ Below w.heap.size w wr) (fun i _ => l.length - (intOf i).toNat)
    case atStart => exact ⟨0, Nat.zero_le _, rfl, rfl, Below.refl _ _⟩
    case round =>
      obtain ⟨k, hk, rfl, ha, hbel⟩ := hrel
      have Ha := Lib.hid ha; clear ha
      have hsz := hbel.size
      by_cases hlt : k < l.length
      · obtain ⟨b, off, v1, v2, v3, rfl, hb0, hc⟩ := (HD.out.below hbel).at hlt
        obtain ⟨hc0, hc1, hc2, hc3, s1, s2, s3⟩ := hc
        have HT : Hid (classB l[k] = true → (l.take (k + 1)).all classB = true) := Lib.hid (fun h => by rw [all_take classB l k hlt, Ha.out, h]; rfl)
        have HX : Hid (classB l[k] = false → schemaB l = false) := Lib.hid (fun h => schemaB_bad hlt h)
        have HZ := Lib.hid (HF.out.at hlt)
        generalize l[k] = A at *
        have CC : Hid (∀ W : World, Below wr.heap.size wr W → Calls Try.prog 46 #[.agg #[.string A.nm, v1, v2, v3]] W fun e w' => e = .returned (.bool (classB A)) ∧ Below w.heap.size w w') := Lib.hid (fun W h => (classRight_any A v1 v2 v3 W (s1.below h) (s2.below h) (s3.below h) HZ.out).mono fun e w' ⟨p, q⟩ => ⟨p, hbel.trans ((h.trans (q.mono h.size)).mono hsz)⟩)
        have i1 := s1.sl; have i2 := s2.sl; have i3 := s3.sl
        obtain ⟨_, _, _, rfl⟩ := i1
        obtain ⟨_, _, _, rfl⟩ := i2
        obtain ⟨_, _, _, rfl⟩ := i3
        clear s1 s2 s3
        have HB0 := Lib.hid (Below.refl wr.heap.size wr)
        go_wp2_with fail
        refine (CC.out _ (by first | exact HB0.out | exact more HB0.out _)).mono ?_
        rintro e w1 ⟨rfl, hb1⟩
        cases hr : classB A
        · have HX' := Lib.hid (HX.out hr)
          go_wp2
          go_ret
          exact ⟨ret_bool (by rw [HX'.out]), hb1⟩
        · have HT' := Lib.hid (HT.out hr)
          go_wp2
          go_roundw
          case rel => exact ⟨k + 1, by omega, by go_num, HT'.out, hb1⟩
          case measure => simp [intOf]; omega
      · have e : l.take k = l := List.take_of_length_le (by omega)
        have HT : Hid (schemaB l = incB clsLt l) := Lib.hid (by rw [HV.out, ← e, Ha.out, e]; rfl)
        clear e
        go_wp2_with fail
        refine (incClass_any ao l cap wr (HD.out.below hbel) hl).mono ?_
        rintro e w1 ⟨rfl, hb1⟩
        have B1 := Lib.hid (hbel.trans (hb1.mono hsz))
        generalize incB clsLt l = r at *
        go_wp2
        go_ret
        exact ⟨ret_bool (by rw [HT.out]), B1.out⟩
end Go.Proofs.Ytmimobniihekiaa
/- The helpers of the laws over classes: copies. -/
namespace Go.Proofs.Ytmimobniihekiaa
open Go.RowKit
attribute [local go_sem ↓] Go.wp_at_zero Go.wp_at_succ

theorem Try.infoClass : (Try.prog.info? 42).map (fun i => (i.zero, i.size, i.bytes)) = some (some (.agg #[.string ByteArray.empty, .slice none 0 0, .slice none 0 0, .slice none 0 0]), 4, 88) := by kernel_rfl
theorem makeCls (n : Nat) (hn : n ≤ 1048576) (W : World) : ∃ C : Array Value, C.size = n * 4 ∧
    (Instr.makeSlice 37 (.int .i64 (n : Int)) (.int .i64 (n : Int))).run Try.prog W = .ok (.slice (some ⟨W.heap.size, 0, none⟩) n n) (W.alloc (.cells C 42)) := by
  obtain ⟨i0, hi, hz0, hz1, hz2⟩ := info_parts Try.infoClass
  have := run_make (P := Try.prog) W 37 42 i0 _ Try.underlying37 hi hz0 .i64 .i64 (n : Int) (n : Int) (by omega) (by omega) (by rw [hz2]; omega) (by omega)
  rw [hz1] at this
  refine ⟨madeCells (Value.agg #[.string ByteArray.empty, .slice none 0 0, .slice none 0 0, .slice none 0 0]).cells (n * 4), size_madeCells _ _, ?_⟩
  simpa using this
/-- a copy of a class: its three rows in new blocks, lo to hi -/
structure CopyC1 (lo : Nat) (c : ClassV) (g1 g2 g3 : Nat) (w' : World) : Prop where
  l1 : lo ≤ g1
  l2 : g1 < g2
  l3 : g2 < g3
  l4 : g3 < w'.heap.size
  t1 : StrsAt w' (some ⟨g1, 0, none⟩) c.must
  t2 : StrsAt w' (some ⟨g2, 0, none⟩) c.may
  t3 : StrsAt w' (some ⟨g3, 0, none⟩) c.one
set_option maxRecDepth 100000 in
set_option maxHeartbeats 2000000 in
theorem toClass_any (c : ClassV) (v1 v2 v3 : Value) (w : World) (h1 : SlV w v1 c.must) (h2 : SlV w v2 c.may) (h3 : SlV w v3 c.one) (f : FitsC1 c) :
    Calls Try.prog 45 #[.agg #[.string c.nm, v1, v2, v3]] w fun e w' => ∃ g1 g2 g3, e = .returned (.agg #[.string c.nm, .slice (some ⟨g1, 0, none⟩) c.must.length c.must.length, .slice (some ⟨g2, 0, none⟩) c.may.length c.may.length, .slice (some ⟨g3, 0, none⟩) c.one.length c.one.length]) ∧ CopyC1 w.heap.size c g1 g2 g3 w' ∧ Below w.heap.size w w' := by
  have C1 : Hid (∀ W : World, Below w.heap.size w W → Calls Try.prog 65 #[v1] W fun e w' => ∃ v, e = .returned v ∧ CopyV W c.must v w') := Lib.hid (fun W b => by obtain ⟨vo, vc, rfl, h⟩ := h1; exact toStringS_any vo c.must vc W (h.1.below b) f.must.1)
  have C2 : Hid (∀ W : World, Below w.heap.size w W → Calls Try.prog 65 #[v2] W fun e w' => ∃ v, e = .returned v ∧ CopyV W c.may v w') := Lib.hid (fun W b => by obtain ⟨vo, vc, rfl, h⟩ := h2; exact toStringS_any vo c.may vc W (h.1.below b) f.may.1)
  have C3 : Hid (∀ W : World, Below w.heap.size w W → Calls Try.prog 65 #[v3] W fun e w' => ∃ v, e = .returned v ∧ CopyV W c.one v w') := Lib.hid (fun W b => by obtain ⟨vo, vc, rfl, h⟩ := h3; exact toStringS_any vo c.one vc W (h.1.below b) f.one.1)
  obtain ⟨o1, k1, rfl, _⟩ := h1
  obtain ⟨o2, k2, rfl, _⟩ := h2
  obtain ⟨o3, k3, rfl, _⟩ := h3
  clear f
  go_enter Try.func45, Try.ntmps45
  go_wp2_with fail
  refine calls_any' (fun W => Below w.heap.size w W ∧ Quad W w.heap.size 66 (.string c.nm) (.slice o1 c.must.length k1) (.slice o2 c.may.length k2) (.slice o3 c.one.length k3) ∧ Quad W (w.heap.size + 1) 42 (.string ⟨#[]⟩) (.slice none 0 0) (.slice none 0 0) (.slice none 0 0) ∧ Quad W (w.heap.size + 1 + 1) 42 (.string c.nm) (.slice none 0 0) (.slice none 0 0) (.slice none 0 0)) ⟨more (more (more (Below.refl _ _) _) _) _, ?_, ?_, ?_⟩ ?_
  · exact ((quadNew _ _ _ _ _ _).alloc _).alloc _
  · exact Quad.alloc (by have := quadNew (w.alloc (Obj.cells #[.string c.nm, .slice o1 c.must.length k1, .slice o2 c.may.length k2, .slice o3 c.one.length k3] 66)) 42 (.string ⟨#[]⟩) (.slice none 0 0) (.slice none 0 0) (.slice none 0 0); simpa using this) _
  · have := quadNew ((w.alloc (Obj.cells #[.string c.nm, .slice o1 c.must.length k1, .slice o2 c.may.length k2, .slice o3 c.one.length k3] 66)).alloc (Obj.cells #[.string ⟨#[]⟩, .slice none 0 0, .slice none 0 0, .slice none 0 0] 42)) 42 (.string c.nm) (.slice none 0 0) (.slice none 0 0) (.slice none 0 0); simpa using this
  rintro W1 ⟨b1, a1, r1, u1⟩
  have hz := u1.lt
  refine (C1.out W1 b1).mono ?_
  rintro e w2 ⟨v, rfl, g1, rfl, hg1, hg1', st1, hb2⟩
  have A2 := Lib.hid (a1.below hb2); have R2 := Lib.hid (r1.below hb2); have U2 := Lib.hid (u1.below hb2); have S1 := Lib.hid st1; have B2 := Lib.hid (b1.trans (hb2.mono b1.size))
  clear a1 r1 u1 st1 hb2 b1 C1
  obtain ⟨p0, p1, p2, p3⟩ := A2.out.cells
  obtain ⟨q0, q1, q2, q3⟩ := U2.out.cells
  obtain ⟨s0, s1, s2, s3⟩ := U2.out.soft
  go_wp2_with fail
  refine calls_any' (fun W => Below w.heap.size w W ∧ Quad W w.heap.size 66 (.string c.nm) (.slice o1 c.must.length k1) (.slice o2 c.may.length k2) (.slice o3 c.one.length k3) ∧ Quad W (w.heap.size + 1) 42 (.string ⟨#[]⟩) (.slice none 0 0) (.slice none 0 0) (.slice none 0 0) ∧ Quad W (w.heap.size + 1 + 1) 42 (.string c.nm) (.slice (some ⟨g1, 0, none⟩) c.must.length c.must.length) (.slice none 0 0) (.slice none 0 0) ∧ StrsAt W (some ⟨g1, 0, none⟩) c.must ∧ g1 < W.heap.size) ⟨B2.out.setCell (p := ⟨w.heap.size + 1 + 1, 1, none⟩) (by show w.heap.size ≤ w.heap.size + 1 + 1; omega) _, A2.out.far (by omega) _, R2.out.far (by omega) _, U2.out.set1 _, S1.out.set (by omega) _, (by simpa [World.setCell] using hg1')⟩ ?_
  clear A2 R2 U2 S1 B2 p0 p1 p2 p3 q0 q1 q2 q3 s0 s1 s2 s3 hg1'
  rintro W3 ⟨b1, a1, r1, u1, st1, hg1'⟩
  refine (C2.out W3 b1).mono ?_
  rintro e w4 ⟨v, rfl, g2, rfl, hg2, hg2', st2, hb2⟩
  have A2 := Lib.hid (a1.below hb2); have R2 := Lib.hid (r1.below hb2); have U2 := Lib.hid (u1.below hb2); have S1 := Lib.hid (st1.below hb2); have S2 := Lib.hid st2; have B2 := Lib.hid (b1.trans (hb2.mono b1.size))
  clear a1 r1 u1 st1 st2 hb2 b1 C2
  obtain ⟨p0, p1, p2, p3⟩ := A2.out.cells
  obtain ⟨q0, q1, q2, q3⟩ := U2.out.cells
  obtain ⟨s0, s1, s2, s3⟩ := U2.out.soft
  go_wp2_with fail
  refine calls_any' (fun W => Below w.heap.size w W ∧ Quad W w.heap.size 66 (.string c.nm) (.slice o1 c.must.length k1) (.slice o2 c.may.length k2) (.slice o3 c.one.length k3) ∧ Quad W (w.heap.size + 1) 42 (.string ⟨#[]⟩) (.slice none 0 0) (.slice none 0 0) (.slice none 0 0) ∧ Quad W (w.heap.size + 1 + 1) 42 (.string c.nm) (.slice (some ⟨g1, 0, none⟩) c.must.length c.must.length) (.slice (some ⟨g2, 0, none⟩) c.may.length c.may.length) (.slice none 0 0) ∧ StrsAt W (some ⟨g1, 0, none⟩) c.must ∧ StrsAt W (some ⟨g2, 0, none⟩) c.may ∧ g2 < W.heap.size) ⟨B2.out.setCell (p := ⟨w.heap.size + 1 + 1, 2, none⟩) (by show w.heap.size ≤ w.heap.size + 1 + 1; omega) _, A2.out.far (by omega) _, R2.out.far (by omega) _, U2.out.set2 _, S1.out.set (by omega) _, S2.out.set (by omega) _, (by simpa [World.setCell] using hg2')⟩ ?_
  clear A2 R2 U2 S1 S2 B2 p0 p1 p2 p3 q0 q1 q2 q3 s0 s1 s2 s3 hg2'
  rintro W5 ⟨b1, a1, r1, u1, st1, st2, hg2'⟩
  refine (C3.out W5 b1).mono ?_
  rintro e w6 ⟨v, rfl, g3, rfl, hg3, hg3', st3, hb2⟩
  have R2 := Lib.hid (r1.below hb2); have U2 := Lib.hid (u1.below hb2); have S1 := Lib.hid (st1.below hb2); have S2 := Lib.hid (st2.below hb2); have S3 := Lib.hid st3; have B2 := Lib.hid (b1.trans (hb2.mono b1.size))
  clear a1 r1 u1 st1 st2 st3 hb2 b1 C3
  obtain ⟨q0, q1, q2, q3⟩ := U2.out.cells
  obtain ⟨s0, s1, s2, s3⟩ := U2.out.soft
  have TE := ((((R2.out.far (R := w.heap.size + 1 + 1) (j := 3) (by omega) (.slice (some ⟨g3, 0, none⟩) c.one.length c.one.length)).set0 (.string c.nm)).set1 (.slice (some ⟨g1, 0, none⟩) c.must.length c.must.length)).set2 (.slice (some ⟨g2, 0, none⟩) c.may.length c.may.length)).set3 (.slice (some ⟨g3, 0, none⟩) c.one.length c.one.length)
  obtain ⟨j0, j1, j2, j3⟩ := TE.cells
  obtain ⟨d0, d1, d2, d3⟩ := R2.out.cells
  obtain ⟨e0, e1, e2, e3⟩ := R2.out.soft
  clear TE
  go_wp2_with fail
  refine bodyPost_ret (v := .agg #[.string c.nm, .slice (some ⟨g1, 0, none⟩) c.must.length c.must.length, .slice (some ⟨g2, 0, none⟩) c.may.length c.may.length, .slice (some ⟨g3, 0, none⟩) c.one.length c.one.length]) (by simp [results, Try.results45, go_sem, j0, j1, j2, j3]) rfl ⟨g1, g2, g3, rfl, ⟨by omega, by omega, by omega, ?_, ?_, ?_, ?_⟩, ?_⟩
  · simpa [World.setCell] using hg3'
  · exact ((((S1.out.set (by omega) _).set (by omega) _).set (by omega) _).set (by omega) _).set (by omega) _
  · exact ((((S2.out.set (by omega) _).set (by omega) _).set (by omega) _).set (by omega) _).set (by omega) _
  · exact ((((S3.out.set (by omega) _).set (by omega) _).set (by omega) _).set (by omega) _).set (by omega) _
  · exact ((((B2.out.setCell (p := ⟨w.heap.size + 1 + 1, 3, none⟩) (by show w.heap.size ≤ w.heap.size + 1 + 1; omega) _).setCell (p := ⟨w.heap.size + 1, 0, none⟩) (by show w.heap.size ≤ w.heap.size + 1; omega) _).setCell (p := ⟨w.heap.size + 1, 1, none⟩) (by show w.heap.size ≤ w.heap.size + 1; omega) _).setCell (p := ⟨w.heap.size + 1, 2, none⟩) (by show w.heap.size ≤ w.heap.size + 1; omega) _).setCell (p := ⟨w.heap.size + 1, 3, none⟩) (by show w.heap.size ≤ w.heap.size + 1; omega) _
/-- a block of classes, the first of them known; their rows lie in later blocks -/
def RowC (w : World) (g n : Nat) (l : List ClassV) : Prop := ∃ C : Array Value, w.heap[g]? = some (.cells C 42 (0, 0)) ∧ C.size = n * 4 ∧
  ∀ i (h : i < l.length), ∃ b1 b2 b3, C[i * 4]? = some (.string l[i].nm) ∧ C[i * 4 + 1]? = some (.slice (some ⟨b1, 0, none⟩) l[i].must.length l[i].must.length) ∧ C[i * 4 + 2]? = some (.slice (some ⟨b2, 0, none⟩) l[i].may.length l[i].may.length) ∧ C[i * 4 + 3]? = some (.slice (some ⟨b3, 0, none⟩) l[i].one.length l[i].one.length) ∧ g < b1 ∧ g < b2 ∧ g < b3 ∧ StrsAt w (some ⟨b1, 0, none⟩) l[i].must ∧ StrsAt w (some ⟨b2, 0, none⟩) l[i].may ∧ StrsAt w (some ⟨b3, 0, none⟩) l[i].one
theorem RowC.lt {w : World} {g n : Nat} {l : List ClassV} (h : RowC w g n l) : g < w.heap.size := by obtain ⟨C, h1, _⟩ := h; exact (Array.getElem?_eq_some_iff.1 h1).1
theorem RowC.below {w w' : World} {g n : Nat} {l : List ClassV} (h : RowC w g n l) (hb : Below w.heap.size w w') : RowC w' g n l := by
  obtain ⟨C, h1, h2, h3⟩ := h
  refine ⟨C, (hb.block g (Array.getElem?_eq_some_iff.1 h1).1).trans h1, h2, fun i hi => ?_⟩
  obtain ⟨b1, b2, b3, c0, c1, c2, c3, l1, l2, l3, s1, s2, s3⟩ := h3 i hi
  exact ⟨b1, b2, b3, c0, c1, c2, c3, l1, l2, l3, s1.below hb, s2.below hb, s3.below hb⟩
theorem RowC.at {w : World} {g n k : Nat} {l : List ClassV} (h : RowC w g n l) (hk : k < n) :
    (∃ x0 x1 x2 x3, w.cell? ⟨g, k * 4, none⟩ = some x0 ∧ w.cell? ⟨g, k * 4 + 1, none⟩ = some x1 ∧ w.cell? ⟨g, k * 4 + 2, none⟩ = some x2 ∧ w.cell? ⟨g, k * 4 + 3, none⟩ = some x3) ∧ w.frozen? ⟨g, k * 4, none⟩ = false ∧ w.frozen? ⟨g, k * 4 + 1, none⟩ = false ∧ w.frozen? ⟨g, k * 4 + 2, none⟩ = false ∧ w.frozen? ⟨g, k * 4 + 3, none⟩ = false := by
  obtain ⟨C, h1, h2, _⟩ := h
  refine ⟨⟨C[k * 4]'(by omega), C[k * 4 + 1]'(by omega), C[k * 4 + 2]'(by omega), C[k * 4 + 3]'(by omega), ?_, ?_, ?_, ?_⟩, ?_, ?_, ?_, ?_⟩
  iterate 4
    · rw [cell_of_row w g _ C 42 (0, 0) h1]; exact Array.getElem?_eq_getElem (by omega)
  all_goals simp [World.frozen?, h1]
theorem RowC.set {w : World} {g n k b1 b2 b3 : Nat} {l : List ClassV} {A : ClassV} (h : RowC w g n l) (hl : l.length = k) (hk : k < n) (h1 : g < b1) (h2 : g < b2) (h3 : g < b3) (s1 : StrsAt w (some ⟨b1, 0, none⟩) A.must) (s2 : StrsAt w (some ⟨b2, 0, none⟩) A.may) (s3 : StrsAt w (some ⟨b3, 0, none⟩) A.one) :
    RowC ((((w.setCell ⟨g, k * 4, none⟩ (.string A.nm)).setCell ⟨g, k * 4 + 1, none⟩ (.slice (some ⟨b1, 0, none⟩) A.must.length A.must.length)).setCell ⟨g, k * 4 + 2, none⟩ (.slice (some ⟨b2, 0, none⟩) A.may.length A.may.length)).setCell ⟨g, k * 4 + 3, none⟩ (.slice (some ⟨b3, 0, none⟩) A.one.length A.one.length)) g n (l ++ [A]) := by
  obtain ⟨C, e1, e2, e3⟩ := h
  refine ⟨_, heap_set _ (heap_set _ (heap_set _ (heap_set _ e1))), by simp [e2], fun i hi => ?_⟩
  simp only [Array.getElem?_setIfInBounds, Array.size_setIfInBounds]
  by_cases e : i = k
  · subst e
    have hL : (l ++ [A])[i] = A := by rw [List.getElem_append_right (by omega)]; simp
    rw [hL]
    refine ⟨b1, b2, b3, ?_, ?_, ?_, ?_, h1, h2, h3, (((s1.set (by omega) _).set (by omega) _).set (by omega) _).set (by omega) _, (((s2.set (by omega) _).set (by omega) _).set (by omega) _).set (by omega) _, (((s3.set (by omega) _).set (by omega) _).set (by omega) _).set (by omega) _⟩
    · rw [if_neg (by omega), if_neg (by omega), if_neg (by omega), if_pos rfl, if_pos (by omega)]
    · rw [if_neg (by omega), if_neg (by omega), if_pos rfl, if_pos (by omega)]
    · rw [if_neg (by omega), if_pos rfl, if_pos (by omega)]
    · rw [if_pos rfl, if_pos (by omega)]
  · have hi' : i < l.length := by simp at hi; omega
    rw [List.getElem_append_left hi']
    obtain ⟨b1, b2, b3, c0, c1, c2, c3, l1, l2, l3, s1, s2, s3⟩ := e3 i hi'
    refine ⟨b1, b2, b3, ?_, ?_, ?_, ?_, l1, l2, l3, (((s1.set (by omega) _).set (by omega) _).set (by omega) _).set (by omega) _, (((s2.set (by omega) _).set (by omega) _).set (by omega) _).set (by omega) _, (((s3.set (by omega) _).set (by omega) _).set (by omega) _).set (by omega) _⟩
    iterate 4
      · rw [if_neg (by omega), if_neg (by omega), if_neg (by omega), if_neg (by omega)]; assumption
theorem RowC.classes {w : World} {g n : Nat} {l : List ClassV} (h : RowC w g n l) : ClassesAt w (some ⟨g, 0, none⟩) l := by
  obtain ⟨C, h1, h2, h3⟩ := h
  refine .inr ⟨g, 0, rfl, (Array.getElem?_eq_some_iff.1 h1).1, fun i hi => ?_⟩
  obtain ⟨b1, b2, b3, c0, c1, c2, c3, l1, l2, l3, s1, s2, s3⟩ := h3 i hi
  refine ⟨_, _, _, ?_, ?_, ?_, ?_, ⟨_, _, rfl, s1, Nat.le_refl _, fun e => by cases e⟩, ⟨_, _, rfl, s2, Nat.le_refl _, fun e => by cases e⟩, ⟨_, _, rfl, s3, Nat.le_refl _, fun e => by cases e⟩⟩
  all_goals (rw [cell_of_row w g _ C 42 (0, 0) h1, Nat.zero_add]; assumption)
/-- a copy of classes, in new blocks -/
def CopyCs (w : World) (l : List ClassV) (v : Value) (w' : World) : Prop := ∃ g, v = .slice (some ⟨g, 0, none⟩) l.length l.length ∧ w.heap.size ≤ g ∧ RowC w' g l.length l ∧ Below w.heap.size w w'
set_option maxRecDepth 100000 in
set_option maxHeartbeats 1000000 in
theorem toClassS_any (ao : Option Addr) (d : List ClassV) (cap : Nat) (w : World) (hd : ClassesAt w ao d) (hf : FitsC d) :
    Calls Try.prog 21 #[.slice ao d.length cap] w fun e w' => ∃ v, e = .returned v ∧ CopyCs w d v w' := by
  have hl := hf.1
  have HD := Lib.hid hd; have HF := Lib.hid hf; clear hd hf
  obtain ⟨C, hC, hmk⟩ := makeCls d.length hl w
  have HC := Lib.hid hC; clear hC
  go_enter Try.func21, Try.ntmps21
  go_wp2
  clear hmk
  go_loopw [4] (fun i wr => ∃ k : Nat, k ≤ d.length ∧ i = .int .i64 k ∧ RowC wr w.heap.size d.length (d.take k) ∧ Below w.heap.size w wr) (fun i _ => d.length - (intOf i).toNat)
  case atStart => exact ⟨0, Nat.zero_le _, rfl, ⟨C, heap_alloc_new w _, HC.out, fun i h => by simp at h⟩, (Below.refl _ _).alloc (Nat.le_refl _) _⟩
  case round =>
    obtain ⟨k, hk, rfl, hR, hbel⟩ := hrel
    have HR := Lib.hid hR; clear hR
    have hsz := hbel.size
    by_cases hlt : k < d.length
    · obtain ⟨b, off, v1, v2, v3, rfl, hb0, hc⟩ := (HD.out.below hbel).at hlt
      obtain ⟨hc0, hc1, hc2, hc3, s1, s2, s3⟩ := hc
      have HV := Lib.hid (And.intro s1 (And.intro s2 s3)); clear s1 s2 s3
      have HZ := Lib.hid (HF.out.at hlt)
      have HT : Hid (d.take (k + 1) = d.take k ++ [d[k]]) := Lib.hid (List.take_succ_eq_append_getElem hlt)
      have HK : Hid ((d.take k).length = k) := Lib.hid (by rw [List.length_take]; omega)
      have hgw : w.heap.size < wr.heap.size := HR.out.lt
      generalize d[k] = A at *
      go_wp2_with fail
      refine (toClass_any A v1 v2 v3 wr HV.out.1 HV.out.2.1 HV.out.2.2 HZ.out).mono ?_
      rintro e w2 ⟨g1, g2, g3, rfl, hcp, hb2⟩
      have HR2 := Lib.hid (HR.out.below hb2)
      have B2 := Lib.hid (hbel.trans (hb2.mono hsz))
      have HCp := Lib.hid hcp
      have i1 := hcp.l1; have i2 := hcp.l2; have i3 := hcp.l3
      clear hb2 hc0 hc1 hc2 hc3 hcp HR
      obtain ⟨⟨x0, x1, x2, x3, c0, c1, c2, c3⟩, f0, f1, f2, f3⟩ := HR2.out.at hlt
      go_wp2
      go_roundw
      case rel => exact ⟨k + 1, by omega, by go_num, by rw [HT.out]; exact HR2.out.set HK.out hlt (by omega) (by omega) (by omega) HCp.out.t1 HCp.out.t2 HCp.out.t3, (((B2.out.setCell (Nat.le_refl _) _).setCell (Nat.le_refl _) _).setCell (Nat.le_refl _) _).setCell (Nat.le_refl _) _⟩
      case measure => simp [intOf]; omega
    · have e : d.take k = d := List.take_of_length_le (by omega)
      rw [e] at HR
      clear e
      go_wp2
      go_ret
      exact ⟨_, rfl, w.heap.size, rfl, Nat.le_refl _, HR.out, hbel⟩
end Go.Proofs.Ytmimobniihekiaa
/- The helpers of the laws over classes: comparisons; arguments that are classes. -/
namespace Go.Proofs.Ytmimobniihekiaa
open Go.RowKit
attribute [local go_sem ↓] Go.wp_at_zero Go.wp_at_succ

set_option maxRecDepth 100000 in
set_option maxHeartbeats 2000000 in
theorem eqClass_same (w0 : World) (c : ClassV) (v1 v2 v3 u1 u2 u3 : Value) (w : World) (hB : Below w0.heap.size w0 w) (h1 : SlV w0 v1 c.must) (h2 : SlV w0 v2 c.may) (h3 : SlV w0 v3 c.one) (j1 : SlV w0 u1 c.must) (j2 : SlV w0 u2 c.may) (j3 : SlV w0 u3 c.one) (f : FitsC1 c) :
    Calls Try.prog 26 #[.agg #[.string c.nm, v1, v2, v3], .agg #[.string c.nm, u1, u2, u3]] w fun e w' => e = .returned (.bool true) ∧ Below w0.heap.size w0 w' := by
  have C1 : Hid (∀ W : World, Below w0.heap.size w0 W → Calls Try.prog 15 #[v1, u1] W fun e w' => e = .returned (.bool true) ∧ Below W.heap.size W w') := Lib.hid (fun W b => by obtain ⟨vo, vc, rfl, h⟩ := h1; obtain ⟨uo, uc, rfl, h'⟩ := j1; exact eqStringS_same vo uo c.must vc uc W (h.1.below b) (h'.1.below b) f.must.1)
  have C2 : Hid (∀ W : World, Below w0.heap.size w0 W → Calls Try.prog 15 #[v2, u2] W fun e w' => e = .returned (.bool true) ∧ Below W.heap.size W w') := Lib.hid (fun W b => by obtain ⟨vo, vc, rfl, h⟩ := h2; obtain ⟨uo, uc, rfl, h'⟩ := j2; exact eqStringS_same vo uo c.may vc uc W (h.1.below b) (h'.1.below b) f.may.1)
  have C3 : Hid (∀ W : World, Below w0.heap.size w0 W → Calls Try.prog 15 #[v3, u3] W fun e w' => e = .returned (.bool true) ∧ Below W.heap.size W w') := Lib.hid (fun W b => by obtain ⟨vo, vc, rfl, h⟩ := h3; obtain ⟨uo, uc, rfl, h'⟩ := j3; exact eqStringS_same vo uo c.one vc uc W (h.1.below b) (h'.1.below b) f.one.1)
  obtain ⟨p1, pc1, rfl, _⟩ := h1
  obtain ⟨p2, pc2, rfl, _⟩ := h2
  obtain ⟨p3, pc3, rfl, _⟩ := h3
  obtain ⟨q1, qc1, rfl, _⟩ := j1
  obtain ⟨q2, qc2, rfl, _⟩ := j2
  obtain ⟨q3, qc3, rfl, _⟩ := j3
  have HB := Lib.hid hB
  clear f hB
  have hkk : (c.nm.toList == c.nm.toList) = true := by simp
  go_enter Try.func26, Try.ntmps26
  go_wp2_with fail
  refine calls_any' (fun W => Below w0.heap.size w0 W ∧ Quad W w.heap.size 42 (.string c.nm) (.slice p1 c.must.length pc1) (.slice p2 c.may.length pc2) (.slice p3 c.one.length pc3) ∧ Quad W (w.heap.size + 1) 42 (.string c.nm) (.slice q1 c.must.length qc1) (.slice q2 c.may.length qc2) (.slice q3 c.one.length qc3)) ⟨more (more HB.out _) _, (quadNew _ _ _ _ _ _).alloc _, (by have := quadNew (w.alloc (Obj.cells #[.string c.nm, .slice p1 c.must.length pc1, .slice p2 c.may.length pc2, .slice p3 c.one.length pc3] 42)) 42 (.string c.nm) (.slice q1 c.must.length qc1) (.slice q2 c.may.length qc2) (.slice q3 c.one.length qc3); simpa using this)⟩ ?_
  rintro W1 ⟨b1, x1, y1⟩
  refine (C1.out W1 b1).mono ?_
  rintro e w2 ⟨rfl, hb2⟩
  have X2 := Lib.hid (x1.below hb2); have Y2 := Lib.hid (y1.below hb2); have b2 := b1.trans (hb2.mono b1.size)
  clear x1 y1 hb2 b1 C1
  obtain ⟨m0, m1, m2, m3⟩ := X2.out.cells
  obtain ⟨n0, n1, n2, n3⟩ := Y2.out.cells
  go_wp2_with fail
  refine (C2.out w2 b2).mono ?_
  rintro e w3 ⟨rfl, hb3⟩
  have X3 := Lib.hid (X2.out.below hb3); have Y3 := Lib.hid (Y2.out.below hb3); have b3 := b2.trans (hb3.mono b2.size)
  clear X2 Y2 hb3 b2 C2 m0 m1 m2 m3 n0 n1 n2 n3
  obtain ⟨m0, m1, m2, m3⟩ := X3.out.cells
  obtain ⟨n0, n1, n2, n3⟩ := Y3.out.cells
  go_wp2_with fail
  refine (C3.out w3 b3).mono ?_
  rintro e w4 ⟨rfl, hb4⟩
  have b4 := b3.trans (hb4.mono b3.size)
  clear X3 Y3 hb4 b3 C3 m0 m1 m2 m3 n0 n1 n2 n3
  go_wp2
  go_ret
  exact ⟨rfl, b4⟩
set_option maxRecDepth 100000 in
set_option maxHeartbeats 2000000 in
theorem eqClassS_same (ao bo : Option Addr) (d : List ClassV) (ca cb : Nat) (w : World) (hda : ClassesAt w ao d) (hdb : ClassesAt w bo d) (hf : FitsC d) :
    Calls Try.prog 23 #[.slice ao d.length ca, .slice bo d.length cb] w fun e w' => e = .returned (.bool true) ∧ Below w.heap.size w w' := by
  have hl := hf.1
  have HA := Lib.hid hda; have HB := Lib.hid hdb; have HF := Lib.hid hf; clear hda hdb hf
  go_enter Try.func23, Try.ntmps23
  go_wp2
  go_loopw [5] (fun i wr => ∃ k : Nat, k ≤ d.length ∧ i = .int .i64 k ∧ Below w.heap.size w wr) (fun i _ => d.length - (intOf i).toNat)
  case atStart => exact ⟨0, Nat.zero_le _, rfl, Below.refl _ _⟩
  case round =>
    obtain ⟨k, hk, rfl, hbel⟩ := hrel
    have hsz := hbel.size
    by_cases hlt : k < d.length
    · obtain ⟨p, off, v1, v2, v3, rfl, hp0, hc⟩ := HA.out.at hlt
      obtain ⟨q, off', u1, u2, u3, rfl, hq0, hd'⟩ := HB.out.at hlt
      obtain ⟨c0, c1, c2, c3, s1, s2, s3⟩ := hc
      obtain ⟨d0, d1, d2, d3, t1, t2, t3⟩ := hd'
      have HZ := Lib.hid (HF.out.at hlt)
      generalize d[k] = A at *
      have C : Hid (∀ W : World, Below w.heap.size w W → Calls Try.prog 26 #[.agg #[.string A.nm, v1, v2, v3], .agg #[.string A.nm, u1, u2, u3]] W fun e w' => e = .returned (.bool true) ∧ Below w.heap.size w w') := Lib.hid (fun W b => eqClass_same w A v1 v2 v3 u1 u2 u3 W b s1 s2 s3 t1 t2 t3 HZ.out)
      clear s1 s2 s3 t1 t2 t3 HZ
      have SK : Hid (∀ W : World, Below w.heap.size w W → (Below w.heap.size w W ∧ (W.cell? ⟨p, off + k * 4, none⟩ = some (.string A.nm) ∧ W.cell? ⟨p, off + k * 4 + 1, none⟩ = some v1 ∧ W.cell? ⟨p, off + k * 4 + 2, none⟩ = some v2 ∧ W.cell? ⟨p, off + k * 4 + 3, none⟩ = some v3) ∧ (W.cell? ⟨q, off' + k * 4, none⟩ = some (.string A.nm) ∧ W.cell? ⟨q, off' + k * 4 + 1, none⟩ = some u1 ∧ W.cell? ⟨q, off' + k * 4 + 2, none⟩ = some u2 ∧ W.cell? ⟨q, off' + k * 4 + 3, none⟩ = some u3))) :=
        Lib.hid (fun W h => ⟨h, ⟨(h.cell (p := ⟨p, _, none⟩) hp0).trans c0, (h.cell (p := ⟨p, _, none⟩) hp0).trans c1, (h.cell (p := ⟨p, _, none⟩) hp0).trans c2, (h.cell (p := ⟨p, _, none⟩) hp0).trans c3⟩, ⟨(h.cell (p := ⟨q, _, none⟩) hq0).trans d0, (h.cell (p := ⟨q, _, none⟩) hq0).trans d1, (h.cell (p := ⟨q, _, none⟩) hq0).trans d2, (h.cell (p := ⟨q, _, none⟩) hq0).trans d3⟩⟩)
      have hbd := hbel.drew
      clear c0 c1 c2 c3 d0 d1 d2 d3
      have g1 : (0 : Int) ≤ (k : Int) := by omega
      have g2 : (k : Int) < (d.length : Int) := by omega
      go_wp2_with fail
      go_region_held3 (fun W => Below w.heap.size w W ∧ (W.cell? ⟨p, off + k * 4, none⟩ = some (.string A.nm) ∧ W.cell? ⟨p, off + k * 4 + 1, none⟩ = some v1 ∧ W.cell? ⟨p, off + k * 4 + 2, none⟩ = some v2 ∧ W.cell? ⟨p, off + k * 4 + 3, none⟩ = some v3) ∧ (W.cell? ⟨q, off' + k * 4, none⟩ = some (.string A.nm) ∧ W.cell? ⟨q, off' + k * 4 + 1, none⟩ = some u1 ∧ W.cell? ⟨q, off' + k * 4 + 2, none⟩ = some u2 ∧ W.cell? ⟨q, off' + k * 4 + 3, none⟩ = some u3))
        (exact SK.out _ (by assumption))
        (first | (go_at_call 26; refine (C.out _ (by assumption)).mono ?_; rintro e w2 ⟨rfl, hb2⟩) | (fail "none"))
      all_goals
        go_wp2
        go_roundw
        case rel => exact ⟨k + 1, by omega, by go_num, hb2⟩
        case measure => simp [intOf]; omega
    · go_wp2
      go_ret
      exact ⟨rfl, hbel⟩
end Go.Proofs.Ytmimobniihekiaa
/- Arguments that are classes: where they lie. -/
namespace Go.Proofs.Ytmimobniihekiaa
open Go.RowKit Go.ChangeShapes Go.WideShapes Go.Joins Go.Deep

theorem Try.structCls : ∃ f0 f1 f2 f3 : Field, Try.prog.underlying 66 = some (.struct #[f0, f1, f2, f3]) ∧ (f0.offset = 0 ∧ f1.offset = 1 ∧ f2.offset = 2 ∧ f3.offset = 3) ∧ (Try.prog.underlying f0.type = some .string ∧ Try.prog.underlying f1.type = some (.slice 9) ∧ Try.prog.underlying f2.type = some (.slice 9) ∧ Try.prog.underlying f3.type = some (.slice 9)) ∧ Try.prog.cellsOf f0.type = 1 ∧ Try.prog.cellsOf f1.type = 1 ∧ Try.prog.cellsOf f2.type = 1 ∧ Try.prog.cellsOf f3.type = 1 := by
  refine ⟨_, _, _, _, Try.underlying66, ⟨?_, ?_, ?_, ?_⟩, ⟨?_, ?_, ?_, ?_⟩, ?_, ?_, ?_, ?_⟩
  all_goals kernel_rfl
theorem Try.cellsCls : Try.prog.cellsOf 66 = 4 := by kernel_rfl
section
set_option maxRecDepth 100000
variable {H : Type} {enc : TypeId × Value → H} {w : World} {base : Nat} {spare : Nat → Bool} {held : Bool}
theorem open_classes {fuel : Nat} {ao : Option Addr} {len cap : Nat} {x : DataW H × List MemPlace} (h : DataW.trod enc Try.prog w base spare held fuel 34 [.slice ao len cap] = some x) :
    ∃ l : List ClassV, len = l.length ∧ ClassesAt w ao l ∧ LongC l ∧ len ≤ cap ∧ (ao = none → cap = 0) := by
  obtain ⟨f0, f1, f2, f3, hst, ⟨o0, o1, o2, o3⟩, ⟨u0, u1, u2, u3⟩, c0, c1, c2, c3⟩ := Try.structCls
  rcases open_slice Try.underlying34 h with ⟨hcs, _⟩ | ⟨a, l, c, m, n, D, Pl, hcs, hb, hl, hm, hmm, _, hx⟩
  · simp at hcs
    obtain ⟨rfl, rfl, rfl⟩ := hcs
    exact ⟨[], rfl, .inl rfl, ⟨by simp, by simp⟩, Nat.le_refl _, fun _ => rfl⟩
  · simp at hcs
    obtain ⟨rfl, rfl, rfl⟩ := hcs
    have hle : len ≤ m := by rw [hmm]; split <;> omega
    have hC := Try.cellsCls
    obtain ⟨L, hL, hq⟩ := list_of (fun i (k : ClassV) => ∃ v1 v2 v3, w.cell? (a.add (i * 4)) = some (.string k.nm) ∧ w.cell? (a.add (i * 4 + 1)) = some v1 ∧ w.cell? (a.add (i * 4 + 2)) = some v2 ∧ w.cell? (a.add (i * 4 + 3)) = some v3 ∧ SlV w v1 k.must ∧ SlV w v2 k.may ∧ SlV w v3 k.one ∧ k.nm.size ≤ maxLen ∧ LongV k.must ∧ LongV k.may ∧ LongV k.one) len (by
      intro i hi
      obtain ⟨cs', h1, h2⟩ := hx i (by omega)
      rw [hC] at h1
      obtain ⟨_, hlen, hcell⟩ := World.cells?_some h1
      obtain ⟨xs, k, hk, hxy, _, hxl, hf⟩ := DataW.trod_struct hst h2
      match xs, hxl, cs', hlen with
      | [y0, y1, y2, y3], _, [v0, v1, v2, v3], _ =>
        have g0 := hf 0 f0 rfl
        have g1 := hf 1 f1 rfl
        have g2 := hf 2 f2 rfl
        have g3 := hf 3 f3 rfl
        simp [o0, o1, o2, o3, c0, c1, c2, c3] at g0 g1 g2 g3
        have e0 := hcell 0 (by omega)
        have e1 := hcell 1 (by omega)
        have e2 := hcell 2 (by omega)
        have e3 := hcell 3 (by omega)
        rw [add_add] at e0 e1 e2 e3
        obtain ⟨s, es, _, z0⟩ := DataW.trod_string u0 g0
        obtain ⟨p1, q1, l1, r1, t1, z1⟩ := open_vals u1 g1
        obtain ⟨p2, q2, l2, r2, t2, z2⟩ := open_vals u2 g2
        obtain ⟨p3, q3, l3, r3, t3, z3⟩ := open_vals u3 g3
        simp at es
        exact ⟨⟨s, l1, l2, l3⟩, v1, v2, v3, by simpa [es] using e0, by simpa using e1, by simpa using e2, by simpa using e3, ⟨p1, q1, r1, t1⟩, ⟨p2, q2, r2, t2⟩, ⟨p3, q3, r3, t3⟩, z0, z1, z2, z3⟩)
    refine ⟨L, hL.symm, ?_, ⟨by unfold maxLen at hm; omega, ?_⟩, hl, fun h => by cases h⟩
    · by_cases h0 : len = 0
      · left; exact List.length_eq_zero_iff.1 (by omega)
      · obtain ⟨b, off, spot⟩ := a
        have hspot : spot = none := by
          obtain ⟨_, _, _, this, _⟩ := hq 0 (by omega)
          simpa [Addr.add] using World.cell?_spot this
        subst hspot
        refine .inr ⟨b, off, rfl, ?_, fun i hi => ?_⟩
        · obtain ⟨_, _, _, this, _⟩ := hq 0 (by omega)
          have := World.block_lt_of_cell? w _ this
          simpa [Addr.add] using this
        · obtain ⟨v1, v2, v3, e0, e1, e2, e3, t1, t2, t3, _⟩ := hq i hi
          rw [Go.WideShapes.add_plain] at e0 e1 e2 e3
          exact ⟨v1, v2, v3, e0, e1, e2, e3, t1, t2, t3⟩
    · intro r hr
      obtain ⟨i, hi, rfl⟩ := List.getElem_of_mem hr
      obtain ⟨_, _, _, _, _, _, _, _, _, _, z⟩ := hq i hi
      exact z
end
end Go.Proofs.Ytmimobniihekiaa
/- The law FnExactSchemaRight: its walk. -/
namespace Go.Proofs.Ytmimobniihekiaa
open Go.RowKit
attribute [local go_sem ↓] Go.wp_at_zero Go.wp_at_succ

set_option maxRecDepth 100000 in
set_option maxHeartbeats 1000000 in
theorem SchemaRight_walk (ao : Option Addr) (d : List ClassV) (ca : Nat) (w : World) (hd : ClassesAt w ao d) (hf : LongC d) :
    Calls Try.prog 5 #[.slice ao d.length ca] w fun e w' => e = .returned (.bool true) ∧ Below w.heap.size w w' := by
  have HD := Lib.hid hd; have LD := Lib.hid hf
  have hl := hf.1
  clear hd hf
  go_enter Try.func5, Try.ntmps5
  go_wp2_with fail
  refine (szClassS_any ao d ca 1048576 w HD.out LD.out (by omega) (by omega)).mono ?_
  rintro e w1 ⟨rfl, b1⟩
  by_cases hfit : ((d.length + sizeCs d : Nat) : Int) ≤ 1048576
  · rw [leftR_pos hfit]
    have FD := Lib.hid (fitsC_of (l := d) (by omega))
    have h0 : ¬ (1048576 : Int) - ((d.length + sizeCs d : Nat) : Int) < 0 := by omega
    generalize ((d.length + sizeCs d : Nat) : Int) = t at *
    go_wp2_with fail
    refine (toClassS_any ao d ca w1 (HD.out.below b1) FD.out).mono ?_
    rintro e w2 ⟨v2, rfl, g2, rfl, _, r2, b2⟩
    have B2 := Lib.hid (b1.trans (b2.mono b1.size)); have R2 := Lib.hid r2
    clear b2 r2 b1
    go_wp2_with fail
    refine (SpecSchemaRight_any (some ⟨g2, 0, none⟩) d d.length w2 R2.out.classes FD.out).mono ?_
    rintro e w3 ⟨rfl, b3⟩
    have B3 := Lib.hid (B2.out.trans (b3.mono B2.out.size))
    clear b3 R2 B2
    go_wp2_with fail
    refine (toClassS_any ao d ca w3 (HD.out.below B3.out) FD.out).mono ?_
    rintro e w4 ⟨v4, rfl, g4, rfl, _, r4, b4⟩
    have B4 := Lib.hid (B3.out.trans (b4.mono B3.out.size)); have R4 := Lib.hid r4
    clear b4 r4 B3
    go_wp2_with fail
    refine (SchemaRight_any (some ⟨g4, 0, none⟩) d d.length w4 R4.out.classes FD.out).mono ?_
    rintro e w5 ⟨rfl, b5⟩
    have B5 := Lib.hid (B4.out.trans (b5.mono B4.out.size)); have R5 := Lib.hid (R4.out.below b5)
    clear b5 R4 B4
    generalize schemaB d = r at *
    have hrr : (r != r) = false := by simp
    go_wp2_with (first
      | (go_at_call 21; refine (toClassS_any ao d ca w5 (HD.out.below B5.out) FD.out).mono ?_; rintro e w6 ⟨v6, rfl, g6, rfl, _, r6, b6⟩)
      | (go_at_call 23; refine (eqClassS_same (some ⟨g4, 0, none⟩) (some ⟨g6, 0, none⟩) d d.length d.length w6 (R5.out.below b6).classes r6.classes FD.out).mono ?_; rintro e w7 ⟨rfl, b7⟩)
      | (fail "none"))
    go_ret
    exact ⟨rfl, (B5.out.trans (b6.mono B5.out.size)).trans (b7.mono (Nat.le_trans B5.out.size b6.size))⟩
  · rw [leftR_neg hfit]
    clear hfit
    go_wp2
    go_ret
    exact ⟨rfl, b1⟩
end Go.Proofs.Ytmimobniihekiaa
