/- Merged texts: SpCopy, SpSet, EntH2. -/
import Derived.Test.YtjajpdghamecoaaGreatM12
import Derived.Test.YtjajpdghamecoaaGreatM10
/- l03Copy: what the specification's text returns. -/
namespace Go.Proofs.YtjajpdghamecoaaGreat
open Go.RowKit
attribute [local go_sem ↓] Go.wp_at_zero Go.wp_at_succ

theorem own_zeroD (w : World) {B g : Nat} (hg : g = w.heap.size) (hB : B ≤ g) : (w.alloc (.cells #[] 97)).ownsRow B 97 2 (.slice (some ⟨g, 0, none⟩) 0 0) 0 (rs []) := by
  subst hg
  exact ⟨rfl, .inr ⟨w.heap.size, 0, #[], rfl, hB, heap_alloc_new w _, by simp, by unfold maxLen; simp, rfl, rfl⟩⟩
theorem own_low {w w' : World} {B N e z n : Nat} {v : Value} {xs : List Value} (h : w.ownsRow B e z v n xs) (hlt : ∀ g, v.ownBlock = some g → g < N) (hb : Below N w w') : w'.ownsRow B e z v n xs := by
  refine ⟨h.1, ?_⟩
  rcases h.2 with hn | ⟨g, cap, cur, rfl, hB, hg, rest⟩
  · exact .inl hn
  · exact .inr ⟨g, cap, cur, rfl, hB, (hb.block g (hlt g rfl)).trans hg, rest⟩
theorem own_drew {w : World} {B e z n : Nat} {v : Value} {xs : List Value} (h : w.ownsRow B e z v n xs) : w.drew.ownsRow B e z v n xs := h
set_option maxRecDepth 100000 in
set_option maxHeartbeats 1000000 in
theorem l03Copy_any (ao bo : Option Addr) (d : RdnL) (l : List AttrV) (ca cb : Nat) (w : World) (hd : DnAt w ao d) (hl : AttrsAt w bo l) (hfd : Fits d) (hfl : FitsA l) (h8 : l.length ≤ 400) (hac : ao = none → ca = 0) :
    Calls Tryz.prog 67 #[.agg #[.slice ao d.length ca, .slice bo l.length cb]] w fun e w' => (∃ vo vc uo uc, e = .returned (.agg #[.slice vo d.length vc, .slice uo l.length uc]) ∧ w'.ownsRow w.heap.size 97 2 (.slice vo d.length vc) d.length (rs d) ∧ AttrsRow w' w.heap.size (.slice uo l.length uc) l) ∧ Below w.heap.size w w' := by
  have HL := Lib.hid hl; have FL := Lib.hid hfl; clear hl hfl
  have hdl := hfd.1
  clear hfd
  have hlen : ([] : RdnL).length + d.length ≤ 1000000000 := by simp; omega
  have B0 : Below w.heap.size w (((w.alloc (.cells #[.slice ao d.length ca, .slice bo l.length cb] 26)).alloc (.cells #[.slice none 0 0, .slice none 0 0] 26)).alloc (.cells #[] 97)) := more (more (more (Below.refl _ _) _) _) _
  have D0 := hd.below B0
  have O0 : (((w.alloc (.cells #[.slice ao d.length ca, .slice bo l.length cb] 26)).alloc (.cells #[.slice none 0 0, .slice none 0 0] 26)).alloc (.cells #[] 97)).ownsRow (w.heap.size + 1 + 1) 97 2 (.slice (some ⟨w.heap.size + 1 + 1, 0, none⟩) 0 0) 0 (rs []) := own_zeroD _ (by simp) (by simp)
  have hs0 : w.heap.size + 1 + 1 ≤ (((w.alloc (.cells #[.slice ao d.length ca, .slice bo l.length cb] 26)).alloc (.cells #[.slice none 0 0, .slice none 0 0] 26)).alloc (.cells #[] 97)).heap.size := by simp
  have BB : Below (w.heap.size + 1 + 1) ((w.alloc (.cells #[.slice ao d.length ca, .slice bo l.length cb] 26)).alloc (.cells #[.slice none 0 0, .slice none 0 0] 26)) (((w.alloc (.cells #[.slice ao d.length ca, .slice bo l.length cb] 26)).alloc (.cells #[.slice none 0 0, .slice none 0 0] 26)).alloc (.cells #[] 97)) := (Below.refl _ _).alloc (by simp) _
  have BX : Hid (Below w.heap.size w ((w.alloc (.cells #[.slice ao d.length ca, .slice bo l.length cb] 26)).alloc (.cells #[.slice none 0 0, .slice none 0 0] 26)) ∧ Two ((w.alloc (.cells #[.slice ao d.length ca, .slice bo l.length cb] 26)).alloc (.cells #[.slice none 0 0, .slice none 0 0] 26)) w.heap.size 26 (.slice ao d.length ca) (.slice bo l.length cb) ∧ Two ((w.alloc (.cells #[.slice ao d.length ca, .slice bo l.length cb] 26)).alloc (.cells #[.slice none 0 0, .slice none 0 0] 26)) (w.heap.size + 1) 26 (.slice none 0 0) (.slice none 0 0)) :=
    Lib.hid ⟨more (more (Below.refl _ _) _) _, (twoNew w 26 _ _).alloc _, twoNext w _ 26 _ _⟩
  go_enter Tryz.func67, Tryz.ntmps67
  go_wp2_with (first
    | (at_builtin; refine append_dn (w.heap.size + 1 + 1) rfl _ _ rfl _ [] rfl O0 ao d ca _ rfl rfl D0 hac hlen hs0 BB ?_; intro v1 w1 hown1 hbel1; obtain ⟨d0, dc, rfl⟩ := own_slice hown1; simp only [List.nil_append] at hown1 ⊢; have B1 := Lib.hid (BX.out.1.trans (hbel1.mono (by omega))); have T1 := Lib.hid (show Two w1 w.heap.size 26 (.slice ao d.length ca) (.slice bo l.length cb) from (hbel1.block w.heap.size (by omega)).trans BX.out.2.1); have U1 := Lib.hid (show Two w1 (w.heap.size + 1) 26 (.slice none 0 0) (.slice none 0 0) from (hbel1.block (w.heap.size + 1) (by omega)).trans BX.out.2.2); have OD := Lib.hid hown1; clear hbel1 hown1 BX BB hs0 O0 D0 B0 hlen hac hd)
    | (fail "none"))
  have HN1 : Hid (∀ g, (Value.slice d0 d.length dc).ownBlock = some g → g < w1.heap.size) := Lib.hid (fun g hg => (OD.out.lt g hg).2)
  refine wp_world (fun W => Below w.heap.size w W ∧ Two W w.heap.size 26 (.slice ao d.length ca) (.slice bo l.length cb) ∧ Two W (w.heap.size + 1) 26 (.slice none 0 0) (.slice none 0 0) ∧ Two W w1.heap.size 26 (.slice d0 d.length dc) (.slice none 0 0) ∧ W.ownsRow (w.heap.size + 1 + 1) 97 2 (.slice d0 d.length dc) d.length (rs d)) ⟨more B1.out _, T1.out.alloc _, U1.out.alloc _, twoNew w1 26 _ _, own_below OD.out (more (Below.refl _ _) _)⟩ ?_
  have hUR := U1.out.lt
  clear B1 T1 U1 OD
  generalize w1.heap.size = R at *
  rintro W ⟨hbW, t0, t1, t2, od⟩
  go_loopw [4] (fun i wr => ∃ (P : List PairV) (uo : Option Addr) (uc : Nat), P.length ≤ l.length ∧ i = .int .i64 P.length ∧ Two wr w.heap.size 26 (.slice ao d.length ca) (.slice bo l.length cb) ∧ Two wr (w.heap.size + 1) 26 (.slice none 0 0) (.slice none 0 0) ∧ Two wr R 26 (.slice d0 d.length dc) (.slice uo P.length uc) ∧ wr.ownsRow (R + 1) 48 2 (.slice uo P.length uc) P.length (ps P) ∧ LaidV wr (R + 1) P (l.take P.length) ∧ wr.ownsRow (w.heap.size + 1 + 1) 97 2 (.slice d0 d.length dc) d.length (rs d) ∧ Below w.heap.size w wr) (fun i _ => l.length - (intOf i).toNat)
  case atStart => exact ⟨[], none, 0, Nat.zero_le _, rfl, t0, t1, t2, own_noneP _ _, ⟨rfl, fun i h => by simp at h⟩, od, hbW⟩
  case round =>
    clear t0 t1 t2 od hbW
    obtain ⟨P, uo, uc, hk, rfl, t0, t1, t2, ho, hla, hod, hbel⟩ := hrel
    have HT0 := Lib.hid t0; have HT1 := Lib.hid t1; have HT2 := Lib.hid t2; have HO := Lib.hid ho; have HLa := Lib.hid hla; have HOD := Lib.hid hod; have HB := Lib.hid hbel
    obtain ⟨⟨c0, c1⟩, _⟩ := t0.cells
    have hRs : R + 1 ≤ wr.heap.size := t2.lt
    clear t0 t1 t2 ho hla hod hbel
    by_cases hlt : P.length < l.length
    · obtain ⟨p, off, vo, vc, rfl, hp0, hd1, hd2, hv⟩ := HL.out.at hlt
      have hvV := (FL.out.at hlt).2.1
      have HVs := Lib.hid (hv.1.below HB.out)
      have hvc := hv.2.2
      have HSn : Hid (∀ (X : World) (v : Value), LaidV X (R + 1) P (l.take P.length) → IsSl v → X.ownsRow (R + 1) 9 1 v l[P.length].2.length (ss l[P.length].2) → LaidV X (R + 1) (P ++ [(l[P.length].1, v)]) (l.take (P.length + 1))) := Lib.hid (fun X v h hs ho => by
        rw [List.take_succ_eq_append_getElem hlt]; exact h.snoc hs ho)
      clear hv
      have hlenV : ([] : List ByteArray).length + l[P.length].2.length ≤ 1000000000 := by simp; omega
      have g1 : (0 : Int) ≤ (P.length : Int) := by omega
      have g2 : (P.length : Int) < (l.length : Int) := by omega
      generalize l[P.length].1 = A at *
      generalize l[P.length].2 = V at *
      go_wp2_with fail
      have SK1 : Hid (∀ Z : World, Below R wr Z → (Z.cell? ⟨w.heap.size, 1, none⟩ = some (.slice (some ⟨p, off, none⟩) l.length cb) ∧ Z.cell? ⟨p, off + P.length * 2, none⟩ = some (.string A) ∧ Z.cell? ⟨p, off + P.length * 2 + 1, none⟩ = some (.slice vo V.length vc))) :=
        Lib.hid (fun Z h => ⟨(h.cell (p := ⟨w.heap.size, 1, none⟩) (by show w.heap.size < R; omega)).trans c1, (h.cell (p := ⟨p, off + P.length * 2, none⟩) (by show p < R; omega)).trans ((HB.out.cell (p := ⟨p, off + P.length * 2, none⟩) hp0).trans hd1), (h.cell (p := ⟨p, off + P.length * 2 + 1, none⟩) (by show p < R; omega)).trans ((HB.out.cell (p := ⟨p, off + P.length * 2 + 1, none⟩) hp0).trans hd2)⟩)
      have KP : Hid (∀ (L : Array Bool) (Z : World), Below (R + 1) wr Z → Until (fun Z => Z.cell? ⟨w.heap.size, 1, none⟩ = some (.slice (some ⟨p, off, none⟩) l.length cb) ∧ Z.cell? ⟨p, off + P.length * 2, none⟩ = some (.string A) ∧ Z.cell? ⟨p, off + P.length * 2 + 1, none⟩ = some (.slice vo V.length vc)) (fun Z => Z.cell? ⟨R, 1, none⟩ = some (.slice uo P.length uc)) 20 L Z) :=
        Lib.hid (fun L Z h => ⟨SK1.out Z (h.mono (Nat.le_succ _)), fun _ => (h.cell (p := ⟨R, 1, none⟩) (Nat.lt_succ_self _)).trans HT2.out.cells.1.2⟩)
      have hbd : Below (R + 1) wr wr.drew := (Below.refl _ _).drew
      have hRd : R + 1 ≤ wr.drew.heap.size := hRs
      have OZ : Hid ((wr.drew.alloc (.cells #[] 9)).ownsRow wr.heap.size 9 1 (.slice (some ⟨wr.heap.size, 0, none⟩) 0 0) ([] : List ByteArray).length (ss [])) := Lib.hid (own_zero wr.drew rfl (Nat.le_refl _))
      have HVz : Hid (StrsAt (wr.drew.alloc (.cells #[] 9)) vo V) := Lib.hid (HVs.out.below (more (Below.refl _ _).drew _))
      have hsz1 : wr.heap.size ≤ (wr.drew.alloc (.cells #[] 9)).heap.size := by simp
      have hbz : Below wr.heap.size wr (wr.drew.alloc (.cells #[] 9)) := more (Below.refl _ _).drew _
      have hbz8 : Below (R + 1) wr (wr.alloc (.cells #[] 9)).drew := hbz.mono hRs
      have HPl : Hid (P.length ≤ 1000000000) := Lib.hid (by omega)
      clear hd1 hd2 c0 c1
      refine wp_region_until (fun Z => Z.cell? ⟨w.heap.size, 1, none⟩ = some (.slice (some ⟨p, off, none⟩) l.length cb) ∧ Z.cell? ⟨p, off + P.length * 2, none⟩ = some (.string A) ∧ Z.cell? ⟨p, off + P.length * 2 + 1, none⟩ = some (.slice vo V.length vc)) (fun Z => Z.cell? ⟨R, 1, none⟩ = some (.slice uo P.length uc)) 20 (by kernel_rfl) (KP.out #[] _ hbd).1 ((KP.out #[false, false, false, false, false, false, false, false, false, false, false, false, false, false, false, false, false, false, false, false, false] _ hbd).2 rfl) (fun hU => ?_)
      refine wpAnyL_take (i := 0) (oi := { dst := some 17, op := Op.fieldAddr 26 (Operand.tmp 3) 1, type := 0, pos := "l03_entry.go:77", after := #[], guard := none }) (v := ?_) rfl (by decide) (by kernel_rfl) (by kernel_rfl) (by kernel_rfl) (fun _ _ _ h => h) (Or.inl ⟨by rfl, ?_⟩) (by assumption) ?_
      rotate_left
      · intro w hSw; (try dsimp only at hSw); go_simp; (try with_reducible rfl)
      clear hU; intro hU
      (try simp only [Act.put, List.setIfInBounds_toArray, List.set_cons_zero, List.set_cons_succ])
      refine wpAnyL_load (i := 1) (m := 18) (oi := { dst := some 18, op := Op.load 24 (Operand.tmp 17), type := 24, pos := "l03_entry.go:77", after := #[{ on := 0, ground := Ground.data }], guard := none }) (om := { dst := some 35, op := Op.call { callee := Callee.builtin Builtin.append, args := #[Operand.tmp 18, Operand.tmp 34], argTypes := #[24, 24] }, type := 24, pos := "l03_entry.go:77", after := #[{ on := 1, ground := Ground.data }, { on := 17, ground := Ground.data }, { on := 15, ground := Ground.chain }], guard := none }) (ok := _) (v := ?_) rfl (by decide) (by kernel_rfl) (by kernel_rfl) (by kernel_rfl) rfl rfl (by kernel_rfl) (by kernel_rfl) (by kernel_rfl) (by kernel_rfl) (fun _ _ _ h => h) (Or.inl ⟨by rfl, ?_⟩) (by assumption) ?_
      rotate_left
      · intro w hSw; (try dsimp only at hSw); go_simp; (try with_reducible rfl)
      clear hU; intro hU
      (try simp only [Act.put, List.setIfInBounds_toArray, List.set_cons_zero, List.set_cons_succ])
      refine wpAnyL_take (i := 2) (oi := { dst := some 19, op := Op.fieldAddr 26 (Operand.tmp 1) 1, type := 0, pos := "l03_entry.go:77", after := #[], guard := none }) (v := ?_) rfl (by decide) (by kernel_rfl) (by kernel_rfl) (by kernel_rfl) (fun _ _ _ h => h) (Or.inl ⟨by rfl, ?_⟩) (by assumption) ?_
      rotate_left
      · intro w hSw; (try dsimp only at hSw); go_simp; (try with_reducible rfl)
      clear hU; intro hU
      (try simp only [Act.put, List.setIfInBounds_toArray, List.set_cons_zero, List.set_cons_succ])
      refine wpAnyL_take (i := 3) (oi := { dst := some 20, op := Op.load 24 (Operand.tmp 19), type := 24, pos := "l03_entry.go:77", after := #[{ on := 2, ground := Ground.data }], guard := none }) (v := ?_) rfl (by decide) (by kernel_rfl) (by kernel_rfl) (by kernel_rfl) (fun _ _ _ h => h) (Or.inl ⟨by rfl, ?_⟩) (by assumption) ?_
      rotate_left
      · intro w hSw; (try dsimp only at hSw); go_simp; (try with_reducible rfl)
      clear hU; intro hU
      (try simp only [Act.put, List.setIfInBounds_toArray, List.set_cons_zero, List.set_cons_succ])
      refine wpAnyL_take (i := 4) (oi := { dst := some 21, op := Op.move (Operand.tmp 4), type := 3, pos := "l03_entry.go:77", after := #[], guard := none }) (v := ?_) rfl (by decide) (by kernel_rfl) (by kernel_rfl) (by kernel_rfl) (fun _ _ _ h => h) (Or.inl ⟨by rfl, ?_⟩) (by assumption) ?_
      rotate_left
      · intro w hSw; (try dsimp only at hSw); go_simp; (try with_reducible rfl)
      clear hU; intro hU
      (try simp only [Act.put, List.setIfInBounds_toArray, List.set_cons_zero, List.set_cons_succ])
      refine wpAnyL_take (i := 5) (oi := { dst := some 22, op := Op.indexAddr 24 (Operand.tmp 20) (Operand.tmp 21), type := 0, pos := "l03_entry.go:77", after := #[{ on := 3, ground := Ground.data }, { on := 4, ground := Ground.data }], guard := none }) (v := ?_) rfl (by decide) (by kernel_rfl) (by kernel_rfl) (by kernel_rfl) (fun _ _ _ h => h) (Or.inl ⟨by rfl, ?_⟩) (by assumption) ?_
      rotate_left
      · intro w hSw; (try dsimp only at hSw); go_simp; (try with_reducible rfl)
      clear hU; intro hU
      (try simp only [Act.put, List.setIfInBounds_toArray, List.set_cons_zero, List.set_cons_succ])
      refine wpAnyL_take (i := 6) (oi := { dst := some 23, op := Op.fieldAddr 48 (Operand.tmp 22) 0, type := 0, pos := "l03_entry.go:77", after := #[{ on := 5, ground := Ground.data }], guard := none }) (v := ?_) rfl (by decide) (by kernel_rfl) (by kernel_rfl) (by kernel_rfl) (fun _ _ _ h => h) (Or.inl ⟨by rfl, ?_⟩) (by assumption) ?_
      rotate_left
      · intro w hSw; (try dsimp only at hSw); go_simp; (try with_reducible rfl)
      clear hU; intro hU
      (try simp only [Act.put, List.setIfInBounds_toArray, List.set_cons_zero, List.set_cons_succ])
      refine wpAnyL_take (i := 7) (oi := { dst := some 24, op := Op.load 9 (Operand.tmp 23), type := 9, pos := "l03_entry.go:77", after := #[{ on := 6, ground := Ground.data }], guard := none }) (v := ?_) rfl (by decide) (by kernel_rfl) (by kernel_rfl) (by kernel_rfl) (fun _ _ _ h => h) (Or.inl ⟨by rfl, ?_⟩) (by assumption) ?_
      rotate_left
      · intro w hSw; (try dsimp only at hSw); go_simp; (try with_reducible rfl)
      clear hU; intro hU
      (try simp only [Act.put, List.setIfInBounds_toArray, List.set_cons_zero, List.set_cons_succ])
      refine wpAnyL_take (i := 9) (oi := { dst := some 26, op := Op.fieldAddr 26 (Operand.tmp 1) 1, type := 0, pos := "l03_entry.go:77", after := #[], guard := none }) (v := ?_) rfl (by decide) (by kernel_rfl) (by kernel_rfl) (by kernel_rfl) (fun _ _ _ h => h) (Or.inl ⟨by rfl, ?_⟩) (by assumption) ?_
      rotate_left
      · intro w hSw; (try dsimp only at hSw); go_simp; (try with_reducible rfl)
      clear hU; intro hU
      (try simp only [Act.put, List.setIfInBounds_toArray, List.set_cons_zero, List.set_cons_succ])
      refine wpAnyL_take (i := 10) (oi := { dst := some 27, op := Op.load 24 (Operand.tmp 26), type := 24, pos := "l03_entry.go:77", after := #[{ on := 9, ground := Ground.data }], guard := none }) (v := ?_) rfl (by decide) (by kernel_rfl) (by kernel_rfl) (by kernel_rfl) (fun _ _ _ h => h) (Or.inl ⟨by rfl, ?_⟩) (by assumption) ?_
      rotate_left
      · intro w hSw; (try dsimp only at hSw); go_simp; (try with_reducible rfl)
      clear hU; intro hU
      (try simp only [Act.put, List.setIfInBounds_toArray, List.set_cons_zero, List.set_cons_succ])
      refine wpAnyL_take (i := 11) (oi := { dst := some 28, op := Op.move (Operand.tmp 4), type := 3, pos := "l03_entry.go:77", after := #[], guard := none }) (v := ?_) rfl (by decide) (by kernel_rfl) (by kernel_rfl) (by kernel_rfl) (fun _ _ _ h => h) (Or.inl ⟨by rfl, ?_⟩) (by assumption) ?_
      rotate_left
      · intro w hSw; (try dsimp only at hSw); go_simp; (try with_reducible rfl)
      clear hU; intro hU
      (try simp only [Act.put, List.setIfInBounds_toArray, List.set_cons_zero, List.set_cons_succ])
      refine wpAnyL_take (i := 12) (oi := { dst := some 29, op := Op.indexAddr 24 (Operand.tmp 27) (Operand.tmp 28), type := 0, pos := "l03_entry.go:77", after := #[{ on := 10, ground := Ground.data }, { on := 11, ground := Ground.data }], guard := none }) (v := ?_) rfl (by decide) (by kernel_rfl) (by kernel_rfl) (by kernel_rfl) (fun _ _ _ h => h) (Or.inl ⟨by rfl, ?_⟩) (by assumption) ?_
      rotate_left
      · intro w hSw; (try dsimp only at hSw); go_simp; (try with_reducible rfl)
      clear hU; intro hU
      (try simp only [Act.put, List.setIfInBounds_toArray, List.set_cons_zero, List.set_cons_succ])
      refine wpAnyL_take (i := 13) (oi := { dst := some 30, op := Op.fieldAddr 48 (Operand.tmp 29) 1, type := 0, pos := "l03_entry.go:77", after := #[{ on := 12, ground := Ground.data }], guard := none }) (v := ?_) rfl (by decide) (by kernel_rfl) (by kernel_rfl) (by kernel_rfl) (fun _ _ _ h => h) (Or.inl ⟨by rfl, ?_⟩) (by assumption) ?_
      rotate_left
      · intro w hSw; (try dsimp only at hSw); go_simp; (try with_reducible rfl)
      clear hU; intro hU
      (try simp only [Act.put, List.setIfInBounds_toArray, List.set_cons_zero, List.set_cons_succ])
      refine wpAnyL_take (i := 14) (oi := { dst := some 31, op := Op.load 36 (Operand.tmp 30), type := 36, pos := "l03_entry.go:77", after := #[{ on := 13, ground := Ground.data }], guard := none }) (v := ?_) rfl (by decide) (by kernel_rfl) (by kernel_rfl) (by kernel_rfl) (fun _ _ _ h => h) (Or.inl ⟨by rfl, ?_⟩) (by assumption) ?_
      rotate_left
      · intro w hSw; (try dsimp only at hSw); go_simp; (try with_reducible rfl)
      clear hU; intro hU
      (try simp only [Act.put, List.setIfInBounds_toArray, List.set_cons_zero, List.set_cons_succ])
      refine wpAnyL_only (i := 8) (o := { dst := some 25, op := Op.buildSlice 36 0 #[], type := 36, pos := "l03_entry.go:77", after := #[], guard := none }) (by kernel_rfl) rfl (fun K hK => ?_)
      go_simp
      clear hU
      refine hK.out _ _ ?_ (fun hU => ?_)
      · (try dsimp only)
        first | exact KP.out _ _ (by assumption) | exact KP.out _ _ hbz8 | exact KP.out _ _ (Below.alloc (by assumption) (by first | exact hRd | exact hR6) _) | exact ⟨SK1.out _ (Below.setCell hb7 (p := ⟨R, 1, none⟩) (Nat.le_refl _) _), fun h => absurd (h.symm.trans (show _ = true by kernel_rfl)) (by decide)⟩
      clear hK K
      (try simp only [Act.put, List.setIfInBounds_toArray, List.set_cons_zero, List.set_cons_succ])
      refine wpAnyL_only (i := 15) (o := { dst := some 32, op := Op.call { callee := Callee.builtin Builtin.append, args := #[Operand.tmp 25, Operand.tmp 31], argTypes := #[36, 36] }, type := 36, pos := "l03_entry.go:77", after := #[{ on := 8, ground := Ground.data }, { on := 14, ground := Ground.data }], guard := none }) (by kernel_rfl) rfl (fun K hK => ?_)
      refine step_strs wr.heap.size rfl _ _ rfl (.slice (some ⟨wr.heap.size, 0, none⟩) 0 0) [] rfl OZ.out vo V vc _ rfl rfl HVz.out hvc hlenV hsz1 hbz ?_
      intro v6 w6 hown6 hbel6 hgr6
      obtain ⟨xo, xc, rfl⟩ := own_slice hown6
      simp only [List.nil_append] at hown6 ⊢
      have hb6 : Below (R + 1) wr w6 := hbel6.mono hRs
      have hR6 : R + 1 ≤ w6.heap.size := Nat.le_trans hRs hbel6.size
      have O6 := own_below HO.out hbel6
      clear hU
      refine hK.out _ _ ?_ (fun hU => ?_)
      · (try dsimp only)
        first | exact KP.out _ _ (by assumption) | exact KP.out _ _ hbz8 | exact KP.out _ _ (Below.alloc (by assumption) (by first | exact hRd | exact hR6) _) | exact ⟨SK1.out _ (Below.setCell hb7 (p := ⟨R, 1, none⟩) (Nat.le_refl _) _), fun h => absurd (h.symm.trans (show _ = true by kernel_rfl)) (by decide)⟩
      clear hK K
      (try simp only [Act.put, List.setIfInBounds_toArray, List.set_cons_zero, List.set_cons_succ])
      refine wpAnyL_take (i := 16) (oi := { dst := some 33, op := Op.build 48 #[(0, Operand.tmp 24), (1, Operand.tmp 32)], type := 48, pos := "l03_entry.go:77", after := #[{ on := 7, ground := Ground.data }, { on := 15, ground := Ground.data }], guard := none }) (v := ?_) rfl (by decide) (by kernel_rfl) (by kernel_rfl) (by kernel_rfl) (fun _ _ _ h => h) (Or.inl ⟨by rfl, ?_⟩) (by assumption) ?_
      rotate_left
      · intro w hSw; (try dsimp only at hSw); go_simp; (try with_reducible rfl)
      clear hU; intro hU
      (try simp only [Act.put, List.setIfInBounds_toArray, List.set_cons_zero, List.set_cons_succ])
      refine wpAnyL_only (i := 17) (o := { dst := some 34, op := Op.buildSlice 24 1 #[(0, Operand.tmp 33)], type := 24, pos := "l03_entry.go:77", after := #[{ on := 16, ground := Ground.data }], guard := none }) (by kernel_rfl) rfl (fun K hK => ?_)
      go_simp
      clear hU
      refine hK.out _ _ ?_ (fun hU => ?_)
      · (try dsimp only)
        first | exact KP.out _ _ (by assumption) | exact KP.out _ _ hbz8 | exact KP.out _ _ (Below.alloc (by assumption) (by first | exact hRd | exact hR6) _) | exact ⟨SK1.out _ (Below.setCell hb7 (p := ⟨R, 1, none⟩) (Nat.le_refl _) _), fun h => absurd (h.symm.trans (show _ = true by kernel_rfl)) (by decide)⟩
      clear hK K
      (try simp only [Act.put, List.setIfInBounds_toArray, List.set_cons_zero, List.set_cons_succ])
      refine wpAnyL_only (i := 18) (o := { dst := some 35, op := Op.call { callee := Callee.builtin Builtin.append, args := #[Operand.tmp 18, Operand.tmp 34], argTypes := #[24, 24] }, type := 24, pos := "l03_entry.go:77", after := #[{ on := 1, ground := Ground.data }, { on := 17, ground := Ground.data }, { on := 15, ground := Ground.chain }], guard := none }) (by kernel_rfl) rfl (fun K hK => ?_)
      refine step_pair (R + 1) rfl _ _ rfl (.slice uo P.length uc) P rfl O6 (A, .slice xo V.length xc) ⟨_, _, _, rfl⟩ rfl HPl.out hR6 hb6 ?_
      intro g7 cp7 w7 hown7 hbel7 hsz7 hgr7
      have hb7 : Below R wr w7 := hbel7.mono (Nat.le_succ _)
      have T7 := Lib.hid (show Two w7 R 26 (.slice d0 d.length dc) (.slice uo P.length uc) from (hbel7.block R (Nat.lt_succ_self _)).trans HT2.out)
      obtain ⟨⟨_, q1⟩, _, f1⟩ := T7.out.cells
      clear hU
      refine hK.out _ _ ?_ (fun hU => ?_)
      · (try dsimp only)
        first | exact KP.out _ _ (by assumption) | exact KP.out _ _ hbz8 | exact KP.out _ _ (Below.alloc (by assumption) (by first | exact hRd | exact hR6) _) | exact ⟨SK1.out _ (Below.setCell hb7 (p := ⟨R, 1, none⟩) (Nat.le_refl _) _), fun h => absurd (h.symm.trans (show _ = true by kernel_rfl)) (by decide)⟩
      clear hK K
      (try simp only [Act.put, List.setIfInBounds_toArray, List.set_cons_zero, List.set_cons_succ])
      refine wpAnyL_take (i := 19) (oi := { dst := some 36, op := Op.fieldAddr 26 (Operand.tmp 3) 1, type := 0, pos := "l03_entry.go:77", after := #[{ on := 0, ground := Ground.phase }, { on := 1, ground := Ground.phase }, { on := 2, ground := Ground.phase }, { on := 3, ground := Ground.phase }, { on := 4, ground := Ground.phase }, { on := 5, ground := Ground.phase }, { on := 6, ground := Ground.phase }, { on := 7, ground := Ground.phase }, { on := 8, ground := Ground.phase }, { on := 9, ground := Ground.phase }, { on := 10, ground := Ground.phase }, { on := 11, ground := Ground.phase }, { on := 12, ground := Ground.phase }, { on := 13, ground := Ground.phase }, { on := 14, ground := Ground.phase }, { on := 15, ground := Ground.phase }, { on := 16, ground := Ground.phase }, { on := 17, ground := Ground.phase }, { on := 18, ground := Ground.phase }], guard := none }) (v := ?_) rfl (by decide) (by kernel_rfl) (by kernel_rfl) (by kernel_rfl) (fun _ _ _ h => h) (Or.inl ⟨by rfl, ?_⟩) (by assumption) ?_
      rotate_left
      · intro w hSw; (try dsimp only at hSw); go_simp; (try with_reducible rfl)
      clear hU; intro hU
      (try simp only [Act.put, List.setIfInBounds_toArray, List.set_cons_zero, List.set_cons_succ])
      refine wpAnyL_only (i := 20) (o := _) (by kernel_rfl) rfl (fun K hK => ?_)
      go_simp
      clear hU
      refine hK.out _ _ ?_ (fun hU => ?_)
      · (try dsimp only)
        first | exact KP.out _ _ (by assumption) | exact KP.out _ _ hbz8 | exact KP.out _ _ (Below.alloc (by assumption) (by first | exact hRd | exact hR6) _) | exact ⟨SK1.out _ (Below.setCell hb7 (p := ⟨R, 1, none⟩) (Nat.le_refl _) _), fun h => absurd (h.symm.trans (show _ = true by kernel_rfl)) (by decide)⟩
      clear hK K
      (try simp only [Act.put, List.setIfInBounds_toArray, List.set_cons_zero, List.set_cons_succ])
      refine wpAnyL_done (by kernel_rfl) ?_ _
      have hPl : (P ++ [(A, Value.slice xo V.length xc)]).length = P.length + 1 := by simp
      have L7 := Lib.hid ((HSn.out w7 (.slice xo V.length xc) ((HLa.out.below hbel6).far O6 hgr7) ⟨_, _, _, rfl⟩ (own_far (own_mono hown6 hRs) O6 hgr7)).cellOut (R := R) (j := 1) (x := .slice (some ⟨g7, 0, none⟩) (P.length + 1) cp7) (Nat.lt_succ_self _))
      rw [hPl] at hown7
      have O7 := Lib.hid (own_cellOut (j := 1) (x := .slice (some ⟨g7, 0, none⟩) (P.length + 1) cp7) hown7 (Nat.lt_succ_self R))
      have D7 := Lib.hid (own_low (N := R) HOD.out HN1.out (hb7.setCell (p := ⟨R, 1, none⟩) (Nat.le_refl _) (.slice (some ⟨g7, 0, none⟩) (P.length + 1) cp7)))
      have A7 := Lib.hid (show Two (w7.setCell ⟨R, 1, none⟩ (.slice (some ⟨g7, 0, none⟩) (P.length + 1) cp7)) w.heap.size 26 (.slice ao d.length ca) (.slice (some ⟨p, off, none⟩) l.length cb) from Two.far ((hbel7.block w.heap.size (by omega)).trans HT0.out) (by omega) _)
      have U7 := Lib.hid (show Two (w7.setCell ⟨R, 1, none⟩ (.slice (some ⟨g7, 0, none⟩) (P.length + 1) cp7)) (w.heap.size + 1) 26 (.slice none 0 0) (.slice none 0 0) from Two.far ((hbel7.block (w.heap.size + 1) (by omega)).trans HT1.out) (by omega) _)
      have B7 := Lib.hid (HB.out.trans ((hb7.setCell (p := ⟨R, 1, none⟩) (Nat.le_refl _) (.slice (some ⟨g7, 0, none⟩) (P.length + 1) cp7)).mono (by omega)))
      have T8 := Lib.hid (T7.out.set1 (.slice (some ⟨g7, 0, none⟩) (P.length + 1) cp7))
      clear SK1 KP hbd hbz hbz8 OZ HVz hown7 hbel7 hgr7 hb7 hbel6 hgr6 hown6 hb6 O6 T7 q1 f1 hU
      go_wp2
      go_roundw
      case rel =>
        refine ⟨P ++ [(A, .slice xo V.length xc)], some ⟨g7, 0, none⟩, cp7, ?_⟩
        rw [hPl]
        exact ⟨by omega, by go_num, A7.out, U7.out, T8.out, O7.out, L7.out, D7.out, B7.out⟩
      case measure => simp [intOf]; omega
    · have e : P.length = l.length := by omega
      have hlE : l.take P.length = l := by rw [e, List.take_length]
      rw [hlE] at HLa
      have HE := Lib.hid e
      clear e hlE
      obtain ⟨⟨k0, k1⟩, _⟩ := HT2.out.cells
      obtain ⟨⟨s0, s1⟩, f0, f1⟩ := HT1.out.cells
      obtain ⟨⟨q0, q1⟩, _⟩ := ((HT1.out.set0 (.slice d0 d.length dc)).set1 (.slice uo P.length uc)).cells
      go_wp2_with fail
      refine bodyPost_ret (v := .agg #[.slice d0 d.length dc, .slice uo P.length uc]) (by simp [results, Tryz.results67, go_sem, q0, q1]) rfl ⟨⟨d0, dc, uo, uc, by rw [HE.out], ?_, P, ?_, ?_⟩, ?_⟩
      · exact own_mono (own_cellOut (own_cellOut HOD.out (by omega)) (by omega)) (by omega)
      · rw [← HE.out]; exact own_mono (own_cellOut (own_cellOut HO.out (by omega)) (by omega)) (by omega)
      · exact ((HLa.out.cellOut (by omega)).cellOut (by omega)).mono (by omega)
      · exact (HB.out.setCell (p := ⟨w.heap.size + 1, 0, none⟩) (by show w.heap.size ≤ w.heap.size + 1; omega) _).setCell (p := ⟨w.heap.size + 1, 1, none⟩) (by show w.heap.size ≤ w.heap.size + 1; omega) _
end Go.Proofs.YtjajpdghamecoaaGreat
/- l03Set: what the specification's text returns. -/
namespace Go.Proofs.YtjajpdghamecoaaGreat
open Go.RowKit
attribute [local go_sem ↓] Go.wp_at_zero Go.wp_at_succ

theorem append_one_pair {ops : Array Oper} {rest : List Oper} {o : Oper} {a : Act} {Q : Exit → Act → World → Prop} {w0 wr : World} (B : Nat) (hgd : o.guard = none) (s x : Operand)
    (ho : o.op = .call { callee := .builtin .append, args := #[s, x], argTypes := #[24, 24] }) (v : Value) (pre : List PairV) (hs : a.eval s = v) (hown : wr.ownsRow B 48 2 v pre.length (ps pre))
    (p : PairV) (hp : IsSl p.2) (hx : a.eval x = .slice (some ⟨wr.heap.size, 0, none⟩) 1 1) (hlen : pre.length ≤ 1000000000) (hB : B ≤ wr.heap.size) (hbel : Below B w0 wr)
    (h : ∀ g cap w', w'.ownsRow B 48 2 (.slice (some ⟨g, 0, none⟩) (pre.length + 1) cap) (pre ++ [p]).length (ps (pre ++ [p])) → Below B w0 w' → B ≤ w'.heap.size → wr.grownBy w' v.ownBlock → (v.ownBlock = some g ∨ wr.heap.size ≤ g) → wpList Tryz.prog ops Q rest (a.put o.dst (.slice (some ⟨g, 0, none⟩) (pre.length + 1) cap)) w') :
    wpList Tryz.prog ops Q (o :: rest) a (wr.alloc (.cells #[.string p.1, p.2] 48)) := by
  obtain ⟨i0, hi, hz0, hz1, hz2⟩ := info_parts Tryz.info48
  refine wpList_append_lies _ hgd s x 24 ho B 48 i0 _ 2 40 Tryz.underlying24 hi hz0 hz1 hz2 rfl (by decide) v pre.length (ps pre) hs (hown.alloc _) ⟨wr.heap.size, 0, none⟩ 1 1 [.string p.1, p.2] hx rfl (World.news_of_block (cs := #[.string p.1, p.2]) (t := 48) (fr := (0, 0)) (heap_alloc_new wr _)) ?_ (by omega) ?_ ?_ ?_ (wr.heap.size + 1) (by simp) ?_
  · intro u hu; simp at hu; rcases hu with rfl | rfl
    · rfl
    · obtain ⟨o, n, c, e⟩ := hp; rw [e]; rfl
  · unfold maxLen; omega
  · omega
  · simp; omega
  · intro g cap w' h1 h2 h3 h4
    have hb' : Below B w0 w' := (hbel.alloc hB _).grown h2 (by simp; omega) (fun k hk => (hown.lt k hk).1)
    refine h g cap w' ?_ hb' (Nat.le_trans hB (by have := h2.size; simp at this; omega)) ((World.grownBy_alloc _ _ _).trans h2) ?_
    · rw [ps_snoc]; simpa using h1
    · rcases h3 with h3 | h3
      · exact .inl h3
      · exact .inr (by omega)
theorem AttrsRow.at {w : World} {B n cap j : Nat} {uo : Option Addr} {T : List AttrV} (h : AttrsRow w B (.slice uo n cap) T) (hj : j < T.length) :
    ∃ g vo vc, uo = some ⟨g, 0, none⟩ ∧ g < w.heap.size ∧ w.cell? ⟨g, j * 2, none⟩ = some (.string T[j].1) ∧ w.cell? ⟨g, j * 2 + 1, none⟩ = some (.slice vo T[j].2.length vc) ∧ w.ownsRow B 9 1 (.slice vo T[j].2.length vc) T[j].2.length (ss T[j].2) := by
  obtain ⟨P, h2, h1, h4⟩ := h
  rcases h2.2 with ⟨_, h0⟩ | ⟨g, cap', cur, e, hg, hk, _⟩
  · omega
  · injection e with e1 e2 e3
    subst e1; subst e2; subst e3
    have hiP : j < P.length := by omega
    obtain ⟨q1, ⟨vo, m, vc, q2⟩, q4⟩ := h4 j hj hiP
    rw [q2] at q4
    obtain rfl : m = T[j].2.length := by obtain ⟨_, _, e⟩ := own_slice q4; injection e
    have c0 := h2.cellAt (j * 2) (by omega)
    have c1 := h2.cellAt (j * 2 + 1) (by omega)
    obtain ⟨p0, p1⟩ := ps_get P j hiP
    rw [p0, q1] at c0; rw [p1, q2] at c1
    exact ⟨g, vo, vc, rfl, (Array.getElem?_eq_some_iff.1 hk).1, c0, c1, q4⟩
theorem own_cellTy {w : World} {B e z n R j T : Nat} {v x a b : Value} {xs : List Value} (h : w.ownsRow B e z v n xs) (ht : Two w R T a b) (hne : e ≠ T) : (w.setCell ⟨R, j, none⟩ x).ownsRow B e z v n xs := by
  refine h.kept (grown_set w R j x) ?_
  rcases h.2 with ⟨rfl, _⟩ | ⟨g, cap, cur, rfl, _, hg, _⟩
  · exact .inl rfl
  · right
    intro e'
    simp [Value.ownBlock] at e'
    subst e'
    unfold Two at ht
    rw [ht] at hg
    injection hg with hg
    injection hg with _ hg
    exact hne hg.symm
theorem LaidV.cellTy {w : World} {B R j T : Nat} {x p q : Value} {P : List PairV} {A : List AttrV} (h : LaidV w B P A) (ht : Two w R T p q) (hne : 9 ≠ T) : LaidV (w.setCell ⟨R, j, none⟩ x) B P A :=
  ⟨h.1, fun i a b => by obtain ⟨q1, q2, q3⟩ := h.2 i a b; exact ⟨q1, q2, own_cellTy q3 ht hne⟩⟩
/-- the state of the walk over the attributes -/
structure SetSt (w w1 : World) (d : RdnL) (l : List AttrV) (nm : ByteArray) (X : List ByteArray) (d0 a0 xo : Option Addr) (dc ac xc N : Nat) (v : Value) (A : List AttrV) (wr : World) : Prop where
  base : Below w.heap.size w wr
  low : Below w1.heap.size w1 wr
  res : Two wr (w.heap.size + 1) 26 (.slice none 0 0) (.slice none 0 0)
  out : Two wr w1.heap.size 26 (.slice d0 d.length dc) (.slice a0 l.length ac)
  att : Two wr N 48 (.string nm) (.slice xo X.length xc)
  txt : wr.ownsRow (w1.heap.size + 1) 9 1 (.slice xo X.length xc) X.length (ss X)
  row : ∃ P : List PairV, wr.ownsRow (w1.heap.size + 1) 48 2 v P.length (ps P) ∧ LaidV wr w.heap.size P A
  far : v.ownBlock ≠ some N
  big : w1.heap.size + 1 ≤ wr.heap.size
section
variable {w w1 wr w' : World} {d : RdnL} {l : List AttrV} {nm : ByteArray} {X : List ByteArray} {d0 a0 xo : Option Addr} {dc ac xc N g cap : Nat} {v : Value} {A : List AttrV}
/-- one more is laid -/
theorem SetSt.more (h : SetSt w w1 d l nm X d0 a0 xo dc ac xc N v A wr) (hw : w.heap.size + 1 < w1.heap.size) (P : List PairV) (hP : wr.ownsRow (w1.heap.size + 1) 48 2 v P.length (ps P)) (hL : LaidV wr w.heap.size P A) {a : AttrV} {u : Value} (hs : IsSl u) (hu : wr.ownsRow w.heap.size 9 1 u a.2.length (ss a.2))
    (ho : w'.ownsRow (w1.heap.size + 1) 48 2 (.slice (some ⟨g, 0, none⟩) (P.length + 1) cap) (P ++ [(a.1, u)]).length (ps (P ++ [(a.1, u)]))) (hb : Below (w1.heap.size + 1) wr w') (hg : wr.grownBy w' v.ownBlock) (hat : v.ownBlock = some g ∨ wr.heap.size ≤ g) :
    SetSt w w1 d l nm X d0 a0 xo dc ac xc N (.slice (some ⟨g, 0, none⟩) (P.length + 1) cap) (A ++ [a]) w' := by
  refine ⟨h.base.trans (hb.mono (by omega)), h.low.trans (hb.mono (Nat.le_succ _)), ?_, ?_, ?_, own_far h.txt hP hg, ⟨P ++ [(a.1, u)], ho, ?_⟩, ?_, Nat.le_trans h.big hb.size⟩
  · exact (hb.block _ (by omega)).trans h.res
  · exact (hb.block _ (Nat.lt_succ_self _)).trans h.out
  · exact (hg.block N h.att.lt (fun e => h.far e.symm)).trans h.att
  · exact (hL.far hP hg).snoc hs (own_far hu hP hg)
  · rcases hat with e | e
    · rw [show (Value.slice (some ⟨g, 0, none⟩) (P.length + 1) cap).ownBlock = some g from rfl, ← e]; exact h.far
    · intro e'
      simp [Value.ownBlock] at e'
      have := h.att.lt
      omega
theorem SetSt.fin {lo : Option Addr} {ln lc : Nat} (h : SetSt w w1 d l nm X d0 a0 xo dc ac xc N (.slice lo ln lc) A wr) (hw : w.heap.size + 1 < w1.heap.size) (OD : w1.ownsRow w.heap.size 97 2 (.slice d0 d.length dc) d.length (rs d)) :
    ln = A.length ∧ (((wr.setCell ⟨w1.heap.size, 1, none⟩ (.slice lo ln lc)).setCell ⟨w.heap.size + 1, 0, none⟩ (.slice d0 d.length dc)).setCell ⟨w.heap.size + 1, 1, none⟩ (.slice lo ln lc)).ownsRow w.heap.size 97 2 (.slice d0 d.length dc) d.length (rs d) ∧ AttrsRow (((wr.setCell ⟨w1.heap.size, 1, none⟩ (.slice lo ln lc)).setCell ⟨w.heap.size + 1, 0, none⟩ (.slice d0 d.length dc)).setCell ⟨w.heap.size + 1, 1, none⟩ (.slice lo ln lc)) w.heap.size (.slice lo ln lc) A ∧
    Below w.heap.size w (((wr.setCell ⟨w1.heap.size, 1, none⟩ (.slice lo ln lc)).setCell ⟨w.heap.size + 1, 0, none⟩ (.slice d0 d.length dc)).setCell ⟨w.heap.size + 1, 1, none⟩ (.slice lo ln lc)) := by
  obtain ⟨P, hP, hL⟩ := h.row
  have hln : ln = A.length := by
    obtain ⟨_, _, e⟩ := own_slice hP
    injection e with _ e _
    rw [e, hL.1]
  have t1 := h.res.far (R := w1.heap.size) (j := 1) (by omega) (.slice lo ln lc)
  have t2 := t1.set0 (.slice d0 d.length dc)
  have hP' := own_cellOut (j := 1) (x := .slice lo ln lc) (own_cellOut (j := 0) (x := .slice d0 d.length dc) (own_cellOut (j := 1) (x := .slice lo ln lc) hP (Nat.lt_succ_self _)) (show w.heap.size + 1 < _ by omega)) (show w.heap.size + 1 < _ by omega)
  have hL' := ((hL.cellTy (j := 1) (x := .slice lo ln lc) h.out (by decide)).cellTy (j := 0) (x := .slice d0 d.length dc) t1 (by decide)).cellTy (j := 1) (x := .slice lo ln lc) t2 (by decide)
  refine ⟨hln, ?_, ?_, ?_⟩
  · exact own_cellTy (own_cellTy (own_cellTy (own_below OD h.low) h.out (by decide)) t1 (by decide)) t2 (by decide)
  · rw [hL.1] at hP'
    exact ⟨P, own_mono hP' (by omega), hL'⟩
  · exact ((h.base.setCell (p := ⟨w1.heap.size, 1, none⟩) (by show w.heap.size ≤ w1.heap.size; omega) _).setCell (p := ⟨w.heap.size + 1, 0, none⟩) (by show w.heap.size ≤ w.heap.size + 1; omega) _).setCell (p := ⟨w.heap.size + 1, 1, none⟩) (by show w.heap.size ≤ w.heap.size + 1; omega) _
theorem SetSt.fcells {lo : Option Addr} {ln lc : Nat} (h : SetSt w w1 d l nm X d0 a0 xo dc ac xc N (.slice lo ln lc) A wr) (hw : w.heap.size + 1 < w1.heap.size) :
    (wr.cell? ⟨w1.heap.size, 1, none⟩ = some (.slice a0 l.length ac) ∧ wr.frozen? ⟨w1.heap.size, 1, none⟩ = false) ∧
    ((wr.setCell ⟨w1.heap.size, 1, none⟩ (.slice lo ln lc)).cell? ⟨w1.heap.size, 0, none⟩ = some (.slice d0 d.length dc) ∧ (wr.setCell ⟨w1.heap.size, 1, none⟩ (.slice lo ln lc)).cell? ⟨w1.heap.size, 1, none⟩ = some (.slice lo ln lc)) ∧
    ((wr.setCell ⟨w1.heap.size, 1, none⟩ (.slice lo ln lc)).cell? ⟨w.heap.size + 1, 0, none⟩ = some (.slice none 0 0) ∧ (wr.setCell ⟨w1.heap.size, 1, none⟩ (.slice lo ln lc)).cell? ⟨w.heap.size + 1, 1, none⟩ = some (.slice none 0 0) ∧ (wr.setCell ⟨w1.heap.size, 1, none⟩ (.slice lo ln lc)).frozen? ⟨w.heap.size + 1, 0, none⟩ = false ∧ (wr.setCell ⟨w1.heap.size, 1, none⟩ (.slice lo ln lc)).frozen? ⟨w.heap.size + 1, 1, none⟩ = false) ∧
    ((((wr.setCell ⟨w1.heap.size, 1, none⟩ (.slice lo ln lc)).setCell ⟨w.heap.size + 1, 0, none⟩ (.slice d0 d.length dc)).setCell ⟨w.heap.size + 1, 1, none⟩ (.slice lo ln lc)).cell? ⟨w.heap.size + 1, 0, none⟩ = some (.slice d0 d.length dc) ∧ (((wr.setCell ⟨w1.heap.size, 1, none⟩ (.slice lo ln lc)).setCell ⟨w.heap.size + 1, 0, none⟩ (.slice d0 d.length dc)).setCell ⟨w.heap.size + 1, 1, none⟩ (.slice lo ln lc)).cell? ⟨w.heap.size + 1, 1, none⟩ = some (.slice lo ln lc)) := by
  have t1 := h.res.far (R := w1.heap.size) (j := 1) (by omega) (.slice lo ln lc)
  have t0 := h.out.set1 (.slice lo ln lc)
  obtain ⟨⟨a1, a2⟩, a3, a4⟩ := h.out.cells
  obtain ⟨⟨b1, b2⟩, _⟩ := t0.cells
  obtain ⟨⟨c1, c2⟩, c3, c4⟩ := t1.cells
  obtain ⟨⟨e1, e2⟩, _⟩ := ((t1.set0 (.slice d0 d.length dc)).set1 (.slice lo ln lc)).cells
  exact ⟨⟨a2, a4⟩, ⟨b1, b2⟩, ⟨c1, c2, c3, c4⟩, e1, e2⟩
end
set_option maxRecDepth 100000 in
set_option maxHeartbeats 1000000 in
theorem l03Set_any (ao bo vo : Option Addr) (d : RdnL) (l : List AttrV) (V : List ByteArray) (ca cb vc : Nat) (nm : ByteArray) (w : World) (hd : DnAt w ao d) (hl : AttrsAt w bo l) (hv : StrsAt w vo V) (hfd : Fits d) (hfl : FitsA l) (hfv : FitsV V) (h8 : l.length ≤ 400) (h12 : V.length ≤ 400) (hac : ao = none → ca = 0) (hinc : incB nameLt l = true) :
    Calls Tryz.prog 101 #[.agg #[.slice ao d.length ca, .slice bo l.length cb], .string nm, .slice vo V.length vc] w fun e w' => (∃ xo xc yo yc, e = .returned (.agg #[.slice xo d.length xc, .slice yo (setL l nm (sortN V)).length yc]) ∧ w'.ownsRow w.heap.size 97 2 (.slice xo d.length xc) d.length (rs d) ∧ AttrsRow w' w.heap.size (.slice yo (setL l nm (sortN V)).length yc) (setL l nm (sortN V))) ∧ Below w.heap.size w w' := by
  have HD := Lib.hid hd; have HL := Lib.hid hl; have HV := Lib.hid hv; have FD := Lib.hid hfd; have FL := Lib.hid hfl; have FV := Lib.hid hfv; have HI := Lib.hid hinc; clear hd hl hv hfd hfl hfv hinc
  go_enter Tryz.func101, Tryz.ntmps101
  go_wp2_with fail
  refine calls_any' (fun W => Below w.heap.size w W ∧ Two W (w.heap.size + 1) 26 (.slice none 0 0) (.slice none 0 0)) ⟨more (more (Below.refl _ _) _) _, twoNext w _ 26 _ _⟩ ?_
  rintro W ⟨hbW, t1⟩
  refine (l03Copy_any ao bo d l ca cb W (HD.out.below hbW) (HL.out.below hbW) FD.out FL.out h8 hac).mono ?_
  rintro e w1 ⟨⟨d0, dc, a0, ac, rfl, od, oa⟩, b1⟩
  have B1 := Lib.hid (hbW.trans (b1.mono hbW.size)); have T1 := Lib.hid (t1.below b1); have OD := Lib.hid (own_mono od hbW.size); have OA := Lib.hid (oa.mono hbW.size)
  clear hbW t1 b1 od oa
  have hT1 := T1.out.lt
  go_wp2_with fail
  refine calls_any' (fun Y => Below w1.heap.size w1 Y ∧ Two Y w1.heap.size 26 (.slice d0 d.length dc) (.slice a0 l.length ac) ∧ Y.ownsRow (w1.heap.size + 1) 48 2 (.slice (some ⟨w1.heap.size + 1, 0, none⟩) 0 0) 0 (ps []) ∧ w1.heap.size + 1 < Y.heap.size) ⟨more (more (Below.refl _ _) _) _, (twoNew w1 26 _ _).alloc _, own_zeroP _ (by simp) (by simp), by simp⟩ ?_
  rintro Y ⟨hbY, tY, oY, hY⟩
  refine (l03Sort_any vo V vc Y (HV.out.below (B1.out.trans (hbY.mono B1.out.size))) FV.out h12).mono ?_
  rintro e w2 ⟨⟨v2, rfl, o2⟩, b2⟩
  obtain ⟨xo, xc, rfl⟩ := own_slice o2
  have hX : decide (sortN V = []) = ((V.length : Int) == 0) := by
    have := sortN_len V
    rw [Bool.eq_iff_iff, decide_eq_true_eq, beq_iff_eq]
    constructor
    · intro e; rw [e] at this; simp at this; omega
    · intro e; exact List.length_eq_zero_iff.1 (by omega)
  have ST : Hid (SetSt w w1 d l nm (sortN V) d0 a0 xo dc ac xc w2.heap.size (.slice (some ⟨w1.heap.size + 1, 0, none⟩) 0 0) (accL l nm (sortN V) 0) (w2.alloc (.cells #[.string nm, .slice xo (sortN V).length xc] 48))) := Lib.hid (by
    have hal := more (Below.refl w2.heap.size w2) (.cells #[.string nm, .slice xo (sortN V).length xc] 48)
    have hb12 := hbY.trans (b2.mono hbY.size)
    have hw2 := b2.size
    refine ⟨more (B1.out.trans (hb12.mono B1.out.size)) _, hb12.trans (hal.mono hb12.size), ((T1.out.below hb12).alloc _), ((tY.below b2).alloc _), twoNew w2 48 _ _, own_below (own_mono o2 (by omega)) hal, ⟨[], own_below (own_below oY b2) hal, ?_⟩, ?_, by simp; omega⟩
    · rw [acc_zero.1]; exact ⟨rfl, fun i h => by simp at h⟩
    · simp [Value.ownBlock]; omega)
  have HX := Lib.hid hX
  clear hX hbY tY oY hY b2 o2 T1 B1
  go_wp2_with fail
  refine wp_world (fun Z => SetSt w w1 d l nm (sortN V) d0 a0 xo dc ac xc w2.heap.size (.slice (some ⟨w1.heap.size + 1, 0, none⟩) 0 0) (accL l nm (sortN V) 0) Z) ST.out ?_
  rintro Z hZ
  clear ST
  have H0 := Lib.hid (acc_zero (T := l) (nm := nm) (X := sortN V)).2
  have HEnd1 := Lib.hid (acc_end1 (T := l) (nm := nm) (X := sortN V))
  have HEnd0 := Lib.hid (acc_end0 (T := l) (nm := nm) (X := sortN V))
  have HLn := Lib.hid (acc_len (T := l) (nm := nm) (X := sortN V))
  rw [← HX.out, ← H0.out]
  generalize hXe : sortN V = X at *
  have HXe := Lib.hid hXe; clear hXe
  generalize w2.heap.size = N at *
  have HR := Lib.hid hT1
  go_loopw [8, 10, 11] (fun v b i wr => ∃ k : Nat, k ≤ l.length ∧ i = .int .i64 k ∧ b = .bool (doneB l nm X k) ∧ IsSl v ∧ SetSt w w1 d l nm X d0 a0 xo dc ac xc N v (accL l nm X k) wr) (fun _ _ i _ => l.length - (intOf i).toNat)
  case atStart => exact ⟨0, Nat.zero_le _, rfl, rfl, ⟨_, _, _, rfl⟩, hZ⟩
  case round =>
    clear hZ
    obtain ⟨k, hk, rfl, rfl, ⟨lo, ln, lc, rfl⟩, hst⟩ := hrel
    obtain ⟨P, hP, hLa⟩ := hst.row
    have ST := Lib.hid hst; have HP := Lib.hid hP; have HLa := Lib.hid hLa
    obtain ⟨⟨c0, c1⟩, _⟩ := ST.out.out.cells
    obtain ⟨⟨x0, x1⟩, _⟩ := ST.out.att.cells
    have hPl : P.length ≤ 1000000000 := by have := hLa.1; have := HLn.out k; omega
    have hbig := ST.out.big
    have hb0 : Below (w1.heap.size + 1) wr wr := Below.refl _ _
    clear hst hP hLa
    by_cases hlt : k < l.length
    · obtain ⟨ga, yo, yc, rfl, hga, d1, d2, oy⟩ := (OA.out.below ST.out.low).at hlt
      have OY := Lib.hid oy
      have g1 : (0 : Int) ≤ (k : Int) := by omega
      have g2 : (k : Int) < (l.length : Int) := by omega
      clear oy
      have HSx : Hid (∀ (w' : World) (g cap : Nat), w'.ownsRow (w1.heap.size + 1) 48 2 (.slice (some ⟨g, 0, none⟩) (P.length + 1) cap) (P ++ [(nm, Value.slice xo X.length xc)]).length (ps (P ++ [(nm, Value.slice xo X.length xc)])) → Below (w1.heap.size + 1) wr w' → wr.grownBy w' (Value.slice lo ln lc).ownBlock → ((Value.slice lo ln lc).ownBlock = some g ∨ wr.heap.size ≤ g) → SetSt w w1 d l nm X d0 (some ⟨ga, 0, none⟩) xo dc ac xc N (.slice (some ⟨g, 0, none⟩) (P.length + 1) cap) (accL l nm X k ++ [(nm, X)]) w' ∧ LaidV w' w.heap.size (P ++ [(nm, Value.slice xo X.length xc)]) (accL l nm X k ++ [(nm, X)])) :=
        Lib.hid (fun w' g cap h1 h2 h3 h4 => ⟨ST.out.more HR.out P HP.out HLa.out (a := (nm, X)) ⟨_, _, _, rfl⟩ (own_mono ST.out.txt (by omega)) h1 h2 h3 h4, (HLa.out.far HP.out h3).snoc (a := (nm, X)) ⟨_, _, _, rfl⟩ (own_far (own_mono ST.out.txt (by omega)) HP.out h3)⟩)
      have HSy : Hid (∀ (w' : World) (g cap : Nat), w'.ownsRow (w1.heap.size + 1) 48 2 (.slice (some ⟨g, 0, none⟩) (P.length + 1) cap) (P ++ [(l[k].1, Value.slice yo l[k].2.length yc)]).length (ps (P ++ [(l[k].1, Value.slice yo l[k].2.length yc)])) → Below (w1.heap.size + 1) wr w' → wr.grownBy w' (Value.slice lo ln lc).ownBlock → ((Value.slice lo ln lc).ownBlock = some g ∨ wr.heap.size ≤ g) → SetSt w w1 d l nm X d0 (some ⟨ga, 0, none⟩) xo dc ac xc N (.slice (some ⟨g, 0, none⟩) (P.length + 1) cap) (accL l nm X k ++ [l[k]]) w') :=
        Lib.hid (fun w' g cap h1 h2 h3 h4 => ST.out.more HR.out P HP.out HLa.out ⟨_, _, _, rfl⟩ OY.out h1 h2 h3 h4)
      have hqn : (l[k].1.toList == nm.toList) = decide (l[k].1 = nm) := name_eq _ _
      cases hdn : doneB l nm X k
      · cases hql : Op.bytesLess nm.toList l[k].1.toList
        · by_cases hen : l[k].1 = nm
          · have hq : (l[k].1.toList == nm.toList) = true := by rw [hqn]; simpa using hen
            obtain ⟨e1, e2⟩ := acc_b hlt hdn hen
            have HE1 := Lib.hid e1; have HE2 := Lib.hid e2
            clear hen hqn e1 e2 hdn HSy
            generalize l[k].1 = A at *
            go_wp2_with (first
              | (at_builtin; refine append_one_pair (w1.heap.size + 1) rfl _ _ rfl (.slice lo ln lc) P rfl HP.out (nm, .slice xo X.length xc) ⟨_, _, _, rfl⟩ rfl hPl hbig hb0 ?_; intro g3 cp3 w3 hown3 hbel3 hsz3 hgr3 hat3)
              | (fail "none"))
            go_roundw
            case rel =>
              have hs3 := (HSx.out w3 g3 cp3 hown3 hbel3 hgr3 hat3).1
              rw [← HE1.out] at hs3
              exact ⟨k + 1, by omega, by go_num, by rw [HE2.out], ⟨_, _, _, rfl⟩, hs3⟩
            case measure => simp [intOf]; omega
          · have hq : (l[k].1.toList == nm.toList) = false := by rw [hqn]; simpa using hen
            obtain ⟨e1, e2⟩ := acc_c hlt hdn hql hen
            have HE1 := Lib.hid e1; have HE2 := Lib.hid e2
            clear hen hqn e1 e2 hdn HSx
            have HSy' := Lib.hid HSy.out
            clear HSy
            rw [← HE1.out] at HSy'
            generalize l[k].1 = A at *
            generalize l[k].2.length = n at *
            go_wp2_with (first
              | (at_builtin; refine append_one_pair (w1.heap.size + 1) rfl _ _ rfl (.slice lo ln lc) P rfl HP.out (A, .slice yo n yc) ⟨_, _, _, rfl⟩ rfl hPl hbig hb0 ?_; intro g3 cp3 w3 hown3 hbel3 hsz3 hgr3 hat3)
              | (fail "none"))
            go_roundw
            case rel =>
              exact ⟨k + 1, by omega, by go_num, by rw [HE2.out], ⟨_, _, _, rfl⟩, HSy'.out w3 g3 cp3 hown3 hbel3 hgr3 hat3⟩
            case measure => simp [intOf]; omega
        · have hen : l[k].1 ≠ nm := fun e => by rw [e, less_irrefl] at hql; cases hql
          have hq : (l[k].1.toList == nm.toList) = false := by rw [hqn]; simpa using hen
          obtain ⟨e1, e2⟩ := acc_a hlt hdn hql
          have HE1 := Lib.hid e1; have HE2 := Lib.hid e2
          have HP2 : Hid ((P ++ [(nm, Value.slice xo X.length xc)]).length = P.length + 1) := Lib.hid (by simp)
          have HSz : Hid (∀ (w3 : World) (g3 cp3 : Nat) (w' : World) (g cap : Nat), w3.ownsRow (w1.heap.size + 1) 48 2 (.slice (some ⟨g3, 0, none⟩) (P.length + 1) cp3) (P ++ [(nm, Value.slice xo X.length xc)]).length (ps (P ++ [(nm, Value.slice xo X.length xc)])) → Below (w1.heap.size + 1) wr w3 → wr.grownBy w3 (Value.slice lo ln lc).ownBlock → ((Value.slice lo ln lc).ownBlock = some g3 ∨ wr.heap.size ≤ g3) →
              w'.ownsRow (w1.heap.size + 1) 48 2 (.slice (some ⟨g, 0, none⟩) ((P ++ [(nm, Value.slice xo X.length xc)]).length + 1) cap) ((P ++ [(nm, Value.slice xo X.length xc)]) ++ [(l[k].1, Value.slice yo l[k].2.length yc)]).length (ps ((P ++ [(nm, Value.slice xo X.length xc)]) ++ [(l[k].1, Value.slice yo l[k].2.length yc)])) → Below (w1.heap.size + 1) w3 w' → w3.grownBy w' (Value.slice (some ⟨g3, 0, none⟩) (P.length + 1) cp3).ownBlock → ((Value.slice (some ⟨g3, 0, none⟩) (P.length + 1) cp3).ownBlock = some g ∨ w3.heap.size ≤ g) →
              SetSt w w1 d l nm X d0 (some ⟨ga, 0, none⟩) xo dc ac xc N (.slice (some ⟨g, 0, none⟩) ((P ++ [(nm, Value.slice xo X.length xc)]).length + 1) cap) (accL l nm X (k + 1)) w') :=
            Lib.hid (fun w3 g3 cp3 w' g cap h1 h2 h3 h4 h5 h6 h7 h8 => by
              obtain ⟨s1, s2⟩ := HSx.out w3 g3 cp3 h1 h2 h3 h4
              rw [HE1.out]
              exact s1.more HR.out _ h1 s2 ⟨_, _, _, rfl⟩ (own_far OY.out HP.out h3) h5 h6 h7 h8)
          have HCf : Hid (∀ w3 : World, Below (w1.heap.size + 1) wr w3 → Below w1.heap.size w1 w3 ∧ Two w3 w1.heap.size 26 (.slice d0 d.length dc) (.slice (some ⟨ga, 0, none⟩) l.length ac)) := Lib.hid (fun w3 h => ⟨ST.out.low.trans (h.mono (Nat.le_succ _)), (h.block _ (Nat.lt_succ_self _)).trans ST.out.out⟩)
          have hgA : ga < w1.heap.size := by obtain ⟨g', _, _, e', h', _⟩ := OA.out.at hlt; injection e' with e'; injection e' with e'; subst e'; exact h'
          have HDd : Hid (∀ w3 : World, Below (w1.heap.size + 1) wr w3 → w3.cell? ⟨ga, k * 2, none⟩ = some (.string l[k].1) ∧ w3.cell? ⟨ga, k * 2 + 1, none⟩ = some (.slice yo l[k].2.length yc)) := Lib.hid (fun w3 h => ⟨(h.cell (p := ⟨ga, k * 2, none⟩) (by show ga < w1.heap.size + 1; omega)).trans d1, (h.cell (p := ⟨ga, k * 2 + 1, none⟩) (by show ga < w1.heap.size + 1; omega)).trans d2⟩)
          clear hen hqn e1 e2 hdn HSx HSy
          have hPl2 : (P ++ [(nm, Value.slice xo X.length xc)]).length ≤ 1000000000 := by have := HLa.out.1; have := HLn.out k; rw [HP2.out]; omega
          generalize l[k].1 = A at *
          generalize l[k].2.length = n at *
          go_wp2_with (first
            | (at_builtin; refine append_one_pair (w1.heap.size + 1) rfl _ _ rfl (.slice lo ln lc) P rfl HP.out (nm, .slice xo X.length xc) ⟨_, _, _, rfl⟩ rfl hPl hbig hb0 ?_; intro g3 cp3 w3 hown3 hbel3 hsz3 hgr3 hat3; have O3 := Lib.hid hown3; have B3 := Lib.hid hbel3; have G3 := Lib.hid hgr3; have A3 := Lib.hid hat3; clear hown3 hgr3 hat3; obtain ⟨⟨_, q1⟩, _⟩ := (HCf.out w3 hbel3).2.cells; obtain ⟨q2, q3⟩ := HDd.out w3 hbel3; clear hbel3; have hb3 : Below (w1.heap.size + 1) w3 w3 := Below.refl _ _)
            | (at_builtin; refine append_one_pair (w1.heap.size + 1) rfl _ _ rfl (.slice (some ⟨g3, 0, none⟩) (P.length + 1) cp3) (P ++ [(nm, Value.slice xo X.length xc)]) rfl O3.out (A, .slice yo n yc) ⟨_, _, _, rfl⟩ rfl hPl2 hsz3 hb3 ?_; intro g4 cp4 w4 hown4 hbel4 hsz4 hgr4 hat4)
            | (fail "none"))
          go_roundw
          case rel =>
            have hs4 := HSz.out w3 g3 cp3 w4 g4 cp4 O3.out B3.out G3.out A3.out hown4 hbel4 hgr4 hat4
            rw [HP2.out] at hs4
            exact ⟨k + 1, by omega, by go_num, by rw [HE2.out], ⟨_, _, _, rfl⟩, hs4⟩
          case measure => simp [intOf]; omega
      · by_cases hen : l[k].1 = nm
        · have hq : (l[k].1.toList == nm.toList) = true := by rw [hqn]; simpa using hen
          obtain ⟨e1, e2⟩ := acc_d hlt hdn hen
          have HE1 := Lib.hid e1; have HE2 := Lib.hid e2
          clear hen hqn e1 e2 hdn HSx HSy
          generalize l[k].1 = A at *
          go_wp2_with fail
          go_roundw
          case rel => exact ⟨k + 1, by omega, by go_num, by rw [HE2.out], ⟨_, _, _, rfl⟩, by rw [HE1.out]; exact ST.out⟩
          case measure => simp [intOf]; omega
        · have hq : (l[k].1.toList == nm.toList) = false := by rw [hqn]; simpa using hen
          obtain ⟨e1, e2⟩ := acc_e HI.out hlt hdn hen
          have HE1 := Lib.hid e1; have HE2 := Lib.hid e2
          clear hen hqn e1 e2 hdn HSx
          have HSy' := Lib.hid HSy.out
          clear HSy
          rw [← HE1.out] at HSy'
          generalize l[k].1 = A at *
          generalize l[k].2.length = n at *
          go_wp2_with (first
            | (at_builtin; refine append_one_pair (w1.heap.size + 1) rfl _ _ rfl (.slice lo ln lc) P rfl HP.out (A, .slice yo n yc) ⟨_, _, _, rfl⟩ rfl hPl hbig hb0 ?_; intro g3 cp3 w3 hown3 hbel3 hsz3 hgr3 hat3)
            | (fail "none"))
          go_roundw
          case rel =>
            exact ⟨k + 1, by omega, by go_num, by rw [HE2.out], ⟨_, _, _, rfl⟩, HSy'.out w3 g3 cp3 hown3 hbel3 hgr3 hat3⟩
          case measure => simp [intOf]; omega
    · have e : k = l.length := by omega
      subst e
      cases hdn : doneB l nm X l.length
      · have HE := Lib.hid (HEnd0.out hdn)
        have HSx : Hid (∀ (w' : World) (g cap : Nat), w'.ownsRow (w1.heap.size + 1) 48 2 (.slice (some ⟨g, 0, none⟩) (P.length + 1) cap) (P ++ [(nm, Value.slice xo X.length xc)]).length (ps (P ++ [(nm, Value.slice xo X.length xc)])) → Below (w1.heap.size + 1) wr w' → wr.grownBy w' (Value.slice lo ln lc).ownBlock → ((Value.slice lo ln lc).ownBlock = some g ∨ wr.heap.size ≤ g) → SetSt w w1 d l nm X d0 a0 xo dc ac xc N (.slice (some ⟨g, 0, none⟩) (P.length + 1) cap) (setL l nm X) w') :=
          Lib.hid (fun w' g cap h1 h2 h3 h4 => by
            rw [← HE.out]
            exact ST.out.more HR.out P HP.out HLa.out (a := (nm, X)) ⟨_, _, _, rfl⟩ (own_mono ST.out.txt (by omega)) h1 h2 h3 h4)
        clear hdn HE
        go_wp2_with (first
          | (at_builtin; refine append_one_pair (w1.heap.size + 1) rfl _ _ rfl (.slice lo ln lc) P rfl HP.out (nm, .slice xo X.length xc) ⟨_, _, _, rfl⟩ rfl hPl hbig hb0 ?_; intro g3 cp3 w3 hown3 hbel3 hsz3 hgr3 hat3; have S3 := Lib.hid (HSx.out w3 g3 cp3 hown3 hbel3 hgr3 hat3); clear hown3 hbel3 hgr3 hat3 c0 c1 x0 x1; obtain ⟨⟨a1, a2⟩, ⟨b1, b2⟩, ⟨i1, i2, i3, i4⟩, j1, j2⟩ := S3.out.fcells hT1)
          | (fail "none"))
        obtain ⟨f1, f2, f3, f4⟩ := S3.out.fin HR.out OD.out
        refine bodyPost_ret (v := .agg #[.slice d0 d.length dc, .slice (some ⟨g3, 0, none⟩) (P.length + 1) cp3]) (by simp [results, Tryz.results101, go_sem, j1, j2]) rfl ⟨⟨d0, dc, some ⟨g3, 0, none⟩, cp3, by rw [HXe.out, ← f1], f2, by rw [HXe.out, ← f1]; exact f3⟩, f4⟩
      · have HE := Lib.hid (HEnd1.out hdn)
        have S3 : Hid (SetSt w w1 d l nm X d0 a0 xo dc ac xc N (.slice lo ln lc) (setL l nm X) wr) := Lib.hid (by rw [← HE.out]; exact ST.out)
        clear hdn HE c0 c1
        obtain ⟨⟨c0, c1⟩, _⟩ := ST.out.out.cells
        obtain ⟨⟨a1, a2⟩, ⟨b1, b2⟩, ⟨i1, i2, i3, i4⟩, j1, j2⟩ := S3.out.fcells hT1
        go_wp2_with fail
        obtain ⟨f1, f2, f3, f4⟩ := S3.out.fin HR.out OD.out
        refine bodyPost_ret (v := .agg #[.slice d0 d.length dc, .slice lo ln lc]) (by simp [results, Tryz.results101, go_sem, j1, j2]) rfl ⟨⟨d0, dc, lo, lc, by rw [HXe.out, ← f1], f2, by rw [HXe.out, ← f1]; exact f3⟩, f4⟩
end Go.Proofs.YtjajpdghamecoaaGreat
/- HasValue: what the specification returns. -/
namespace Go.Proofs.YtjajpdghamecoaaGreat
open Go.RowKit
attribute [local go_sem ↓] Go.wp_at_zero Go.wp_at_succ

theorem likeV_eq (val v : ByteArray) : likeV val v = ((normS v).toList == (normS val).toList) := rfl
set_option maxRecDepth 100000 in
set_option maxHeartbeats 1000000 in
theorem l03In_any (vo : Option Addr) (V : List ByteArray) (vc : Nat) (val : ByteArray) (w : World) (hd : StrsAt w vo V) (hf : FitsV V) :
    Calls Tryz.prog 100 #[.slice vo V.length vc, .string (normS val)] w fun e w' => e = .returned (.int .i64 (findI (likeV val) V)) ∧ Below w.heap.size w w' := by
  have hl := hf.1
  have HD := Lib.hid hd; have HF := Lib.hid hf; clear hd hf
  go_enter Tryz.func100, Tryz.ntmps100
  go_wp2_with fail
  go_loopw [5] (fun i wr => ∃ k : Nat, k ≤ V.length ∧ i = .int .i64 k ∧ (∀ j (h : j < V.length), j < k → likeV val V[j] = false) ∧ Below w.heap.size w wr) (fun i _ => V.length - (intOf i).toNat)
  case atStart => exact ⟨0, Nat.zero_le _, rfl, fun j _ h => absurd h (Nat.not_lt_zero _), Below.refl _ _⟩
  case round =>
    obtain ⟨k, hk, rfl, hj, hbel⟩ := hrel
    have Hj := Lib.hid hj; clear hj
    by_cases hlt : k < V.length
    · obtain ⟨p, off, rfl, hp0, hd1⟩ := HD.out.at hlt
      have c1 := (hbel.cell (p := ⟨p, off + k, none⟩) hp0).trans hd1
      have hz := HF.out.max hlt
      have g1 : (0 : Int) ≤ (k : Int) := by omega
      have g2 : (k : Int) < (V.length : Int) := by omega
      have HX : Hid (likeV val V[k] = true → findI (likeV val) V = (k : Int)) := Lib.hid (fun h => findI_some hlt h Hj.out)
      have HN : Hid (likeV val V[k] = false → ∀ j (h : j < V.length), j < k + 1 → likeV val V[j] = false) := Lib.hid (fun hn j h hjk => by
        by_cases e : j = k
        · subst e; exact hn
        · exact Hj.out j h (by omega))
      have HQ := Lib.hid (likeV_eq val V[k])
      have H93 : Hid (Calls Tryz.prog 99 #[.string V[k]] wr fun e w' => e = .returned (.string (normS V[k])) ∧ Below w.heap.size w w') := Lib.hid (SpecNorm_from w V[k] wr hz hbel)
      clear hd1
      generalize V[k] = x at *
      generalize normS x = nx at *
      generalize normS val = nv at *
      cases hq : (nx.toList == nv.toList)
      · have HN' := Lib.hid (HN.out (HQ.out.trans hq))
        go_wp2_with fail
        refine H93.out.mono ?_
        rintro e w1 ⟨rfl, hb1⟩
        go_wp2
        go_roundw
        case rel => exact ⟨k + 1, by omega, by go_num, HN'.out, hb1⟩
        case measure => simp [intOf]; omega
      · have HX' := Lib.hid (HX.out (HQ.out.trans hq))
        go_wp2_with fail
        refine H93.out.mono ?_
        rintro e w1 ⟨rfl, hb1⟩
        go_wp2
        go_ret
        exact ⟨ret_int' HX'.out.symm, hb1⟩
    · have HT := Lib.hid (findI_none (p := likeV val) (l := V) (fun i hi => Hj.out i hi (by omega)))
      go_wp2
      go_ret
      exact ⟨ret_int' HT.out.symm, hbel⟩
theorem vals_proper {d : RdnL} {l : List AttrV} (h : rightB d l = true) {nm v : ByteArray} (hv : v ∈ valsOf l nm) : valB v = true := by
  cases ha : atN l nm with
  | none => rw [(atN_none ha).2] at hv; simp at hv
  | some i =>
    obtain ⟨hi, _, h2, _⟩ := atN_some ha
    rw [h2] at hv
    unfold rightB attrsB at h
    simp only [Bool.and_eq_true, List.all_eq_true] at h
    have := h.2.1.2 _ (List.getElem_mem hi)
    unfold attrB valsB at this
    simp only [Bool.and_eq_true, List.all_eq_true] at this
    exact this.2.1.2 v hv
/-- an empty normalized form is that of no value of an entry -/
theorem has_empty {d : RdnL} {l : List AttrV} {nm val : ByteArray} (h : (normS val).toList = []) : findI (likeV val) (attrOfL d l nm) = -1 := by
  refine findI_none fun i hi => ?_
  have hm := List.getElem_mem hi
  cases hr : rightB d l
  · rw [attrOf_no hr] at hi; simp at hi
  · rw [likeV_eq, h]
    have : valB (attrOfL d l nm)[i] = true := by
      refine vals_proper hr (nm := nm) ?_
      have e := attrOf_yes hr nm
      rw [← e]; exact hm
    unfold valB at this
    simp only [Bool.and_eq_true] at this
    have h2 := this.2
    cases hq : (normS (attrOfL d l nm)[i]).toList with
    | nil => rw [hq] at h2; simp at h2
    | cons a b => rfl
theorem norm_long {val : ByteArray} (h : 100 < val.size) : (normS val).toList = [] := by
  rw [Lib.toList_data]
  unfold normS normL
  have : ¬ (val.data.toList.length ≤ 100 ∧ plainB val.data.toList = true) := by rw [size_len]; omega
  rw [if_neg this]
theorem hasB_long {d : RdnL} {l : List AttrV} {nm val : ByteArray} (h : 8000 < nm.size ∨ 8000 < val.size) : hasB d l nm val = false := by
  unfold hasB
  rcases h with h | h
  · rw [attrOf_long (by omega), findI_none (fun i hi => by simp at hi)]; rfl
  · rw [has_empty (norm_long (by omega))]; rfl
theorem hasB_no {d : RdnL} {l : List AttrV} {nm val : ByteArray} (h : rightB d l = false) : hasB d l nm val = false := by
  unfold hasB
  rw [attrOf_no h, findI_none (fun i hi => by simp at hi)]; rfl
theorem hasB_empty {d : RdnL} {l : List AttrV} {nm val : ByteArray} (h : (normS val).toList = []) : hasB d l nm val = false := by
  unfold hasB; rw [has_empty h]; rfl
theorem hasB_yes {d : RdnL} {l : List AttrV} {nm val : ByteArray} (h : rightB d l = true) : hasB d l nm val = decide (0 ≤ findI (likeV val) (valsOf l nm)) := by
  unfold hasB; rw [attrOf_yes h]
set_option maxRecDepth 100000 in
set_option maxHeartbeats 1000000 in
theorem l03Has_any (ao bo : Option Addr) (d : RdnL) (l : List AttrV) (ca cb : Nat) (nm val : ByteArray) (w : World) (hl : AttrsAt w bo l) (hfl : FitsA l) (hv : val.size ≤ maxLen) (hr : rightB d l = true) :
    Calls Tryz.prog 59 #[.agg #[.slice ao d.length ca, .slice bo l.length cb], .string nm, .string val] w fun e w' => e = .returned (.bool (hasB d l nm val)) ∧ Below w.heap.size w w' := by
  have HL := Lib.hid hl; have FL := Lib.hid hfl; clear hl hfl
  have HY := Lib.hid (hasB_yes (nm := nm) (val := val) hr)
  clear hr
  go_enter Tryz.func59, Tryz.ntmps59
  go_wp2_with fail
  refine calls_any' (fun W => Below w.heap.size w W ∧ Two W w.heap.size 26 (.slice ao d.length ca) (.slice bo l.length cb)) ⟨more (Below.refl _ _) _, twoNew w 26 _ _⟩ ?_
  rintro W ⟨hbW, t0⟩
  refine (SpecNorm_from W val W hv (Below.refl _ _)).mono ?_
  rintro e w1 ⟨rfl, hb1⟩
  have B1 := Lib.hid (hbW.trans (hb1.mono hbW.size)); have T1 := Lib.hid (t0.below hb1)
  clear hbW t0 hb1
  obtain ⟨⟨c0, c1⟩, _⟩ := T1.out.cells
  by_cases he : (normS val).toList = []
  · have HE := Lib.hid (hasB_empty (d := d) (l := l) (nm := nm) he)
    have h1 : ((normS val).toList == []) = true := by rw [he]; rfl
    generalize normS val = nv at *
    go_wp2
    go_ret
    exact ⟨ret_bool HE.out.symm, B1.out⟩
  · have h1 : ((normS val).toList == []) = false := by simpa using he
    have h2 : (normS val).toList.isEmpty = false := by simpa using he
    have HI := Lib.hid (fun vo V vc W h f => l03In_any vo V vc val W h f)
    generalize normS val = nv at *
    have HEq := Lib.hid he; clear he
    go_wp2_with fail
    refine (l03Of_any ao bo d l ca cb nm w1 (HL.out.below B1.out) FL.out).mono ?_
    rintro e w2 ⟨⟨vo, vc, rfl, hv2⟩, hb2⟩
    have HV := Lib.hid hv2.1
    have FV := Lib.hid (valsOf_fits FL.out nm)
    have B2 := Lib.hid (B1.out.trans (hb2.mono B1.out.size))
    clear hv2 hb2 c0 c1
    generalize valsOf l nm = V at *
    go_wp2_with fail
    refine (HI.out vo V vc w2 HV.out FV.out).mono ?_
    rintro e w3 ⟨rfl, hb3⟩
    have B3 := Lib.hid (B2.out.trans (hb3.mono B2.out.size))
    clear hb3 HI
    generalize findI (likeV val) V = r at *
    by_cases h0 : 0 ≤ r
    · go_wp2
      go_ret
      exact ⟨ret_bool (by rw [HY.out]; first | done | simpa using h0), B3.out⟩
    · have h0' : r < 0 := by omega
      go_wp2
      go_ret
      exact ⟨ret_bool (by rw [HY.out]; first | done | simpa using h0'), B3.out⟩
set_option maxRecDepth 100000 in
set_option maxHeartbeats 1000000 in
theorem SpecHasValue_any (ao bo : Option Addr) (d : RdnL) (l : List AttrV) (ca cb : Nat) (nm val : ByteArray) (w : World) (hd : DnAt w ao d) (hl : AttrsAt w bo l) (hfd : Fits d) (hfl : FitsA l) (hn : nm.size ≤ maxLen) (hv : val.size ≤ maxLen) :
    Calls Tryz.prog 17 #[.agg #[.slice ao d.length ca, .slice bo l.length cb], .string nm, .string val] w fun e w' => e = .returned (.bool (hasB d l nm val)) ∧ Below w.heap.size w w' := by
  have HD := Lib.hid hd; have HL := Lib.hid hl; have FD := Lib.hid hfd; have FL := Lib.hid hfl; have Hv := Lib.hid hv; clear hd hl hfd hfl
  unfold maxLen at hn hv
  have B0 := Lib.hid (more (Below.refl w.heap.size w) (.cells #[.slice ao d.length ca, .slice bo l.length cb] 26))
  by_cases h1 : 8000 < nm.size
  · have HE := Lib.hid (hasB_long (d := d) (l := l) (nm := nm) (val := val) (.inl h1))
    have g : ¬ (nm.size : Int) ≤ 8000 := by omega
    go_enter Tryz.func17, Tryz.ntmps17
    go_wp2
    go_ret
    exact ⟨ret_bool HE.out.symm, B0.out⟩
  · have g : (nm.size : Int) ≤ 8000 := by omega
    by_cases h2 : 8000 < val.size
    · have HE := Lib.hid (hasB_long (d := d) (l := l) (nm := nm) (val := val) (.inr h2))
      have g' : ¬ (val.size : Int) ≤ 8000 := by omega
      go_enter Tryz.func17, Tryz.ntmps17
      go_wp2
      go_ret
      exact ⟨ret_bool HE.out.symm, B0.out⟩
    · have g' : (val.size : Int) ≤ 8000 := by omega
      go_enter Tryz.func17, Tryz.ntmps17
      go_wp2_with fail
      refine calls_any' (fun W => Below w.heap.size w W ∧ Two W w.heap.size 26 (.slice ao d.length ca) (.slice bo l.length cb)) ⟨B0.out, twoNew w 26 _ _⟩ ?_
      rintro W ⟨hbW, t0⟩
      refine (SpecEntryRight_any ao bo d l ca cb W (HD.out.below hbW) (HL.out.below hbW) FD.out FL.out).mono ?_
      rintro e w1 ⟨rfl, hb1⟩
      have B1 := Lib.hid (hbW.trans (hb1.mono hbW.size)); have T1 := Lib.hid (t0.below hb1)
      clear hbW t0 hb1
      obtain ⟨⟨c0, c1⟩, _⟩ := T1.out.cells
      cases hr : rightB d l
      · have HE := Lib.hid (hasB_no (nm := nm) (val := val) hr)
        go_wp2
        go_ret
        exact ⟨ret_bool HE.out.symm, B1.out⟩
      · have HR := Lib.hid hr; clear hr
        go_wp2_with fail
        refine (l03Has_any ao bo d l ca cb nm val w1 (HL.out.below B1.out) FL.out Hv.out HR.out).mono ?_
        rintro e w2 ⟨rfl, hb2⟩
        generalize hq : hasB d l nm val = r at *
        have HQ := Lib.hid hq; clear hq
        go_wp2
        go_ret
        exact ⟨ret_bool HQ.out.symm, B1.out.trans (hb2.mono B1.out.size)⟩
theorem SpecHas_ent (v : Value) (d : RdnL) (l : List AttrV) (nm val : ByteArray) (w : World) (h : EntAt w v d l) (hfd : Fits d) (hfl : FitsA l) (hn : nm.size ≤ maxLen) (hv : val.size ≤ maxLen) :
    Calls Tryz.prog 17 #[v, .string nm, .string val] w fun e w' => e = .returned (.bool (hasB d l nm val)) ∧ Below w.heap.size w w' := by
  obtain ⟨ao, ca, bo, cb, rfl, h2, h3, _, _⟩ := h
  exact SpecHasValue_any ao bo d l ca cb nm val w h2 h3 hfd hfl hn hv
end Go.Proofs.YtjajpdghamecoaaGreat
