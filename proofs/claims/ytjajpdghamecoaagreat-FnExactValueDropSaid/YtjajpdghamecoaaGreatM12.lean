/- Merged texts: SpCopy, SpSet, OutMk, OutMk2. -/
import Derived.Test.YtjajpdghamecoaaGreatM11
import Derived.Test.YtjajpdghamecoaaGreatM10
import Derived.Test.YtjajpdghamecoaaGreatM7
/- l03Copy: what the specification's text returns. -/
namespace Go.Proofs.YtjajpdghamecoaaGreat
open Go.RowKit
attribute [local go_sem ↓] Go.wp_at_zero Go.wp_at_succ

theorem own_zeroD (w : World) {B g : Nat} (hg : g = w.heap.size) (hB : B ≤ g) : (w.alloc (.cells #[] 97)).ownsRow B 97 2 (.slice (some ⟨g, 0, none⟩) 0 0) 0 (rs []) := by
  subst hg
  exact ⟨rfl, .inr ⟨w.heap.size, 0, #[], rfl, hB, heap_alloc_new w _, by simp, by unfold maxLen; simp, rfl, rfl⟩⟩
theorem own_low {w w' : World} {B N e z n : Nat} {v : Value} {xs : List Value} (h : w.ownsRow B e z v n xs) (hlt : ∀ g, v.ownBlock = some g → g < N) (hb : Below N w w') : w'.ownsRow B e z v n xs := by
  refine ⟨h.1, ?_⟩
  rcases h.2 with hn | ⟨g, cap, cur, rfl, hB, hg, rest⟩
  · exact .inl hn
  · exact .inr ⟨g, cap, cur, rfl, hB, (hb.block g (hlt g rfl)).trans hg, rest⟩
theorem own_drew {w : World} {B e z n : Nat} {v : Value} {xs : List Value} (h : w.ownsRow B e z v n xs) : w.drew.ownsRow B e z v n xs := h
set_option maxRecDepth 100000 in
set_option maxHeartbeats 1000000 in
theorem l03Copy_any (ao bo : Option Addr) (d : RdnL) (l : List AttrV) (ca cb : Nat) (w : World) (hd : DnAt w ao d) (hl : AttrsAt w bo l) (hfd : Fits d) (hfl : FitsA l) (h8 : l.length ≤ 400) (hac : ao = none → ca = 0) :
    Calls Tryz.prog 67 #[.agg #[.slice ao d.length ca, .slice bo l.length cb]] w fun e w' => (∃ vo vc uo uc, e = .returned (.agg #[.slice vo d.length vc, .slice uo l.length uc]) ∧ w'.ownsRow w.heap.size 97 2 (.slice vo d.length vc) d.length (rs d) ∧ AttrsRow w' w.heap.size (.slice uo l.length uc) l) ∧ Below w.heap.size w w' := by
  have HL := Lib.hid hl; have FL := Lib.hid hfl; clear hl hfl
  have hdl := hfd.1
  clear hfd
  have hlen : ([] : RdnL).length + d.length ≤ 1000000000 := by simp; omega
  have B0 : Below w.heap.size w (((w.alloc (.cells #[.slice ao d.length ca, .slice bo l.length cb] 26)).alloc (.cells #[.slice none 0 0, .slice none 0 0] 26)).alloc (.cells #[] 97)) := more (more (more (Below.refl _ _) _) _) _
  have D0 := hd.below B0
  have O0 : (((w.alloc (.cells #[.slice ao d.length ca, .slice bo l.length cb] 26)).alloc (.cells #[.slice none 0 0, .slice none 0 0] 26)).alloc (.cells #[] 97)).ownsRow (w.heap.size + 1 + 1) 97 2 (.slice (some ⟨w.heap.size + 1 + 1, 0, none⟩) 0 0) 0 (rs []) := own_zeroD _ (by simp) (by simp)
  have hs0 : w.heap.size + 1 + 1 ≤ (((w.alloc (.cells #[.slice ao d.length ca, .slice bo l.length cb] 26)).alloc (.cells #[.slice none 0 0, .slice none 0 0] 26)).alloc (.cells #[] 97)).heap.size := by simp
  have BB : Below (w.heap.size + 1 + 1) ((w.alloc (.cells #[.slice ao d.length ca, .slice bo l.length cb] 26)).alloc (.cells #[.slice none 0 0, .slice none 0 0] 26)) (((w.alloc (.cells #[.slice ao d.length ca, .slice bo l.length cb] 26)).alloc (.cells #[.slice none 0 0, .slice none 0 0] 26)).alloc (.cells #[] 97)) := (Below.refl _ _).alloc (by simp) _
  have BX : Hid (Below w.heap.size w ((w.alloc (.cells #[.slice ao d.length ca, .slice bo l.length cb] 26)).alloc (.cells #[.slice none 0 0, .slice none 0 0] 26)) ∧ Two ((w.alloc (.cells #[.slice ao d.length ca, .slice bo l.length cb] 26)).alloc (.cells #[.slice none 0 0, .slice none 0 0] 26)) w.heap.size 26 (.slice ao d.length ca) (.slice bo l.length cb) ∧ Two ((w.alloc (.cells #[.slice ao d.length ca, .slice bo l.length cb] 26)).alloc (.cells #[.slice none 0 0, .slice none 0 0] 26)) (w.heap.size + 1) 26 (.slice none 0 0) (.slice none 0 0)) :=
    Lib.hid ⟨more (more (Below.refl _ _) _) _, (twoNew w 26 _ _).alloc _, twoNext w _ 26 _ _⟩
  go_enter Tryz.func67, Tryz.ntmps67
  go_wp2_with (first
    | (at_builtin; refine append_dn (w.heap.size + 1 + 1) rfl _ _ rfl _ [] rfl O0 ao d ca _ rfl rfl D0 hac hlen hs0 BB ?_; intro v1 w1 hown1 hbel1; obtain ⟨d0, dc, rfl⟩ := own_slice hown1; simp only [List.nil_append] at hown1 ⊢; have B1 := Lib.hid (BX.out.1.trans (hbel1.mono (by omega))); have T1 := Lib.hid (show Two w1 w.heap.size 26 (.slice ao d.length ca) (.slice bo l.length cb) from (hbel1.block w.heap.size (by omega)).trans BX.out.2.1); have U1 := Lib.hid (show Two w1 (w.heap.size + 1) 26 (.slice none 0 0) (.slice none 0 0) from (hbel1.block (w.heap.size + 1) (by omega)).trans BX.out.2.2); have OD := Lib.hid hown1; clear hbel1 hown1 BX BB hs0 O0 D0 B0 hlen hac hd)
    | (fail "none"))
  have HN1 : Hid (∀ g, (Value.slice d0 d.length dc).ownBlock = some g → g < w1.heap.size) := Lib.hid (fun g hg => (OD.out.lt g hg).2)
  refine wp_world (fun W => Below w.heap.size w W ∧ Two W w.heap.size 26 (.slice ao d.length ca) (.slice bo l.length cb) ∧ Two W (w.heap.size + 1) 26 (.slice none 0 0) (.slice none 0 0) ∧ Two W w1.heap.size 26 (.slice d0 d.length dc) (.slice none 0 0) ∧ W.ownsRow (w.heap.size + 1 + 1) 97 2 (.slice d0 d.length dc) d.length (rs d)) ⟨more B1.out _, T1.out.alloc _, U1.out.alloc _, twoNew w1 26 _ _, own_below OD.out (more (Below.refl _ _) _)⟩ ?_
  have hUR := U1.out.lt
  clear B1 T1 U1 OD
  generalize w1.heap.size = R at *
  rintro W ⟨hbW, t0, t1, t2, od⟩
  go_loopw [4] (fun i wr => ∃ (P : List PairV) (uo : Option Addr) (uc : Nat), P.length ≤ l.length ∧ i = .int .i64 P.length ∧ Two wr w.heap.size 26 (.slice ao d.length ca) (.slice bo l.length cb) ∧ Two wr (w.heap.size + 1) 26 (.slice none 0 0) (.slice none 0 0) ∧ Two wr R 26 (.slice d0 d.length dc) (.slice uo P.length uc) ∧ wr.ownsRow (R + 1) 48 2 (.slice uo P.length uc) P.length (ps P) ∧ LaidV wr (R + 1) P (l.take P.length) ∧ wr.ownsRow (w.heap.size + 1 + 1) 97 2 (.slice d0 d.length dc) d.length (rs d) ∧ Below w.heap.size w wr) (fun i _ => l.length - (intOf i).toNat)
  case atStart => exact ⟨[], none, 0, Nat.zero_le _, rfl, t0, t1, t2, own_noneP _ _, ⟨rfl, fun i h => by simp at h⟩, od, hbW⟩
  case round =>
    clear t0 t1 t2 od hbW
    obtain ⟨P, uo, uc, hk, rfl, t0, t1, t2, ho, hla, hod, hbel⟩ := hrel
    have HT0 := Lib.hid t0; have HT1 := Lib.hid t1; have HT2 := Lib.hid t2; have HO := Lib.hid ho; have HLa := Lib.hid hla; have HOD := Lib.hid hod; have HB := Lib.hid hbel
    obtain ⟨⟨c0, c1⟩, _⟩ := t0.cells
    have hRs : R + 1 ≤ wr.heap.size := t2.lt
    clear t0 t1 t2 ho hla hod hbel
    by_cases hlt : P.length < l.length
    · obtain ⟨p, off, vo, vc, rfl, hp0, hd1, hd2, hv⟩ := HL.out.at hlt
      have hvV := (FL.out.at hlt).2.1
      have HVs := Lib.hid (hv.1.below HB.out)
      have hvc := hv.2.2
      have HSn : Hid (∀ (X : World) (v : Value), LaidV X (R + 1) P (l.take P.length) → IsSl v → X.ownsRow (R + 1) 9 1 v l[P.length].2.length (ss l[P.length].2) → LaidV X (R + 1) (P ++ [(l[P.length].1, v)]) (l.take (P.length + 1))) := Lib.hid (fun X v h hs ho => by
        rw [List.take_succ_eq_append_getElem hlt]; exact h.snoc hs ho)
      clear hv
      have hlenV : ([] : List ByteArray).length + l[P.length].2.length ≤ 1000000000 := by simp; omega
      have g1 : (0 : Int) ≤ (P.length : Int) := by omega
      have g2 : (P.length : Int) < (l.length : Int) := by omega
      generalize l[P.length].1 = A at *
      generalize l[P.length].2 = V at *
      go_wp2_with fail
      have SK1 : Hid (∀ Z : World, Below R wr Z → (Z.cell? ⟨w.heap.size, 1, none⟩ = some (.slice (some ⟨p, off, none⟩) l.length cb) ∧ Z.cell? ⟨p, off + P.length * 2, none⟩ = some (.string A) ∧ Z.cell? ⟨p, off + P.length * 2 + 1, none⟩ = some (.slice vo V.length vc))) :=
        Lib.hid (fun Z h => ⟨(h.cell (p := ⟨w.heap.size, 1, none⟩) (by show w.heap.size < R; omega)).trans c1, (h.cell (p := ⟨p, off + P.length * 2, none⟩) (by show p < R; omega)).trans ((HB.out.cell (p := ⟨p, off + P.length * 2, none⟩) hp0).trans hd1), (h.cell (p := ⟨p, off + P.length * 2 + 1, none⟩) (by show p < R; omega)).trans ((HB.out.cell (p := ⟨p, off + P.length * 2 + 1, none⟩) hp0).trans hd2)⟩)
      have KP : Hid (∀ (L : Array Bool) (Z : World), Below (R + 1) wr Z → Until (fun Z => Z.cell? ⟨w.heap.size, 1, none⟩ = some (.slice (some ⟨p, off, none⟩) l.length cb) ∧ Z.cell? ⟨p, off + P.length * 2, none⟩ = some (.string A) ∧ Z.cell? ⟨p, off + P.length * 2 + 1, none⟩ = some (.slice vo V.length vc)) (fun Z => Z.cell? ⟨R, 1, none⟩ = some (.slice uo P.length uc)) 20 L Z) :=
        Lib.hid (fun L Z h => ⟨SK1.out Z (h.mono (Nat.le_succ _)), fun _ => (h.cell (p := ⟨R, 1, none⟩) (Nat.lt_succ_self _)).trans HT2.out.cells.1.2⟩)
      have hbd : Below (R + 1) wr wr.drew := (Below.refl _ _).drew
      have hRd : R + 1 ≤ wr.drew.heap.size := hRs
      have OZ : Hid ((wr.drew.alloc (.cells #[] 9)).ownsRow wr.heap.size 9 1 (.slice (some ⟨wr.heap.size, 0, none⟩) 0 0) ([] : List ByteArray).length (ss [])) := Lib.hid (own_zero wr.drew rfl (Nat.le_refl _))
      have HVz : Hid (StrsAt (wr.drew.alloc (.cells #[] 9)) vo V) := Lib.hid (HVs.out.below (more (Below.refl _ _).drew _))
      have hsz1 : wr.heap.size ≤ (wr.drew.alloc (.cells #[] 9)).heap.size := by simp
      have hbz : Below wr.heap.size wr (wr.drew.alloc (.cells #[] 9)) := more (Below.refl _ _).drew _
      have hbz8 : Below (R + 1) wr (wr.alloc (.cells #[] 9)).drew := hbz.mono hRs
      have HPl : Hid (P.length ≤ 1000000000) := Lib.hid (by omega)
      clear hd1 hd2 c0 c1
      refine wp_region_until (fun Z => Z.cell? ⟨w.heap.size, 1, none⟩ = some (.slice (some ⟨p, off, none⟩) l.length cb) ∧ Z.cell? ⟨p, off + P.length * 2, none⟩ = some (.string A) ∧ Z.cell? ⟨p, off + P.length * 2 + 1, none⟩ = some (.slice vo V.length vc)) (fun Z => Z.cell? ⟨R, 1, none⟩ = some (.slice uo P.length uc)) 20 (by kernel_rfl) (KP.out #[] _ hbd).1 ((KP.out #[false, false, false, false, false, false, false, false, false, false, false, false, false, false, false, false, false, false, false, false, false] _ hbd).2 rfl) (fun hU => ?_)
      refine wpAnyL_take (i := 0) (oi := { dst := some 17, op := Op.fieldAddr 26 (Operand.tmp 3) 1, type := 0, pos := "l03_entry.go:77", after := #[], guard := none }) (v := ?_) rfl (by decide) (by kernel_rfl) (by kernel_rfl) (by kernel_rfl) (fun _ _ _ h => h) (Or.inl ⟨by rfl, ?_⟩) (by assumption) ?_
      rotate_left
      · intro w hSw; (try dsimp only at hSw); go_simp; (try with_reducible rfl)
      clear hU; intro hU
      (try simp only [Act.put, List.setIfInBounds_toArray, List.set_cons_zero, List.set_cons_succ])
      refine wpAnyL_load (i := 1) (m := 18) (oi := { dst := some 18, op := Op.load 24 (Operand.tmp 17), type := 24, pos := "l03_entry.go:77", after := #[{ on := 0, ground := Ground.data }], guard := none }) (om := { dst := some 35, op := Op.call { callee := Callee.builtin Builtin.append, args := #[Operand.tmp 18, Operand.tmp 34], argTypes := #[24, 24] }, type := 24, pos := "l03_entry.go:77", after := #[{ on := 1, ground := Ground.data }, { on := 17, ground := Ground.data }, { on := 15, ground := Ground.chain }], guard := none }) (ok := _) (v := ?_) rfl (by decide) (by kernel_rfl) (by kernel_rfl) (by kernel_rfl) rfl rfl (by kernel_rfl) (by kernel_rfl) (by kernel_rfl) (by kernel_rfl) (fun _ _ _ h => h) (Or.inl ⟨by rfl, ?_⟩) (by assumption) ?_
      rotate_left
      · intro w hSw; (try dsimp only at hSw); go_simp; (try with_reducible rfl)
      clear hU; intro hU
      (try simp only [Act.put, List.setIfInBounds_toArray, List.set_cons_zero, List.set_cons_succ])
      refine wpAnyL_take (i := 2) (oi := { dst := some 19, op := Op.fieldAddr 26 (Operand.tmp 1) 1, type := 0, pos := "l03_entry.go:77", after := #[], guard := none }) (v := ?_) rfl (by decide) (by kernel_rfl) (by kernel_rfl) (by kernel_rfl) (fun _ _ _ h => h) (Or.inl ⟨by rfl, ?_⟩) (by assumption) ?_
      rotate_left
      · intro w hSw; (try dsimp only at hSw); go_simp; (try with_reducible rfl)
      clear hU; intro hU
      (try simp only [Act.put, List.setIfInBounds_toArray, List.set_cons_zero, List.set_cons_succ])
      refine wpAnyL_take (i := 3) (oi := { dst := some 20, op := Op.load 24 (Operand.tmp 19), type := 24, pos := "l03_entry.go:77", after := #[{ on := 2, ground := Ground.data }], guard := none }) (v := ?_) rfl (by decide) (by kernel_rfl) (by kernel_rfl) (by kernel_rfl) (fun _ _ _ h => h) (Or.inl ⟨by rfl, ?_⟩) (by assumption) ?_
      rotate_left
      · intro w hSw; (try dsimp only at hSw); go_simp; (try with_reducible rfl)
      clear hU; intro hU
      (try simp only [Act.put, List.setIfInBounds_toArray, List.set_cons_zero, List.set_cons_succ])
      refine wpAnyL_take (i := 4) (oi := { dst := some 21, op := Op.move (Operand.tmp 4), type := 3, pos := "l03_entry.go:77", after := #[], guard := none }) (v := ?_) rfl (by decide) (by kernel_rfl) (by kernel_rfl) (by kernel_rfl) (fun _ _ _ h => h) (Or.inl ⟨by rfl, ?_⟩) (by assumption) ?_
      rotate_left
      · intro w hSw; (try dsimp only at hSw); go_simp; (try with_reducible rfl)
      clear hU; intro hU
      (try simp only [Act.put, List.setIfInBounds_toArray, List.set_cons_zero, List.set_cons_succ])
      refine wpAnyL_take (i := 5) (oi := { dst := some 22, op := Op.indexAddr 24 (Operand.tmp 20) (Operand.tmp 21), type := 0, pos := "l03_entry.go:77", after := #[{ on := 3, ground := Ground.data }, { on := 4, ground := Ground.data }], guard := none }) (v := ?_) rfl (by decide) (by kernel_rfl) (by kernel_rfl) (by kernel_rfl) (fun _ _ _ h => h) (Or.inl ⟨by rfl, ?_⟩) (by assumption) ?_
      rotate_left
      · intro w hSw; (try dsimp only at hSw); go_simp; (try with_reducible rfl)
      clear hU; intro hU
      (try simp only [Act.put, List.setIfInBounds_toArray, List.set_cons_zero, List.set_cons_succ])
      refine wpAnyL_take (i := 6) (oi := { dst := some 23, op := Op.fieldAddr 48 (Operand.tmp 22) 0, type := 0, pos := "l03_entry.go:77", after := #[{ on := 5, ground := Ground.data }], guard := none }) (v := ?_) rfl (by decide) (by kernel_rfl) (by kernel_rfl) (by kernel_rfl) (fun _ _ _ h => h) (Or.inl ⟨by rfl, ?_⟩) (by assumption) ?_
      rotate_left
      · intro w hSw; (try dsimp only at hSw); go_simp; (try with_reducible rfl)
      clear hU; intro hU
      (try simp only [Act.put, List.setIfInBounds_toArray, List.set_cons_zero, List.set_cons_succ])
      refine wpAnyL_take (i := 7) (oi := { dst := some 24, op := Op.load 9 (Operand.tmp 23), type := 9, pos := "l03_entry.go:77", after := #[{ on := 6, ground := Ground.data }], guard := none }) (v := ?_) rfl (by decide) (by kernel_rfl) (by kernel_rfl) (by kernel_rfl) (fun _ _ _ h => h) (Or.inl ⟨by rfl, ?_⟩) (by assumption) ?_
      rotate_left
      · intro w hSw; (try dsimp only at hSw); go_simp; (try with_reducible rfl)
      clear hU; intro hU
      (try simp only [Act.put, List.setIfInBounds_toArray, List.set_cons_zero, List.set_cons_succ])
      refine wpAnyL_take (i := 9) (oi := { dst := some 26, op := Op.fieldAddr 26 (Operand.tmp 1) 1, type := 0, pos := "l03_entry.go:77", after := #[], guard := none }) (v := ?_) rfl (by decide) (by kernel_rfl) (by kernel_rfl) (by kernel_rfl) (fun _ _ _ h => h) (Or.inl ⟨by rfl, ?_⟩) (by assumption) ?_
      rotate_left
      · intro w hSw; (try dsimp only at hSw); go_simp; (try with_reducible rfl)
      clear hU; intro hU
      (try simp only [Act.put, List.setIfInBounds_toArray, List.set_cons_zero, List.set_cons_succ])
      refine wpAnyL_take (i := 10) (oi := { dst := some 27, op := Op.load 24 (Operand.tmp 26), type := 24, pos := "l03_entry.go:77", after := #[{ on := 9, ground := Ground.data }], guard := none }) (v := ?_) rfl (by decide) (by kernel_rfl) (by kernel_rfl) (by kernel_rfl) (fun _ _ _ h => h) (Or.inl ⟨by rfl, ?_⟩) (by assumption) ?_
      rotate_left
      · intro w hSw; (try dsimp only at hSw); go_simp; (try with_reducible rfl)
      clear hU; intro hU
      (try simp only [Act.put, List.setIfInBounds_toArray, List.set_cons_zero, List.set_cons_succ])
      refine wpAnyL_take (i := 11) (oi := { dst := some 28, op := Op.move (Operand.tmp 4), type := 3, pos := "l03_entry.go:77", after := #[], guard := none }) (v := ?_) rfl (by decide) (by kernel_rfl) (by kernel_rfl) (by kernel_rfl) (fun _ _ _ h => h) (Or.inl ⟨by rfl, ?_⟩) (by assumption) ?_
      rotate_left
      · intro w hSw; (try dsimp only at hSw); go_simp; (try with_reducible rfl)
      clear hU; intro hU
      (try simp only [Act.put, List.setIfInBounds_toArray, List.set_cons_zero, List.set_cons_succ])
      refine wpAnyL_take (i := 12) (oi := { dst := some 29, op := Op.indexAddr 24 (Operand.tmp 27) (Operand.tmp 28), type := 0, pos := "l03_entry.go:77", after := #[{ on := 10, ground := Ground.data }, { on := 11, ground := Ground.data }], guard := none }) (v := ?_) rfl (by decide) (by kernel_rfl) (by kernel_rfl) (by kernel_rfl) (fun _ _ _ h => h) (Or.inl ⟨by rfl, ?_⟩) (by assumption) ?_
      rotate_left
      · intro w hSw; (try dsimp only at hSw); go_simp; (try with_reducible rfl)
      clear hU; intro hU
      (try simp only [Act.put, List.setIfInBounds_toArray, List.set_cons_zero, List.set_cons_succ])
      refine wpAnyL_take (i := 13) (oi := { dst := some 30, op := Op.fieldAddr 48 (Operand.tmp 29) 1, type := 0, pos := "l03_entry.go:77", after := #[{ on := 12, ground := Ground.data }], guard := none }) (v := ?_) rfl (by decide) (by kernel_rfl) (by kernel_rfl) (by kernel_rfl) (fun _ _ _ h => h) (Or.inl ⟨by rfl, ?_⟩) (by assumption) ?_
      rotate_left
      · intro w hSw; (try dsimp only at hSw); go_simp; (try with_reducible rfl)
      clear hU; intro hU
      (try simp only [Act.put, List.setIfInBounds_toArray, List.set_cons_zero, List.set_cons_succ])
      refine wpAnyL_take (i := 14) (oi := { dst := some 31, op := Op.load 36 (Operand.tmp 30), type := 36, pos := "l03_entry.go:77", after := #[{ on := 13, ground := Ground.data }], guard := none }) (v := ?_) rfl (by decide) (by kernel_rfl) (by kernel_rfl) (by kernel_rfl) (fun _ _ _ h => h) (Or.inl ⟨by rfl, ?_⟩) (by assumption) ?_
      rotate_left
      · intro w hSw; (try dsimp only at hSw); go_simp; (try with_reducible rfl)
      clear hU; intro hU
      (try simp only [Act.put, List.setIfInBounds_toArray, List.set_cons_zero, List.set_cons_succ])
      refine wpAnyL_only (i := 8) (o := { dst := some 25, op := Op.buildSlice 36 0 #[], type := 36, pos := "l03_entry.go:77", after := #[], guard := none }) (by kernel_rfl) rfl (fun K hK => ?_)
      go_simp
      clear hU
      refine hK.out _ _ ?_ (fun hU => ?_)
      · (try dsimp only)
        first | exact KP.out _ _ (by assumption) | exact KP.out _ _ hbz8 | exact KP.out _ _ (Below.alloc (by assumption) (by first | exact hRd | exact hR6) _) | exact ⟨SK1.out _ (Below.setCell hb7 (p := ⟨R, 1, none⟩) (Nat.le_refl _) _), fun h => absurd (h.symm.trans (show _ = true by kernel_rfl)) (by decide)⟩
      clear hK K
      (try simp only [Act.put, List.setIfInBounds_toArray, List.set_cons_zero, List.set_cons_succ])
      refine wpAnyL_only (i := 15) (o := { dst := some 32, op := Op.call { callee := Callee.builtin Builtin.append, args := #[Operand.tmp 25, Operand.tmp 31], argTypes := #[36, 36] }, type := 36, pos := "l03_entry.go:77", after := #[{ on := 8, ground := Ground.data }, { on := 14, ground := Ground.data }], guard := none }) (by kernel_rfl) rfl (fun K hK => ?_)
      refine step_strs wr.heap.size rfl _ _ rfl (.slice (some ⟨wr.heap.size, 0, none⟩) 0 0) [] rfl OZ.out vo V vc _ rfl rfl HVz.out hvc hlenV hsz1 hbz ?_
      intro v6 w6 hown6 hbel6 hgr6
      obtain ⟨xo, xc, rfl⟩ := own_slice hown6
      simp only [List.nil_append] at hown6 ⊢
      have hb6 : Below (R + 1) wr w6 := hbel6.mono hRs
      have hR6 : R + 1 ≤ w6.heap.size := Nat.le_trans hRs hbel6.size
      have O6 := own_below HO.out hbel6
      clear hU
      refine hK.out _ _ ?_ (fun hU => ?_)
      · (try dsimp only)
        first | exact KP.out _ _ (by assumption) | exact KP.out _ _ hbz8 | exact KP.out _ _ (Below.alloc (by assumption) (by first | exact hRd | exact hR6) _) | exact ⟨SK1.out _ (Below.setCell hb7 (p := ⟨R, 1, none⟩) (Nat.le_refl _) _), fun h => absurd (h.symm.trans (show _ = true by kernel_rfl)) (by decide)⟩
      clear hK K
      (try simp only [Act.put, List.setIfInBounds_toArray, List.set_cons_zero, List.set_cons_succ])
      refine wpAnyL_take (i := 16) (oi := { dst := some 33, op := Op.build 48 #[(0, Operand.tmp 24), (1, Operand.tmp 32)], type := 48, pos := "l03_entry.go:77", after := #[{ on := 7, ground := Ground.data }, { on := 15, ground := Ground.data }], guard := none }) (v := ?_) rfl (by decide) (by kernel_rfl) (by kernel_rfl) (by kernel_rfl) (fun _ _ _ h => h) (Or.inl ⟨by rfl, ?_⟩) (by assumption) ?_
      rotate_left
      · intro w hSw; (try dsimp only at hSw); go_simp; (try with_reducible rfl)
      clear hU; intro hU
      (try simp only [Act.put, List.setIfInBounds_toArray, List.set_cons_zero, List.set_cons_succ])
      refine wpAnyL_only (i := 17) (o := { dst := some 34, op := Op.buildSlice 24 1 #[(0, Operand.tmp 33)], type := 24, pos := "l03_entry.go:77", after := #[{ on := 16, ground := Ground.data }], guard := none }) (by kernel_rfl) rfl (fun K hK => ?_)
      go_simp
      clear hU
      refine hK.out _ _ ?_ (fun hU => ?_)
      · (try dsimp only)
        first | exact KP.out _ _ (by assumption) | exact KP.out _ _ hbz8 | exact KP.out _ _ (Below.alloc (by assumption) (by first | exact hRd | exact hR6) _) | exact ⟨SK1.out _ (Below.setCell hb7 (p := ⟨R, 1, none⟩) (Nat.le_refl _) _), fun h => absurd (h.symm.trans (show _ = true by kernel_rfl)) (by decide)⟩
      clear hK K
      (try simp only [Act.put, List.setIfInBounds_toArray, List.set_cons_zero, List.set_cons_succ])
      refine wpAnyL_only (i := 18) (o := { dst := some 35, op := Op.call { callee := Callee.builtin Builtin.append, args := #[Operand.tmp 18, Operand.tmp 34], argTypes := #[24, 24] }, type := 24, pos := "l03_entry.go:77", after := #[{ on := 1, ground := Ground.data }, { on := 17, ground := Ground.data }, { on := 15, ground := Ground.chain }], guard := none }) (by kernel_rfl) rfl (fun K hK => ?_)
      refine step_pair (R + 1) rfl _ _ rfl (.slice uo P.length uc) P rfl O6 (A, .slice xo V.length xc) ⟨_, _, _, rfl⟩ rfl HPl.out hR6 hb6 ?_
      intro g7 cp7 w7 hown7 hbel7 hsz7 hgr7
      have hb7 : Below R wr w7 := hbel7.mono (Nat.le_succ _)
      have T7 := Lib.hid (show Two w7 R 26 (.slice d0 d.length dc) (.slice uo P.length uc) from (hbel7.block R (Nat.lt_succ_self _)).trans HT2.out)
      obtain ⟨⟨_, q1⟩, _, f1⟩ := T7.out.cells
      clear hU
      refine hK.out _ _ ?_ (fun hU => ?_)
      · (try dsimp only)
        first | exact KP.out _ _ (by assumption) | exact KP.out _ _ hbz8 | exact KP.out _ _ (Below.alloc (by assumption) (by first | exact hRd | exact hR6) _) | exact ⟨SK1.out _ (Below.setCell hb7 (p := ⟨R, 1, none⟩) (Nat.le_refl _) _), fun h => absurd (h.symm.trans (show _ = true by kernel_rfl)) (by decide)⟩
      clear hK K
      (try simp only [Act.put, List.setIfInBounds_toArray, List.set_cons_zero, List.set_cons_succ])
      refine wpAnyL_take (i := 19) (oi := { dst := some 36, op := Op.fieldAddr 26 (Operand.tmp 3) 1, type := 0, pos := "l03_entry.go:77", after := #[{ on := 0, ground := Ground.phase }, { on := 1, ground := Ground.phase }, { on := 2, ground := Ground.phase }, { on := 3, ground := Ground.phase }, { on := 4, ground := Ground.phase }, { on := 5, ground := Ground.phase }, { on := 6, ground := Ground.phase }, { on := 7, ground := Ground.phase }, { on := 8, ground := Ground.phase }, { on := 9, ground := Ground.phase }, { on := 10, ground := Ground.phase }, { on := 11, ground := Ground.phase }, { on := 12, ground := Ground.phase }, { on := 13, ground := Ground.phase }, { on := 14, ground := Ground.phase }, { on := 15, ground := Ground.phase }, { on := 16, ground := Ground.phase }, { on := 17, ground := Ground.phase }, { on := 18, ground := Ground.phase }], guard := none }) (v := ?_) rfl (by decide) (by kernel_rfl) (by kernel_rfl) (by kernel_rfl) (fun _ _ _ h => h) (Or.inl ⟨by rfl, ?_⟩) (by assumption) ?_
      rotate_left
      · intro w hSw; (try dsimp only at hSw); go_simp; (try with_reducible rfl)
      clear hU; intro hU
      (try simp only [Act.put, List.setIfInBounds_toArray, List.set_cons_zero, List.set_cons_succ])
      refine wpAnyL_only (i := 20) (o := _) (by kernel_rfl) rfl (fun K hK => ?_)
      go_simp
      clear hU
      refine hK.out _ _ ?_ (fun hU => ?_)
      · (try dsimp only)
        first | exact KP.out _ _ (by assumption) | exact KP.out _ _ hbz8 | exact KP.out _ _ (Below.alloc (by assumption) (by first | exact hRd | exact hR6) _) | exact ⟨SK1.out _ (Below.setCell hb7 (p := ⟨R, 1, none⟩) (Nat.le_refl _) _), fun h => absurd (h.symm.trans (show _ = true by kernel_rfl)) (by decide)⟩
      clear hK K
      (try simp only [Act.put, List.setIfInBounds_toArray, List.set_cons_zero, List.set_cons_succ])
      refine wpAnyL_done (by kernel_rfl) ?_ _
      have hPl : (P ++ [(A, Value.slice xo V.length xc)]).length = P.length + 1 := by simp
      have L7 := Lib.hid ((HSn.out w7 (.slice xo V.length xc) ((HLa.out.below hbel6).far O6 hgr7) ⟨_, _, _, rfl⟩ (own_far (own_mono hown6 hRs) O6 hgr7)).cellOut (R := R) (j := 1) (x := .slice (some ⟨g7, 0, none⟩) (P.length + 1) cp7) (Nat.lt_succ_self _))
      rw [hPl] at hown7
      have O7 := Lib.hid (own_cellOut (j := 1) (x := .slice (some ⟨g7, 0, none⟩) (P.length + 1) cp7) hown7 (Nat.lt_succ_self R))
      have D7 := Lib.hid (own_low (N := R) HOD.out HN1.out (hb7.setCell (p := ⟨R, 1, none⟩) (Nat.le_refl _) (.slice (some ⟨g7, 0, none⟩) (P.length + 1) cp7)))
      have A7 := Lib.hid (show Two (w7.setCell ⟨R, 1, none⟩ (.slice (some ⟨g7, 0, none⟩) (P.length + 1) cp7)) w.heap.size 26 (.slice ao d.length ca) (.slice (some ⟨p, off, none⟩) l.length cb) from Two.far ((hbel7.block w.heap.size (by omega)).trans HT0.out) (by omega) _)
      have U7 := Lib.hid (show Two (w7.setCell ⟨R, 1, none⟩ (.slice (some ⟨g7, 0, none⟩) (P.length + 1) cp7)) (w.heap.size + 1) 26 (.slice none 0 0) (.slice none 0 0) from Two.far ((hbel7.block (w.heap.size + 1) (by omega)).trans HT1.out) (by omega) _)
      have B7 := Lib.hid (HB.out.trans ((hb7.setCell (p := ⟨R, 1, none⟩) (Nat.le_refl _) (.slice (some ⟨g7, 0, none⟩) (P.length + 1) cp7)).mono (by omega)))
      have T8 := Lib.hid (T7.out.set1 (.slice (some ⟨g7, 0, none⟩) (P.length + 1) cp7))
      clear SK1 KP hbd hbz hbz8 OZ HVz hown7 hbel7 hgr7 hb7 hbel6 hgr6 hown6 hb6 O6 T7 q1 f1 hU
      go_wp2
      go_roundw
      case rel =>
        refine ⟨P ++ [(A, .slice xo V.length xc)], some ⟨g7, 0, none⟩, cp7, ?_⟩
        rw [hPl]
        exact ⟨by omega, by go_num, A7.out, U7.out, T8.out, O7.out, L7.out, D7.out, B7.out⟩
      case measure => simp [intOf]; omega
    · have e : P.length = l.length := by omega
      have hlE : l.take P.length = l := by rw [e, List.take_length]
      rw [hlE] at HLa
      have HE := Lib.hid e
      clear e hlE
      obtain ⟨⟨k0, k1⟩, _⟩ := HT2.out.cells
      obtain ⟨⟨s0, s1⟩, f0, f1⟩ := HT1.out.cells
      obtain ⟨⟨q0, q1⟩, _⟩ := ((HT1.out.set0 (.slice d0 d.length dc)).set1 (.slice uo P.length uc)).cells
      go_wp2_with fail
      refine bodyPost_ret (v := .agg #[.slice d0 d.length dc, .slice uo P.length uc]) (by simp [results, Tryz.results67, go_sem, q0, q1]) rfl ⟨⟨d0, dc, uo, uc, by rw [HE.out], ?_, P, ?_, ?_⟩, ?_⟩
      · exact own_mono (own_cellOut (own_cellOut HOD.out (by omega)) (by omega)) (by omega)
      · rw [← HE.out]; exact own_mono (own_cellOut (own_cellOut HO.out (by omega)) (by omega)) (by omega)
      · exact ((HLa.out.cellOut (by omega)).cellOut (by omega)).mono (by omega)
      · exact (HB.out.setCell (p := ⟨w.heap.size + 1, 0, none⟩) (by show w.heap.size ≤ w.heap.size + 1; omega) _).setCell (p := ⟨w.heap.size + 1, 1, none⟩) (by show w.heap.size ≤ w.heap.size + 1; omega) _
end Go.Proofs.YtjajpdghamecoaaGreat
/- l03Set: what the specification's text returns. -/
namespace Go.Proofs.YtjajpdghamecoaaGreat
open Go.RowKit
attribute [local go_sem ↓] Go.wp_at_zero Go.wp_at_succ

theorem append_one_pair {ops : Array Oper} {rest : List Oper} {o : Oper} {a : Act} {Q : Exit → Act → World → Prop} {w0 wr : World} (B : Nat) (hgd : o.guard = none) (s x : Operand)
    (ho : o.op = .call { callee := .builtin .append, args := #[s, x], argTypes := #[24, 24] }) (v : Value) (pre : List PairV) (hs : a.eval s = v) (hown : wr.ownsRow B 48 2 v pre.length (ps pre))
    (p : PairV) (hp : IsSl p.2) (hx : a.eval x = .slice (some ⟨wr.heap.size, 0, none⟩) 1 1) (hlen : pre.length ≤ 1000000000) (hB : B ≤ wr.heap.size) (hbel : Below B w0 wr)
    (h : ∀ g cap w', w'.ownsRow B 48 2 (.slice (some ⟨g, 0, none⟩) (pre.length + 1) cap) (pre ++ [p]).length (ps (pre ++ [p])) → Below B w0 w' → B ≤ w'.heap.size → wr.grownBy w' v.ownBlock → (v.ownBlock = some g ∨ wr.heap.size ≤ g) → wpList Tryz.prog ops Q rest (a.put o.dst (.slice (some ⟨g, 0, none⟩) (pre.length + 1) cap)) w') :
    wpList Tryz.prog ops Q (o :: rest) a (wr.alloc (.cells #[.string p.1, p.2] 48)) := by
  obtain ⟨i0, hi, hz0, hz1, hz2⟩ := info_parts Tryz.info48
  refine wpList_append_lies _ hgd s x 24 ho B 48 i0 _ 2 40 Tryz.underlying24 hi hz0 hz1 hz2 rfl (by decide) v pre.length (ps pre) hs (hown.alloc _) ⟨wr.heap.size, 0, none⟩ 1 1 [.string p.1, p.2] hx rfl (World.news_of_block (cs := #[.string p.1, p.2]) (t := 48) (fr := (0, 0)) (heap_alloc_new wr _)) ?_ (by omega) ?_ ?_ ?_ (wr.heap.size + 1) (by simp) ?_
  · intro u hu; simp at hu; rcases hu with rfl | rfl
    · rfl
    · obtain ⟨o, n, c, e⟩ := hp; rw [e]; rfl
  · unfold maxLen; omega
  · omega
  · simp; omega
  · intro g cap w' h1 h2 h3 h4
    have hb' : Below B w0 w' := (hbel.alloc hB _).grown h2 (by simp; omega) (fun k hk => (hown.lt k hk).1)
    refine h g cap w' ?_ hb' (Nat.le_trans hB (by have := h2.size; simp at this; omega)) ((World.grownBy_alloc _ _ _).trans h2) ?_
    · rw [ps_snoc]; simpa using h1
    · rcases h3 with h3 | h3
      · exact .inl h3
      · exact .inr (by omega)
theorem AttrsRow.at {w : World} {B n cap j : Nat} {uo : Option Addr} {T : List AttrV} (h : AttrsRow w B (.slice uo n cap) T) (hj : j < T.length) :
    ∃ g vo vc, uo = some ⟨g, 0, none⟩ ∧ g < w.heap.size ∧ w.cell? ⟨g, j * 2, none⟩ = some (.string T[j].1) ∧ w.cell? ⟨g, j * 2 + 1, none⟩ = some (.slice vo T[j].2.length vc) ∧ w.ownsRow B 9 1 (.slice vo T[j].2.length vc) T[j].2.length (ss T[j].2) := by
  obtain ⟨P, h2, h1, h4⟩ := h
  rcases h2.2 with ⟨_, h0⟩ | ⟨g, cap', cur, e, hg, hk, _⟩
  · omega
  · injection e with e1 e2 e3
    subst e1; subst e2; subst e3
    have hiP : j < P.length := by omega
    obtain ⟨q1, ⟨vo, m, vc, q2⟩, q4⟩ := h4 j hj hiP
    rw [q2] at q4
    obtain rfl : m = T[j].2.length := by obtain ⟨_, _, e⟩ := own_slice q4; injection e
    have c0 := h2.cellAt (j * 2) (by omega)
    have c1 := h2.cellAt (j * 2 + 1) (by omega)
    obtain ⟨p0, p1⟩ := ps_get P j hiP
    rw [p0, q1] at c0; rw [p1, q2] at c1
    exact ⟨g, vo, vc, rfl, (Array.getElem?_eq_some_iff.1 hk).1, c0, c1, q4⟩
theorem own_cellTy {w : World} {B e z n R j T : Nat} {v x a b : Value} {xs : List Value} (h : w.ownsRow B e z v n xs) (ht : Two w R T a b) (hne : e ≠ T) : (w.setCell ⟨R, j, none⟩ x).ownsRow B e z v n xs := by
  refine h.kept (grown_set w R j x) ?_
  rcases h.2 with ⟨rfl, _⟩ | ⟨g, cap, cur, rfl, _, hg, _⟩
  · exact .inl rfl
  · right
    intro e'
    simp [Value.ownBlock] at e'
    subst e'
    unfold Two at ht
    rw [ht] at hg
    injection hg with hg
    injection hg with _ hg
    exact hne hg.symm
theorem LaidV.cellTy {w : World} {B R j T : Nat} {x p q : Value} {P : List PairV} {A : List AttrV} (h : LaidV w B P A) (ht : Two w R T p q) (hne : 9 ≠ T) : LaidV (w.setCell ⟨R, j, none⟩ x) B P A :=
  ⟨h.1, fun i a b => by obtain ⟨q1, q2, q3⟩ := h.2 i a b; exact ⟨q1, q2, own_cellTy q3 ht hne⟩⟩
/-- the state of the walk over the attributes -/
structure SetSt (w w1 : World) (d : RdnL) (l : List AttrV) (nm : ByteArray) (X : List ByteArray) (d0 a0 xo : Option Addr) (dc ac xc N : Nat) (v : Value) (A : List AttrV) (wr : World) : Prop where
  base : Below w.heap.size w wr
  low : Below w1.heap.size w1 wr
  res : Two wr (w.heap.size + 1) 26 (.slice none 0 0) (.slice none 0 0)
  out : Two wr w1.heap.size 26 (.slice d0 d.length dc) (.slice a0 l.length ac)
  att : Two wr N 48 (.string nm) (.slice xo X.length xc)
  txt : wr.ownsRow (w1.heap.size + 1) 9 1 (.slice xo X.length xc) X.length (ss X)
  row : ∃ P : List PairV, wr.ownsRow (w1.heap.size + 1) 48 2 v P.length (ps P) ∧ LaidV wr w.heap.size P A
  far : v.ownBlock ≠ some N
  big : w1.heap.size + 1 ≤ wr.heap.size
section
variable {w w1 wr w' : World} {d : RdnL} {l : List AttrV} {nm : ByteArray} {X : List ByteArray} {d0 a0 xo : Option Addr} {dc ac xc N g cap : Nat} {v : Value} {A : List AttrV}
/-- one more is laid -/
theorem SetSt.more (h : SetSt w w1 d l nm X d0 a0 xo dc ac xc N v A wr) (hw : w.heap.size + 1 < w1.heap.size) (P : List PairV) (hP : wr.ownsRow (w1.heap.size + 1) 48 2 v P.length (ps P)) (hL : LaidV wr w.heap.size P A) {a : AttrV} {u : Value} (hs : IsSl u) (hu : wr.ownsRow w.heap.size 9 1 u a.2.length (ss a.2))
    (ho : w'.ownsRow (w1.heap.size + 1) 48 2 (.slice (some ⟨g, 0, none⟩) (P.length + 1) cap) (P ++ [(a.1, u)]).length (ps (P ++ [(a.1, u)]))) (hb : Below (w1.heap.size + 1) wr w') (hg : wr.grownBy w' v.ownBlock) (hat : v.ownBlock = some g ∨ wr.heap.size ≤ g) :
    SetSt w w1 d l nm X d0 a0 xo dc ac xc N (.slice (some ⟨g, 0, none⟩) (P.length + 1) cap) (A ++ [a]) w' := by
  refine ⟨h.base.trans (hb.mono (by omega)), h.low.trans (hb.mono (Nat.le_succ _)), ?_, ?_, ?_, own_far h.txt hP hg, ⟨P ++ [(a.1, u)], ho, ?_⟩, ?_, Nat.le_trans h.big hb.size⟩
  · exact (hb.block _ (by omega)).trans h.res
  · exact (hb.block _ (Nat.lt_succ_self _)).trans h.out
  · exact (hg.block N h.att.lt (fun e => h.far e.symm)).trans h.att
  · exact (hL.far hP hg).snoc hs (own_far hu hP hg)
  · rcases hat with e | e
    · rw [show (Value.slice (some ⟨g, 0, none⟩) (P.length + 1) cap).ownBlock = some g from rfl, ← e]; exact h.far
    · intro e'
      simp [Value.ownBlock] at e'
      have := h.att.lt
      omega
theorem SetSt.fin {lo : Option Addr} {ln lc : Nat} (h : SetSt w w1 d l nm X d0 a0 xo dc ac xc N (.slice lo ln lc) A wr) (hw : w.heap.size + 1 < w1.heap.size) (OD : w1.ownsRow w.heap.size 97 2 (.slice d0 d.length dc) d.length (rs d)) :
    ln = A.length ∧ (((wr.setCell ⟨w1.heap.size, 1, none⟩ (.slice lo ln lc)).setCell ⟨w.heap.size + 1, 0, none⟩ (.slice d0 d.length dc)).setCell ⟨w.heap.size + 1, 1, none⟩ (.slice lo ln lc)).ownsRow w.heap.size 97 2 (.slice d0 d.length dc) d.length (rs d) ∧ AttrsRow (((wr.setCell ⟨w1.heap.size, 1, none⟩ (.slice lo ln lc)).setCell ⟨w.heap.size + 1, 0, none⟩ (.slice d0 d.length dc)).setCell ⟨w.heap.size + 1, 1, none⟩ (.slice lo ln lc)) w.heap.size (.slice lo ln lc) A ∧
    Below w.heap.size w (((wr.setCell ⟨w1.heap.size, 1, none⟩ (.slice lo ln lc)).setCell ⟨w.heap.size + 1, 0, none⟩ (.slice d0 d.length dc)).setCell ⟨w.heap.size + 1, 1, none⟩ (.slice lo ln lc)) := by
  obtain ⟨P, hP, hL⟩ := h.row
  have hln : ln = A.length := by
    obtain ⟨_, _, e⟩ := own_slice hP
    injection e with _ e _
    rw [e, hL.1]
  have t1 := h.res.far (R := w1.heap.size) (j := 1) (by omega) (.slice lo ln lc)
  have t2 := t1.set0 (.slice d0 d.length dc)
  have hP' := own_cellOut (j := 1) (x := .slice lo ln lc) (own_cellOut (j := 0) (x := .slice d0 d.length dc) (own_cellOut (j := 1) (x := .slice lo ln lc) hP (Nat.lt_succ_self _)) (show w.heap.size + 1 < _ by omega)) (show w.heap.size + 1 < _ by omega)
  have hL' := ((hL.cellTy (j := 1) (x := .slice lo ln lc) h.out (by decide)).cellTy (j := 0) (x := .slice d0 d.length dc) t1 (by decide)).cellTy (j := 1) (x := .slice lo ln lc) t2 (by decide)
  refine ⟨hln, ?_, ?_, ?_⟩
  · exact own_cellTy (own_cellTy (own_cellTy (own_below OD h.low) h.out (by decide)) t1 (by decide)) t2 (by decide)
  · rw [hL.1] at hP'
    exact ⟨P, own_mono hP' (by omega), hL'⟩
  · exact ((h.base.setCell (p := ⟨w1.heap.size, 1, none⟩) (by show w.heap.size ≤ w1.heap.size; omega) _).setCell (p := ⟨w.heap.size + 1, 0, none⟩) (by show w.heap.size ≤ w.heap.size + 1; omega) _).setCell (p := ⟨w.heap.size + 1, 1, none⟩) (by show w.heap.size ≤ w.heap.size + 1; omega) _
theorem SetSt.fcells {lo : Option Addr} {ln lc : Nat} (h : SetSt w w1 d l nm X d0 a0 xo dc ac xc N (.slice lo ln lc) A wr) (hw : w.heap.size + 1 < w1.heap.size) :
    (wr.cell? ⟨w1.heap.size, 1, none⟩ = some (.slice a0 l.length ac) ∧ wr.frozen? ⟨w1.heap.size, 1, none⟩ = false) ∧
    ((wr.setCell ⟨w1.heap.size, 1, none⟩ (.slice lo ln lc)).cell? ⟨w1.heap.size, 0, none⟩ = some (.slice d0 d.length dc) ∧ (wr.setCell ⟨w1.heap.size, 1, none⟩ (.slice lo ln lc)).cell? ⟨w1.heap.size, 1, none⟩ = some (.slice lo ln lc)) ∧
    ((wr.setCell ⟨w1.heap.size, 1, none⟩ (.slice lo ln lc)).cell? ⟨w.heap.size + 1, 0, none⟩ = some (.slice none 0 0) ∧ (wr.setCell ⟨w1.heap.size, 1, none⟩ (.slice lo ln lc)).cell? ⟨w.heap.size + 1, 1, none⟩ = some (.slice none 0 0) ∧ (wr.setCell ⟨w1.heap.size, 1, none⟩ (.slice lo ln lc)).frozen? ⟨w.heap.size + 1, 0, none⟩ = false ∧ (wr.setCell ⟨w1.heap.size, 1, none⟩ (.slice lo ln lc)).frozen? ⟨w.heap.size + 1, 1, none⟩ = false) ∧
    ((((wr.setCell ⟨w1.heap.size, 1, none⟩ (.slice lo ln lc)).setCell ⟨w.heap.size + 1, 0, none⟩ (.slice d0 d.length dc)).setCell ⟨w.heap.size + 1, 1, none⟩ (.slice lo ln lc)).cell? ⟨w.heap.size + 1, 0, none⟩ = some (.slice d0 d.length dc) ∧ (((wr.setCell ⟨w1.heap.size, 1, none⟩ (.slice lo ln lc)).setCell ⟨w.heap.size + 1, 0, none⟩ (.slice d0 d.length dc)).setCell ⟨w.heap.size + 1, 1, none⟩ (.slice lo ln lc)).cell? ⟨w.heap.size + 1, 1, none⟩ = some (.slice lo ln lc)) := by
  have t1 := h.res.far (R := w1.heap.size) (j := 1) (by omega) (.slice lo ln lc)
  have t0 := h.out.set1 (.slice lo ln lc)
  obtain ⟨⟨a1, a2⟩, a3, a4⟩ := h.out.cells
  obtain ⟨⟨b1, b2⟩, _⟩ := t0.cells
  obtain ⟨⟨c1, c2⟩, c3, c4⟩ := t1.cells
  obtain ⟨⟨e1, e2⟩, _⟩ := ((t1.set0 (.slice d0 d.length dc)).set1 (.slice lo ln lc)).cells
  exact ⟨⟨a2, a4⟩, ⟨b1, b2⟩, ⟨c1, c2, c3, c4⟩, e1, e2⟩
end
set_option maxRecDepth 100000 in
set_option maxHeartbeats 1000000 in
theorem l03Set_any (ao bo vo : Option Addr) (d : RdnL) (l : List AttrV) (V : List ByteArray) (ca cb vc : Nat) (nm : ByteArray) (w : World) (hd : DnAt w ao d) (hl : AttrsAt w bo l) (hv : StrsAt w vo V) (hfd : Fits d) (hfl : FitsA l) (hfv : FitsV V) (h8 : l.length ≤ 400) (h12 : V.length ≤ 400) (hac : ao = none → ca = 0) (hinc : incB nameLt l = true) :
    Calls Tryz.prog 101 #[.agg #[.slice ao d.length ca, .slice bo l.length cb], .string nm, .slice vo V.length vc] w fun e w' => (∃ xo xc yo yc, e = .returned (.agg #[.slice xo d.length xc, .slice yo (setL l nm (sortN V)).length yc]) ∧ w'.ownsRow w.heap.size 97 2 (.slice xo d.length xc) d.length (rs d) ∧ AttrsRow w' w.heap.size (.slice yo (setL l nm (sortN V)).length yc) (setL l nm (sortN V))) ∧ Below w.heap.size w w' := by
  have HD := Lib.hid hd; have HL := Lib.hid hl; have HV := Lib.hid hv; have FD := Lib.hid hfd; have FL := Lib.hid hfl; have FV := Lib.hid hfv; have HI := Lib.hid hinc; clear hd hl hv hfd hfl hfv hinc
  go_enter Tryz.func101, Tryz.ntmps101
  go_wp2_with fail
  refine calls_any' (fun W => Below w.heap.size w W ∧ Two W (w.heap.size + 1) 26 (.slice none 0 0) (.slice none 0 0)) ⟨more (more (Below.refl _ _) _) _, twoNext w _ 26 _ _⟩ ?_
  rintro W ⟨hbW, t1⟩
  refine (l03Copy_any ao bo d l ca cb W (HD.out.below hbW) (HL.out.below hbW) FD.out FL.out h8 hac).mono ?_
  rintro e w1 ⟨⟨d0, dc, a0, ac, rfl, od, oa⟩, b1⟩
  have B1 := Lib.hid (hbW.trans (b1.mono hbW.size)); have T1 := Lib.hid (t1.below b1); have OD := Lib.hid (own_mono od hbW.size); have OA := Lib.hid (oa.mono hbW.size)
  clear hbW t1 b1 od oa
  have hT1 := T1.out.lt
  go_wp2_with fail
  refine calls_any' (fun Y => Below w1.heap.size w1 Y ∧ Two Y w1.heap.size 26 (.slice d0 d.length dc) (.slice a0 l.length ac) ∧ Y.ownsRow (w1.heap.size + 1) 48 2 (.slice (some ⟨w1.heap.size + 1, 0, none⟩) 0 0) 0 (ps []) ∧ w1.heap.size + 1 < Y.heap.size) ⟨more (more (Below.refl _ _) _) _, (twoNew w1 26 _ _).alloc _, own_zeroP _ (by simp) (by simp), by simp⟩ ?_
  rintro Y ⟨hbY, tY, oY, hY⟩
  refine (l03Sort_any vo V vc Y (HV.out.below (B1.out.trans (hbY.mono B1.out.size))) FV.out h12).mono ?_
  rintro e w2 ⟨⟨v2, rfl, o2⟩, b2⟩
  obtain ⟨xo, xc, rfl⟩ := own_slice o2
  have hX : decide (sortN V = []) = ((V.length : Int) == 0) := by
    have := sortN_len V
    rw [Bool.eq_iff_iff, decide_eq_true_eq, beq_iff_eq]
    constructor
    · intro e; rw [e] at this; simp at this; omega
    · intro e; exact List.length_eq_zero_iff.1 (by omega)
  have ST : Hid (SetSt w w1 d l nm (sortN V) d0 a0 xo dc ac xc w2.heap.size (.slice (some ⟨w1.heap.size + 1, 0, none⟩) 0 0) (accL l nm (sortN V) 0) (w2.alloc (.cells #[.string nm, .slice xo (sortN V).length xc] 48))) := Lib.hid (by
    have hal := more (Below.refl w2.heap.size w2) (.cells #[.string nm, .slice xo (sortN V).length xc] 48)
    have hb12 := hbY.trans (b2.mono hbY.size)
    have hw2 := b2.size
    refine ⟨more (B1.out.trans (hb12.mono B1.out.size)) _, hb12.trans (hal.mono hb12.size), ((T1.out.below hb12).alloc _), ((tY.below b2).alloc _), twoNew w2 48 _ _, own_below (own_mono o2 (by omega)) hal, ⟨[], own_below (own_below oY b2) hal, ?_⟩, ?_, by simp; omega⟩
    · rw [acc_zero.1]; exact ⟨rfl, fun i h => by simp at h⟩
    · simp [Value.ownBlock]; omega)
  have HX := Lib.hid hX
  clear hX hbY tY oY hY b2 o2 T1 B1
  go_wp2_with fail
  refine wp_world (fun Z => SetSt w w1 d l nm (sortN V) d0 a0 xo dc ac xc w2.heap.size (.slice (some ⟨w1.heap.size + 1, 0, none⟩) 0 0) (accL l nm (sortN V) 0) Z) ST.out ?_
  rintro Z hZ
  clear ST
  have H0 := Lib.hid (acc_zero (T := l) (nm := nm) (X := sortN V)).2
  have HEnd1 := Lib.hid (acc_end1 (T := l) (nm := nm) (X := sortN V))
  have HEnd0 := Lib.hid (acc_end0 (T := l) (nm := nm) (X := sortN V))
  have HLn := Lib.hid (acc_len (T := l) (nm := nm) (X := sortN V))
  rw [← HX.out, ← H0.out]
  generalize hXe : sortN V = X at *
  have HXe := Lib.hid hXe; clear hXe
  generalize w2.heap.size = N at *
  have HR := Lib.hid hT1
  go_loopw [8, 10, 11] (fun v b i wr => ∃ k : Nat, k ≤ l.length ∧ i = .int .i64 k ∧ b = .bool (doneB l nm X k) ∧ IsSl v ∧ SetSt w w1 d l nm X d0 a0 xo dc ac xc N v (accL l nm X k) wr) (fun _ _ i _ => l.length - (intOf i).toNat)
  case atStart => exact ⟨0, Nat.zero_le _, rfl, rfl, ⟨_, _, _, rfl⟩, hZ⟩
  case round =>
    clear hZ
    obtain ⟨k, hk, rfl, rfl, ⟨lo, ln, lc, rfl⟩, hst⟩ := hrel
    obtain ⟨P, hP, hLa⟩ := hst.row
    have ST := Lib.hid hst; have HP := Lib.hid hP; have HLa := Lib.hid hLa
    obtain ⟨⟨c0, c1⟩, _⟩ := ST.out.out.cells
    obtain ⟨⟨x0, x1⟩, _⟩ := ST.out.att.cells
    have hPl : P.length ≤ 1000000000 := by have := hLa.1; have := HLn.out k; omega
    have hbig := ST.out.big
    have hb0 : Below (w1.heap.size + 1) wr wr := Below.refl _ _
    clear hst hP hLa
    by_cases hlt : k < l.length
    · obtain ⟨ga, yo, yc, rfl, hga, d1, d2, oy⟩ := (OA.out.below ST.out.low).at hlt
      have OY := Lib.hid oy
      have g1 : (0 : Int) ≤ (k : Int) := by omega
      have g2 : (k : Int) < (l.length : Int) := by omega
      clear oy
      have HSx : Hid (∀ (w' : World) (g cap : Nat), w'.ownsRow (w1.heap.size + 1) 48 2 (.slice (some ⟨g, 0, none⟩) (P.length + 1) cap) (P ++ [(nm, Value.slice xo X.length xc)]).length (ps (P ++ [(nm, Value.slice xo X.length xc)])) → Below (w1.heap.size + 1) wr w' → wr.grownBy w' (Value.slice lo ln lc).ownBlock → ((Value.slice lo ln lc).ownBlock = some g ∨ wr.heap.size ≤ g) → SetSt w w1 d l nm X d0 (some ⟨ga, 0, none⟩) xo dc ac xc N (.slice (some ⟨g, 0, none⟩) (P.length + 1) cap) (accL l nm X k ++ [(nm, X)]) w' ∧ LaidV w' w.heap.size (P ++ [(nm, Value.slice xo X.length xc)]) (accL l nm X k ++ [(nm, X)])) :=
        Lib.hid (fun w' g cap h1 h2 h3 h4 => ⟨ST.out.more HR.out P HP.out HLa.out (a := (nm, X)) ⟨_, _, _, rfl⟩ (own_mono ST.out.txt (by omega)) h1 h2 h3 h4, (HLa.out.far HP.out h3).snoc (a := (nm, X)) ⟨_, _, _, rfl⟩ (own_far (own_mono ST.out.txt (by omega)) HP.out h3)⟩)
      have HSy : Hid (∀ (w' : World) (g cap : Nat), w'.ownsRow (w1.heap.size + 1) 48 2 (.slice (some ⟨g, 0, none⟩) (P.length + 1) cap) (P ++ [(l[k].1, Value.slice yo l[k].2.length yc)]).length (ps (P ++ [(l[k].1, Value.slice yo l[k].2.length yc)])) → Below (w1.heap.size + 1) wr w' → wr.grownBy w' (Value.slice lo ln lc).ownBlock → ((Value.slice lo ln lc).ownBlock = some g ∨ wr.heap.size ≤ g) → SetSt w w1 d l nm X d0 (some ⟨ga, 0, none⟩) xo dc ac xc N (.slice (some ⟨g, 0, none⟩) (P.length + 1) cap) (accL l nm X k ++ [l[k]]) w') :=
        Lib.hid (fun w' g cap h1 h2 h3 h4 => ST.out.more HR.out P HP.out HLa.out ⟨_, _, _, rfl⟩ OY.out h1 h2 h3 h4)
      have hqn : (l[k].1.toList == nm.toList) = decide (l[k].1 = nm) := name_eq _ _
      cases hdn : doneB l nm X k
      · cases hql : Op.bytesLess nm.toList l[k].1.toList
        · by_cases hen : l[k].1 = nm
          · have hq : (l[k].1.toList == nm.toList) = true := by rw [hqn]; simpa using hen
            obtain ⟨e1, e2⟩ := acc_b hlt hdn hen
            have HE1 := Lib.hid e1; have HE2 := Lib.hid e2
            clear hen hqn e1 e2 hdn HSy
            generalize l[k].1 = A at *
            go_wp2_with (first
              | (at_builtin; refine append_one_pair (w1.heap.size + 1) rfl _ _ rfl (.slice lo ln lc) P rfl HP.out (nm, .slice xo X.length xc) ⟨_, _, _, rfl⟩ rfl hPl hbig hb0 ?_; intro g3 cp3 w3 hown3 hbel3 hsz3 hgr3 hat3)
              | (fail "none"))
            go_roundw
            case rel =>
              have hs3 := (HSx.out w3 g3 cp3 hown3 hbel3 hgr3 hat3).1
              rw [← HE1.out] at hs3
              exact ⟨k + 1, by omega, by go_num, by rw [HE2.out], ⟨_, _, _, rfl⟩, hs3⟩
            case measure => simp [intOf]; omega
          · have hq : (l[k].1.toList == nm.toList) = false := by rw [hqn]; simpa using hen
            obtain ⟨e1, e2⟩ := acc_c hlt hdn hql hen
            have HE1 := Lib.hid e1; have HE2 := Lib.hid e2
            clear hen hqn e1 e2 hdn HSx
            have HSy' := Lib.hid HSy.out
            clear HSy
            rw [← HE1.out] at HSy'
            generalize l[k].1 = A at *
            generalize l[k].2.length = n at *
            go_wp2_with (first
              | (at_builtin; refine append_one_pair (w1.heap.size + 1) rfl _ _ rfl (.slice lo ln lc) P rfl HP.out (A, .slice yo n yc) ⟨_, _, _, rfl⟩ rfl hPl hbig hb0 ?_; intro g3 cp3 w3 hown3 hbel3 hsz3 hgr3 hat3)
              | (fail "none"))
            go_roundw
            case rel =>
              exact ⟨k + 1, by omega, by go_num, by rw [HE2.out], ⟨_, _, _, rfl⟩, HSy'.out w3 g3 cp3 hown3 hbel3 hgr3 hat3⟩
            case measure => simp [intOf]; omega
        · have hen : l[k].1 ≠ nm := fun e => by rw [e, less_irrefl] at hql; cases hql
          have hq : (l[k].1.toList == nm.toList) = false := by rw [hqn]; simpa using hen
          obtain ⟨e1, e2⟩ := acc_a hlt hdn hql
          have HE1 := Lib.hid e1; have HE2 := Lib.hid e2
          have HP2 : Hid ((P ++ [(nm, Value.slice xo X.length xc)]).length = P.length + 1) := Lib.hid (by simp)
          have HSz : Hid (∀ (w3 : World) (g3 cp3 : Nat) (w' : World) (g cap : Nat), w3.ownsRow (w1.heap.size + 1) 48 2 (.slice (some ⟨g3, 0, none⟩) (P.length + 1) cp3) (P ++ [(nm, Value.slice xo X.length xc)]).length (ps (P ++ [(nm, Value.slice xo X.length xc)])) → Below (w1.heap.size + 1) wr w3 → wr.grownBy w3 (Value.slice lo ln lc).ownBlock → ((Value.slice lo ln lc).ownBlock = some g3 ∨ wr.heap.size ≤ g3) →
              w'.ownsRow (w1.heap.size + 1) 48 2 (.slice (some ⟨g, 0, none⟩) ((P ++ [(nm, Value.slice xo X.length xc)]).length + 1) cap) ((P ++ [(nm, Value.slice xo X.length xc)]) ++ [(l[k].1, Value.slice yo l[k].2.length yc)]).length (ps ((P ++ [(nm, Value.slice xo X.length xc)]) ++ [(l[k].1, Value.slice yo l[k].2.length yc)])) → Below (w1.heap.size + 1) w3 w' → w3.grownBy w' (Value.slice (some ⟨g3, 0, none⟩) (P.length + 1) cp3).ownBlock → ((Value.slice (some ⟨g3, 0, none⟩) (P.length + 1) cp3).ownBlock = some g ∨ w3.heap.size ≤ g) →
              SetSt w w1 d l nm X d0 (some ⟨ga, 0, none⟩) xo dc ac xc N (.slice (some ⟨g, 0, none⟩) ((P ++ [(nm, Value.slice xo X.length xc)]).length + 1) cap) (accL l nm X (k + 1)) w') :=
            Lib.hid (fun w3 g3 cp3 w' g cap h1 h2 h3 h4 h5 h6 h7 h8 => by
              obtain ⟨s1, s2⟩ := HSx.out w3 g3 cp3 h1 h2 h3 h4
              rw [HE1.out]
              exact s1.more HR.out _ h1 s2 ⟨_, _, _, rfl⟩ (own_far OY.out HP.out h3) h5 h6 h7 h8)
          have HCf : Hid (∀ w3 : World, Below (w1.heap.size + 1) wr w3 → Below w1.heap.size w1 w3 ∧ Two w3 w1.heap.size 26 (.slice d0 d.length dc) (.slice (some ⟨ga, 0, none⟩) l.length ac)) := Lib.hid (fun w3 h => ⟨ST.out.low.trans (h.mono (Nat.le_succ _)), (h.block _ (Nat.lt_succ_self _)).trans ST.out.out⟩)
          have hgA : ga < w1.heap.size := by obtain ⟨g', _, _, e', h', _⟩ := OA.out.at hlt; injection e' with e'; injection e' with e'; subst e'; exact h'
          have HDd : Hid (∀ w3 : World, Below (w1.heap.size + 1) wr w3 → w3.cell? ⟨ga, k * 2, none⟩ = some (.string l[k].1) ∧ w3.cell? ⟨ga, k * 2 + 1, none⟩ = some (.slice yo l[k].2.length yc)) := Lib.hid (fun w3 h => ⟨(h.cell (p := ⟨ga, k * 2, none⟩) (by show ga < w1.heap.size + 1; omega)).trans d1, (h.cell (p := ⟨ga, k * 2 + 1, none⟩) (by show ga < w1.heap.size + 1; omega)).trans d2⟩)
          clear hen hqn e1 e2 hdn HSx HSy
          have hPl2 : (P ++ [(nm, Value.slice xo X.length xc)]).length ≤ 1000000000 := by have := HLa.out.1; have := HLn.out k; rw [HP2.out]; omega
          generalize l[k].1 = A at *
          generalize l[k].2.length = n at *
          go_wp2_with (first
            | (at_builtin; refine append_one_pair (w1.heap.size + 1) rfl _ _ rfl (.slice lo ln lc) P rfl HP.out (nm, .slice xo X.length xc) ⟨_, _, _, rfl⟩ rfl hPl hbig hb0 ?_; intro g3 cp3 w3 hown3 hbel3 hsz3 hgr3 hat3; have O3 := Lib.hid hown3; have B3 := Lib.hid hbel3; have G3 := Lib.hid hgr3; have A3 := Lib.hid hat3; clear hown3 hgr3 hat3; obtain ⟨⟨_, q1⟩, _⟩ := (HCf.out w3 hbel3).2.cells; obtain ⟨q2, q3⟩ := HDd.out w3 hbel3; clear hbel3; have hb3 : Below (w1.heap.size + 1) w3 w3 := Below.refl _ _)
            | (at_builtin; refine append_one_pair (w1.heap.size + 1) rfl _ _ rfl (.slice (some ⟨g3, 0, none⟩) (P.length + 1) cp3) (P ++ [(nm, Value.slice xo X.length xc)]) rfl O3.out (A, .slice yo n yc) ⟨_, _, _, rfl⟩ rfl hPl2 hsz3 hb3 ?_; intro g4 cp4 w4 hown4 hbel4 hsz4 hgr4 hat4)
            | (fail "none"))
          go_roundw
          case rel =>
            have hs4 := HSz.out w3 g3 cp3 w4 g4 cp4 O3.out B3.out G3.out A3.out hown4 hbel4 hgr4 hat4
            rw [HP2.out] at hs4
            exact ⟨k + 1, by omega, by go_num, by rw [HE2.out], ⟨_, _, _, rfl⟩, hs4⟩
          case measure => simp [intOf]; omega
      · by_cases hen : l[k].1 = nm
        · have hq : (l[k].1.toList == nm.toList) = true := by rw [hqn]; simpa using hen
          obtain ⟨e1, e2⟩ := acc_d hlt hdn hen
          have HE1 := Lib.hid e1; have HE2 := Lib.hid e2
          clear hen hqn e1 e2 hdn HSx HSy
          generalize l[k].1 = A at *
          go_wp2_with fail
          go_roundw
          case rel => exact ⟨k + 1, by omega, by go_num, by rw [HE2.out], ⟨_, _, _, rfl⟩, by rw [HE1.out]; exact ST.out⟩
          case measure => simp [intOf]; omega
        · have hq : (l[k].1.toList == nm.toList) = false := by rw [hqn]; simpa using hen
          obtain ⟨e1, e2⟩ := acc_e HI.out hlt hdn hen
          have HE1 := Lib.hid e1; have HE2 := Lib.hid e2
          clear hen hqn e1 e2 hdn HSx
          have HSy' := Lib.hid HSy.out
          clear HSy
          rw [← HE1.out] at HSy'
          generalize l[k].1 = A at *
          generalize l[k].2.length = n at *
          go_wp2_with (first
            | (at_builtin; refine append_one_pair (w1.heap.size + 1) rfl _ _ rfl (.slice lo ln lc) P rfl HP.out (A, .slice yo n yc) ⟨_, _, _, rfl⟩ rfl hPl hbig hb0 ?_; intro g3 cp3 w3 hown3 hbel3 hsz3 hgr3 hat3)
            | (fail "none"))
          go_roundw
          case rel =>
            exact ⟨k + 1, by omega, by go_num, by rw [HE2.out], ⟨_, _, _, rfl⟩, HSy'.out w3 g3 cp3 hown3 hbel3 hgr3 hat3⟩
          case measure => simp [intOf]; omega
    · have e : k = l.length := by omega
      subst e
      cases hdn : doneB l nm X l.length
      · have HE := Lib.hid (HEnd0.out hdn)
        have HSx : Hid (∀ (w' : World) (g cap : Nat), w'.ownsRow (w1.heap.size + 1) 48 2 (.slice (some ⟨g, 0, none⟩) (P.length + 1) cap) (P ++ [(nm, Value.slice xo X.length xc)]).length (ps (P ++ [(nm, Value.slice xo X.length xc)])) → Below (w1.heap.size + 1) wr w' → wr.grownBy w' (Value.slice lo ln lc).ownBlock → ((Value.slice lo ln lc).ownBlock = some g ∨ wr.heap.size ≤ g) → SetSt w w1 d l nm X d0 a0 xo dc ac xc N (.slice (some ⟨g, 0, none⟩) (P.length + 1) cap) (setL l nm X) w') :=
          Lib.hid (fun w' g cap h1 h2 h3 h4 => by
            rw [← HE.out]
            exact ST.out.more HR.out P HP.out HLa.out (a := (nm, X)) ⟨_, _, _, rfl⟩ (own_mono ST.out.txt (by omega)) h1 h2 h3 h4)
        clear hdn HE
        go_wp2_with (first
          | (at_builtin; refine append_one_pair (w1.heap.size + 1) rfl _ _ rfl (.slice lo ln lc) P rfl HP.out (nm, .slice xo X.length xc) ⟨_, _, _, rfl⟩ rfl hPl hbig hb0 ?_; intro g3 cp3 w3 hown3 hbel3 hsz3 hgr3 hat3; have S3 := Lib.hid (HSx.out w3 g3 cp3 hown3 hbel3 hgr3 hat3); clear hown3 hbel3 hgr3 hat3 c0 c1 x0 x1; obtain ⟨⟨a1, a2⟩, ⟨b1, b2⟩, ⟨i1, i2, i3, i4⟩, j1, j2⟩ := S3.out.fcells hT1)
          | (fail "none"))
        obtain ⟨f1, f2, f3, f4⟩ := S3.out.fin HR.out OD.out
        refine bodyPost_ret (v := .agg #[.slice d0 d.length dc, .slice (some ⟨g3, 0, none⟩) (P.length + 1) cp3]) (by simp [results, Tryz.results101, go_sem, j1, j2]) rfl ⟨⟨d0, dc, some ⟨g3, 0, none⟩, cp3, by rw [HXe.out, ← f1], f2, by rw [HXe.out, ← f1]; exact f3⟩, f4⟩
      · have HE := Lib.hid (HEnd1.out hdn)
        have S3 : Hid (SetSt w w1 d l nm X d0 a0 xo dc ac xc N (.slice lo ln lc) (setL l nm X) wr) := Lib.hid (by rw [← HE.out]; exact ST.out)
        clear hdn HE c0 c1
        obtain ⟨⟨c0, c1⟩, _⟩ := ST.out.out.cells
        obtain ⟨⟨a1, a2⟩, ⟨b1, b2⟩, ⟨i1, i2, i3, i4⟩, j1, j2⟩ := S3.out.fcells hT1
        go_wp2_with fail
        obtain ⟨f1, f2, f3, f4⟩ := S3.out.fin HR.out OD.out
        refine bodyPost_ret (v := .agg #[.slice d0 d.length dc, .slice lo ln lc]) (by simp [results, Tryz.results101, go_sem, j1, j2]) rfl ⟨⟨d0, dc, lo, lc, by rw [HXe.out, ← f1], f2, by rw [HXe.out, ← f1]; exact f3⟩, f4⟩
end Go.Proofs.YtjajpdghamecoaaGreat
/- The helpers of the laws: a result's entry is marked, and the marks are found again. -/
namespace Go.Proofs.YtjajpdghamecoaaGreat
open Go.RowKit
attribute [local go_sem ↓] Go.wp_at_zero Go.wp_at_succ

/-- a row of the law's own, in a block from lo to below hi -/
def RowIn (w : World) (lo hi e z : Nat) (v : Value) (n : Nat) (xs : List Value) : Prop := w.ownsRow lo e z v n xs ∧ ∀ g, v.ownBlock = some g → g < hi
theorem RowIn.below {w w' : World} {lo hi e z n : Nat} {v : Value} {xs : List Value} (h : RowIn w lo hi e z v n xs) (hb : Below w.heap.size w w') : RowIn w' lo hi e z v n xs := ⟨own_below h.1 hb, h.2⟩
theorem rowIn_of {w : World} {lo e z n : Nat} {v : Value} {xs : List Value} (h : w.ownsRow lo e z v n xs) : RowIn w lo w.heap.size e z v n xs := ⟨h, fun g hg => (h.lt g hg).2⟩
theorem RowIn.kept {w w' : World} {lo hi e z n : Nat} {v : Value} {xs : List Value} {row : Option Nat} (h : RowIn w lo hi e z v n xs) (hg : w.grownBy w' row) (hne : ∀ g, v.ownBlock = some g → row ≠ some g) : RowIn w' lo hi e z v n xs := by
  refine ⟨h.1.kept hg ?_, h.2⟩
  cases hv : v.ownBlock with
  | none => exact .inl rfl
  | some g => exact .inr (fun e => hne g hv e.symm)
theorem RowIn.mid {w w' : World} {lo hi a b e z n : Nat} {v : Value} {xs : List Value} (h : RowIn w lo hi e z v n xs) (hm : Mid a b w w') (hx : hi ≤ a ∨ b ≤ lo) : RowIn w' lo hi e z v n xs := by
  refine ⟨⟨h.1.1, ?_⟩, h.2⟩
  rcases h.1.2 with h0 | ⟨g, cap, cur, e, hB, hk, hr⟩
  · exact .inl h0
  · have h1 := h.2 g (by rw [e]; rfl)
    exact .inr ⟨g, cap, cur, e, hB, (hm.2.2.2.2 g (Array.getElem?_eq_some_iff.1 hk).1 (by omega)).trans hk, hr⟩
theorem RowIn.turn {w w' : World} {lo hi e z n : Nat} {v : Value} {xs : List Value} (h : RowIn w lo hi e z v n xs) (hg : w.grownBy w' v.ownBlock) : Mid lo hi w w' := by
  refine ⟨hg.os, hg.tape, hg.output, hg.size, fun k hk hx => hg.block k hk ?_⟩
  intro e
  have h1 := h.2 k e.symm
  have h2 := (h.1.lt k e.symm).1
  omega
/-- rows of different types lie in different blocks -/
theorem rows_apart {w : World} {lo lo' e e' z z' n n' : Nat} {v v' : Value} {xs xs' : List Value} (h : w.ownsRow lo e z v n xs) (h' : w.ownsRow lo' e' z' v' n' xs') (hne : e ≠ e') : ∀ g, v.ownBlock = some g → v'.ownBlock ≠ some g := by
  intro g hg hg'
  rcases h.2 with ⟨rfl, _⟩ | ⟨k, cap, cur, rfl, _, hk, _⟩
  · simp [Value.ownBlock] at hg
  · rcases h'.2 with ⟨rfl, _⟩ | ⟨k', cap', cur', rfl, _, hk', _⟩
    · simp [Value.ownBlock] at hg'
    · simp [Value.ownBlock] at hg hg'
      subst hg; subst hg'
      rw [hk] at hk'
      injection hk' with hk'
      injection hk' with _ ht
      exact hne ht
/-- the rows of pairs are as they were -/
def Keeps97 (w w' : World) : Prop := ∀ (k : Nat) (C : Array Value) (fz : Nat × Nat), w.heap[k]? = some (.cells C 97 fz) → w'.heap[k]? = some (.cells C 97 fz)
theorem Keeps97.refl (w : World) : Keeps97 w w := fun _ _ _ h => h
theorem Keeps97.trans {a b c : World} (h : Keeps97 a b) (g : Keeps97 b c) : Keeps97 a c := fun k C fz e => g k C fz (h k C fz e)
theorem Keeps97.of_below {a b : World} (h : Below a.heap.size a b) : Keeps97 a b := fun k C fz e => (h.block k (Array.getElem?_eq_some_iff.1 e).1).trans e
theorem Keeps97.of_grown {w w' : World} {lo e z n : Nat} {v : Value} {xs : List Value} (h : w.ownsRow lo e z v n xs) (hne : e ≠ 97) (hg : w.grownBy w' v.ownBlock) : Keeps97 w w' := by
  intro k C fz hk
  refine (hg.block k (Array.getElem?_eq_some_iff.1 hk).1 (fun e' => ?_)).trans hk
  rcases h.2 with ⟨rfl, _⟩ | ⟨g, cap, cur, rfl, _, hgg, _⟩
  · cases e'
  · simp [Value.ownBlock] at e'
    subst e'
    rw [hgg] at hk
    injection hk with hk
    injection hk with _ ht
    exact hne ht
theorem RowIn.keep97 {w w' : World} {lo hi z n : Nat} {v : Value} {xs : List Value} (h : RowIn w lo hi 97 z v n xs) (hk : Keeps97 w w') : RowIn w' lo hi 97 z v n xs := by
  refine ⟨⟨h.1.1, ?_⟩, h.2⟩
  rcases h.1.2 with h0 | ⟨g, cap, cur, e, hB, hg, hr⟩
  · exact .inl h0
  · exact .inr ⟨g, cap, cur, e, hB, hk _ _ _ hg, hr⟩
def ApartB (P : List PairV) : Prop := P.Pairwise fun p q => ∀ g, p.2.ownBlock = some g → q.2.ownBlock ≠ some g
theorem ApartB.at {P : List PairV} (h : ApartB P) {i j : Nat} (hi : i < P.length) (hj : j < P.length) (hij : i ≠ j) : ∀ g, P[i].2.ownBlock = some g → P[j].2.ownBlock ≠ some g := by
  intro g h1 h2
  rcases Nat.lt_or_gt_of_ne hij with hl | hl
  · exact (List.pairwise_iff_getElem.1 h) i j hi hj hl g h1 h2
  · exact (List.pairwise_iff_getElem.1 h) j i hj hi hl g h2 h1
theorem apartB_of (P Q : List PairV) (h : ApartB P) (hl : Q.length = P.length) (he : ∀ i (h : i < Q.length) (h' : i < P.length), Q[i].2 = P[i].2) : ApartB Q := by
  refine List.pairwise_iff_getElem.2 fun i j hi hj hij => ?_
  rw [he i hi (by omega), he j hj (by omega)]
  exact (List.pairwise_iff_getElem.1 h) i j (by omega) (by omega) hij
/-- attributes of the law's own: the names of the first jn and the texts of the first jv are marked -/
def AttrsMk (w : World) (lo hi : Nat) (u : Value) (T : List AttrV) (k jn jv : Nat) : Prop :=
  ∃ P : List PairV, P.length = T.length ∧ RowIn w lo hi 48 2 u T.length (ps P) ∧ ApartB P ∧ ∀ i (h : i < T.length) (h' : i < P.length),
    (i < jn → P[i].1 = mkT (k + cntA T i)) ∧ IsSl P[i].2 ∧ ∃ V : List ByteArray, V.length = T[i].2.length ∧ RowIn w lo hi 9 1 P[i].2 V.length (ss V) ∧ (i < jv → V = marksS (k + cntA T i + 1) T[i].2.length) ∧ (jn ≤ i → P[i].1 = T[i].1) ∧ (jv ≤ i → V = T[i].2)
theorem AttrsMk.below {w w' : World} {lo hi k jn jv : Nat} {u : Value} {T : List AttrV} (h : AttrsMk w lo hi u T k jn jv) (hb : Below w.heap.size w w') : AttrsMk w' lo hi u T k jn jv := by
  obtain ⟨P, h1, h2, h3, h4⟩ := h
  refine ⟨P, h1, h2.below hb, h3, fun i a b => ?_⟩
  obtain ⟨q1, q2, V, q3, q4, q5⟩ := h4 i a b
  exact ⟨q1, q2, V, q3, q4.below hb, q5⟩
theorem ps_set (P : List PairV) (j : Nat) (A : ByteArray) (hj : j < P.length) : (ps P).set (j * 2) (.string A) = ps (P.set j (A, P[j].2)) := by
  induction P generalizing j with
  | nil => simp at hj
  | cons p P ih =>
    cases j with
    | zero => simp [ps]
    | succ j =>
      have := ih j (by simpa using hj)
      simp only [ps, List.flatMap_cons] at this ⊢
      rw [show (j + 1) * 2 = j * 2 + 1 + 1 by omega]
      simp only [List.cons_append, List.nil_append, List.set_cons_succ, List.getElem_cons_succ, List.flatMap_cons]
      rw [this]
theorem AttrsMk.at {w : World} {lo hi k jn jv j : Nat} {u : Value} {T : List AttrV} (h : AttrsMk w lo hi u T k jn jv) (hj : j < T.length) :
    ∃ g cap, u = .slice (some ⟨g, 0, none⟩) T.length cap ∧ lo ≤ g ∧ g < hi ∧ (∃ x, w.cell? ⟨g, j * 2, none⟩ = some (.string x) ∧ (j < jn → x = mkT (k + cntA T j))) ∧ w.frozen? ⟨g, j * 2, none⟩ = false ∧
      ∃ vo vc V, w.cell? ⟨g, j * 2 + 1, none⟩ = some (.slice vo T[j].2.length vc) ∧ V.length = T[j].2.length ∧ RowIn w lo hi 9 1 (.slice vo T[j].2.length vc) V.length (ss V) ∧ (j < jv → V = marksS (k + cntA T j + 1) T[j].2.length) := by
  obtain ⟨P, h1, h2, h3, h4⟩ := h
  have hjP : j < P.length := by omega
  rcases h2.1.2 with ⟨_, h0⟩ | ⟨g, cap, cur, rfl, hg, _⟩
  · omega
  · obtain ⟨q1, ⟨vo, n, vc, q2⟩, V, q3, q4, q5, _⟩ := h4 j hj hjP
    rw [q2] at q4
    obtain rfl : n = T[j].2.length := by
      obtain ⟨_, _, e⟩ := own_slice q4.1
      injection e with _ e _
      omega
    have c0 := h2.1.cellAt (j * 2) (by omega)
    have c1 := h2.1.cellAt (j * 2 + 1) (by omega)
    obtain ⟨p0, p1⟩ := ps_get P j hjP
    rw [p0] at c0; rw [p1, q2] at c1
    exact ⟨g, cap, rfl, hg, h2.2 g rfl, ⟨P[j].1, c0, q1⟩, h2.1.frozenAt _, vo, vc, V, c1, q3, q4, q5⟩
theorem AttrsMk.name {w : World} {lo hi k j g cap : Nat} {T : List AttrV} (h : AttrsMk w lo hi (.slice (some ⟨g, 0, none⟩) T.length cap) T k j j) (hj : j < T.length) :
    AttrsMk (w.setCell ⟨g, j * 2, none⟩ (.string (mkT (k + cntA T j)))) lo hi (.slice (some ⟨g, 0, none⟩) T.length cap) T k (j + 1) j ∧ Mid lo hi w (w.setCell ⟨g, j * 2, none⟩ (.string (mkT (k + cntA T j)))) ∧ Keeps97 w (w.setCell ⟨g, j * 2, none⟩ (.string (mkT (k + cntA T j)))) := by
  obtain ⟨P, h1, h2, h3, h4⟩ := h
  have hjP : j < P.length := by omega
  obtain ⟨s1, s2⟩ := h2.1.stored (j * 2) (.string (mkT (k + cntA T j)))
  have hm := h2.turn s2
  rw [ps_set P j _ hjP] at s1
  refine ⟨⟨P.set j (mkT (k + cntA T j), P[j].2), by simpa using h1, ⟨s1, h2.2⟩, ?_, fun i a b => ?_⟩, hm, Keeps97.of_grown h2.1 (by decide) s2⟩
  · refine apartB_of P _ h3 (by simp) fun i a b => ?_
    rw [List.getElem_set]; split
    · rename_i e; subst e; rfl
    · rfl
  · have hb : i < P.length := by omega
    obtain ⟨q1, q2, V, q3, q4, q5, q6, q7⟩ := h4 i a hb
    have e2 : (P.set j (mkT (k + cntA T j), P[j].2))[i].2 = P[i].2 := by
      rw [List.getElem_set]; split
      · rename_i e; subst e; rfl
      · rfl
    refine ⟨fun hlt => ?_, by rw [e2]; exact q2, V, q3, ?_, q5, fun hge => ?_, q7⟩
    · rw [List.getElem_set]; split
      · rename_i e; subst e; rfl
      · rename_i e; exact q1 (by omega)
    · rw [e2]
      exact q4.kept s2 (fun g' hg' e => rows_apart q4.1 h2.1 (by decide) g' hg' e)
    · rw [List.getElem_set, if_neg (by omega)]; exact q6 (by omega)
theorem AttrsMk.texts {w w' : World} {lo hi k j vc : Nat} {u : Value} {vo : Option Addr} {T : List AttrV} (h : AttrsMk w lo hi u T k (j + 1) j) (hj : j < T.length)
    (hc : ∀ g cap, u = .slice (some ⟨g, 0, none⟩) T.length cap → w.cell? ⟨g, j * 2 + 1, none⟩ = some (.slice vo T[j].2.length vc))
    (hr : RowIn w' lo hi 9 1 (.slice vo T[j].2.length vc) (marksS (k + cntA T j + 1) T[j].2.length).length (ss (marksS (k + cntA T j + 1) T[j].2.length))) (hg : w.grownBy w' (Value.slice vo T[j].2.length vc).ownBlock) :
    AttrsMk w' lo hi u T k (j + 1) (j + 1) := by
  obtain ⟨P, h1, h2, h3, h4⟩ := h
  have hjP : j < P.length := by omega
  have hP : P[j].2 = .slice vo T[j].2.length vc := by
    rcases h2.1.2 with ⟨_, h0⟩ | ⟨g, cap, cur, rfl, _, _⟩
    · omega
    · have c1 := h2.1.cellAt (j * 2 + 1) (by omega)
      rw [hc g cap rfl, (ps_get P j hjP).2] at c1
      injection c1 with c1
      exact c1.symm
  obtain ⟨_, _, V0, _, r0, _⟩ := h4 j hj hjP
  rw [hP] at r0
  refine ⟨P, h1, h2.kept hg (fun g hg e => rows_apart r0.1 h2.1 (by decide) g e hg), h3, fun i a b => ?_⟩
  obtain ⟨q1, q2, V, q3, q4, q5, q6, q7⟩ := h4 i a b
  refine ⟨q1, q2, ?_⟩
  by_cases e : i = j
  · subst e
    refine ⟨_, marksS_len _ _, ?_, fun _ => rfl, q6, fun h => absurd h (by omega)⟩
    rw [hP]; exact hr
  · refine ⟨V, q3, q4.kept hg (fun g hg' e' => ?_), fun hlt => q5 (by omega), q6, fun hge => q7 (by omega)⟩
    rw [← hP] at e'
    exact h3.at hjP b (fun h => e h.symm) g e' hg'
theorem slice_own {lo hi n vc : Nat} {w : World} {vo : Option Addr} {V : List ByteArray} (h : RowIn w lo hi 9 1 (.slice vo n vc) V.length (ss V)) : V.length = n := by
  obtain ⟨_, _, e⟩ := own_slice h.1
  injection e with _ e _
  exact e.symm
set_option maxRecDepth 100000 in
set_option maxHeartbeats 2000000 in
theorem markAttrS_own (u : Value) (lo hi k : Nat) (T : List AttrV) (w : World) (hS : AttrsMk w lo hi u T k 0 0) (hz : cntA T T.length ≤ 800) (hk1 : 0 < k) (hk2 : k ≤ 100) :
    Calls Tryz.prog 84 #[u, .int .i64 k] w fun e w' => e = .returned (.int .i64 ((k + cntA T T.length : Nat) : Int)) ∧ AttrsMk w' lo hi u T k T.length T.length ∧ Mid lo hi w w' ∧ Keeps97 w w' := by
  by_cases hT0 : T.length = 0
  · obtain ⟨ao, cap, rfl⟩ : ∃ ao cap, u = .slice ao T.length cap := by obtain ⟨P, _, h2, _⟩ := hS; exact own_slice h2.1
    have HS := Lib.hid hS; clear hS
    have hc0 : cntA T T.length = 0 := by rw [hT0]; simp [cntA]
    have H0 := Lib.hid hT0
    rw [hc0]
    generalize hTn : T.length = n at *
    subst hT0
    go_enter Tryz.func84, Tryz.ntmps84
    go_wp2
    go_loop [1, 5] (fun t i => t = .int .i64 k ∧ i = .int .i64 0) (fun _ _ => 0)
    case atStart => exact ⟨rfl, rfl⟩
    case round =>
      obtain ⟨rfl, rfl⟩ := hrel
      go_wp2
      go_ret
      exact ⟨rfl, HS.out, Mid.refl _ _ _, Keeps97.refl _⟩
  obtain ⟨g, cap, rfl, hg1, hg2, _⟩ := hS.at (j := 0) (by omega)
  have HS := Lib.hid hS; clear hS
  have hTl : T.length ≤ 800 := by
    have : ∀ L : List AttrV, L.length ≤ (L.map fun a => 1 + a.2.length).sum := fun L => by
      induction L with
      | nil => simp
      | cons a L ih => simp only [List.length_cons, List.map_cons, List.sum_cons]; omega
    have := this T
    unfold cntA at hz; rw [List.take_length] at hz
    omega
  go_enter Tryz.func84, Tryz.ntmps84
  go_wp2
  go_loopw [1, 5] (fun t i wr => ∃ j : Nat, j ≤ T.length ∧ i = .int .i64 j ∧ t = .int .i64 ((k + cntA T j : Nat) : Int) ∧ AttrsMk wr lo hi (.slice (some ⟨g, 0, none⟩) T.length cap) T k j j ∧ Mid lo hi w wr ∧ Keeps97 w wr) (fun _ i _ => T.length - (intOf i).toNat)
  case atStart => exact ⟨0, Nat.zero_le _, rfl, by simp [cntA], HS.out, Mid.refl _ _ _, Keeps97.refl _⟩
  case round =>
    obtain ⟨j, hj, rfl, rfl, hA, hM, hK⟩ := hrel
    have HA := Lib.hid hA; have HM := Lib.hid hM; have HK := Lib.hid hK; clear hA hM hK
    have hcj := cntA_le T j
    by_cases hlt : j < T.length
    · have HCs := Lib.hid (cntA_succ T j hlt)
      have hcs : cntA T j + (1 + T[j].2.length) ≤ cntA T T.length := by have := cntA_le T (j + 1); rw [HCs.out] at this; exact this
      have g1 : (0 : Int) ≤ (j : Int) := by omega
      have g2 : (j : Int) < (T.length : Int) := by omega
      go_wp2_with fail
      refine (markText_any (k + cntA T j) wr (by omega) (by omega)).mono ?_
      rintro e w2 ⟨rfl, hb2⟩
      have HA2 := Lib.hid (HA.out.below hb2)
      have HM2 := Lib.hid (HM.out.trans (Mid.of_below hb2)); have HK2 := Lib.hid (HK.out.trans (Keeps97.of_below hb2))
      clear hb2
      obtain ⟨g', cap', eu, _, _, ⟨x0, c0, _⟩, f0, _⟩ := HA2.out.at hlt
      injection eu with eu _ eu2
      injection eu with eu
      injection eu with eu
      subst eu; subst eu2
      obtain ⟨hA3, hM3, hK3⟩ := HA2.out.name hlt
      have HA3 := Lib.hid hA3; have HM3 := Lib.hid (HM2.out.trans hM3); have HK3 := Lib.hid (HK2.out.trans hK3)
      obtain ⟨g', cap', eu, _, _, _, _, vo, vc, V, c1, v1, v2, _⟩ := HA3.out.at hlt
      injection eu with eu _ eu2
      injection eu with eu
      injection eu with eu
      subst eu; subst eu2
      have HV := Lib.hid v2
      have HC1 := Lib.hid c1
      have HMS : Hid (∀ W, RowIn W lo hi 9 1 (.slice vo T[j].2.length vc) V.length (ss V) → Calls Tryz.prog 40 #[.slice vo T[j].2.length vc, .int .i64 (((k + cntA T j + 1 : Nat)) : Int)] W fun e w' => e = .returned (.int .i64 ((k + cntA T j + 1 + T[j].2.length : Nat) : Int)) ∧ RowIn w' lo hi 9 1 (.slice vo T[j].2.length vc) (marksS (k + cntA T j + 1) T[j].2.length).length (ss (marksS (k + cntA T j + 1) T[j].2.length)) ∧ W.grownBy w' (Value.slice vo T[j].2.length vc).ownBlock) :=
        Lib.hid (fun W h => by
          have := markStringS_any (.slice vo T[j].2.length vc) V lo (k + cntA T j + 1) W h.1 (by omega) (by omega) (by omega)
          rw [v1] at this
          exact this.mono fun e w' ⟨a, b, c⟩ => ⟨a, ⟨b, h.2⟩, c⟩)
      have HTx : Hid (∀ W, RowIn W lo hi 9 1 (.slice vo T[j].2.length vc) (marksS (k + cntA T j + 1) T[j].2.length).length (ss (marksS (k + cntA T j + 1) T[j].2.length)) → (w2.setCell ⟨g, j * 2, none⟩ (.string (mkT (k + cntA T j)))).grownBy W (Value.slice vo T[j].2.length vc).ownBlock → AttrsMk W lo hi (.slice (some ⟨g, 0, none⟩) T.length cap) T k (j + 1) (j + 1)) :=
        Lib.hid (fun W h1 h2 => HA3.out.texts hlt (fun g' c' e => by injection e with e; injection e with e; injection e with e; subst e; exact HC1.out) h1 h2)
      have hv1' : T[j].2.length ≤ 800 := by omega
      clear hA3 hM3 hK3 v1 v2
      generalize T[j].2.length = n at *
      generalize hA0 : mkT (k + cntA T j) = A at *
      clear hA0
      generalize marksS (k + cntA T j + 1) n = MV at *
      generalize hcc : cntA T j = c at *
      have Hcc := Lib.hid hcc; clear hcc
      rw [show ((k + c + 1 : Nat) : Int) = (k : Int) + (c : Int) + 1 by omega] at HMS
      go_wp2_with fail
      refine (HMS.out _ HV.out).mono ?_
      rintro e w3 ⟨rfl, hr3, hg3⟩
      have HA4 := Lib.hid (HTx.out w3 hr3 hg3)
      have HM4 := Lib.hid (HM3.out.trans (HV.out.turn hg3)); have HK4 := Lib.hid (HK3.out.trans (Keeps97.of_grown HV.out.1 (by decide) hg3))
      clear hr3 hg3 c0 f0 c1
      go_wp2
      go_roundw
      case rel => exact ⟨j + 1, by omega, by go_num, by rw [HCs.out]; exact congrArg (Value.int .i64) (by omega), HA4.out, HM4.out, HK4.out⟩
      case measure => simp [intOf]; omega
    · have e : j = T.length := by omega
      subst e
      go_wp2
      go_ret
      exact ⟨ret_int' (by omega), HA.out, HM.out, HK.out⟩
end Go.Proofs.YtjajpdghamecoaaGreat
/- The helpers of the laws: the marks of a result's entry are found again; results as wholes. -/
namespace Go.Proofs.YtjajpdghamecoaaGreat
open Go.RowKit
attribute [local go_sem ↓] Go.wp_at_zero Go.wp_at_succ

theorem len_cnt (T : List AttrV) : T.length ≤ cntA T T.length := by
  have : ∀ L : List AttrV, L.length ≤ (L.map fun a => 1 + a.2.length).sum := fun L => by
    induction L with
    | nil => simp
    | cons a L ih => simp only [List.length_cons, List.map_cons, List.sum_cons]; omega
  have := this T
  unfold cntA; rw [List.take_length]
  omega
set_option maxRecDepth 100000 in
set_option maxHeartbeats 2000000 in
theorem heldAttrS_own (u : Value) (lo hi k : Nat) (T : List AttrV) (w : World) (hS : AttrsMk w lo hi u T k T.length T.length) (hz : cntA T T.length ≤ 800) (hk1 : 0 < k) (hk2 : k ≤ 100) :
    Calls Tryz.prog 123 #[u, .int .i64 k] w fun e w' => e = .returned (.int .i64 ((k + cntA T T.length : Nat) : Int)) ∧ Below w.heap.size w w' := by
  by_cases hT0 : T.length = 0
  · obtain ⟨ao, cap, rfl⟩ : ∃ ao cap, u = .slice ao T.length cap := by obtain ⟨P, _, h2, _⟩ := hS; exact own_slice h2.1
    clear hS
    have hc0 : cntA T T.length = 0 := by rw [hT0]; simp [cntA]
    rw [hc0, hT0]
    go_enter Tryz.func123, Tryz.ntmps123
    go_wp2
    go_loop [1, 5] (fun t i => t = .int .i64 k ∧ i = .int .i64 0) (fun _ _ => 0)
    case atStart => exact ⟨rfl, rfl⟩
    case round =>
      obtain ⟨rfl, rfl⟩ := hrel
      go_wp2
      go_ret
      exact ⟨rfl, Below.refl _ _⟩
  obtain ⟨g, cap, rfl, hg1, hg2, _⟩ := hS.at (j := 0) (by omega)
  have HS := Lib.hid hS; clear hS
  have hTl : T.length ≤ 800 := Nat.le_trans (len_cnt T) hz
  go_enter Tryz.func123, Tryz.ntmps123
  go_wp2
  go_loopw [1, 5] (fun t i wr => ∃ j : Nat, j ≤ T.length ∧ i = .int .i64 j ∧ t = .int .i64 ((k + cntA T j : Nat) : Int) ∧ Below w.heap.size w wr) (fun _ i _ => T.length - (intOf i).toNat)
  case atStart => exact ⟨0, Nat.zero_le _, rfl, by simp [cntA], Below.refl _ _⟩
  case round =>
    obtain ⟨j, hj, rfl, rfl, hbel⟩ := hrel
    have hcj := cntA_le T j
    by_cases hlt : j < T.length
    · have HCs := Lib.hid (cntA_succ T j hlt)
      have hcs : cntA T j + (1 + T[j].2.length) ≤ cntA T T.length := by have := cntA_le T (j + 1); rw [HCs.out] at this; exact this
      have g1 : (0 : Int) ≤ (j : Int) := by omega
      have g2 : (j : Int) < (T.length : Int) := by omega
      obtain ⟨g', cap', eu, _, _, ⟨x0, c0, hx0⟩, _, vo, vc, V, c1, v1, v2, hV⟩ := HS.out.at hlt
      injection eu with eu _ eu2
      injection eu with eu
      injection eu with eu
      subst eu; subst eu2
      have hxe := hx0 hlt
      subst hxe
      have hVe := hV hlt
      subst hVe
      have hgl : g < w.heap.size := World.block_lt_of_cell? w _ c0
      have HM1 := Lib.hid (fun W h => markText_from w (k + cntA T j) W (by omega) (by omega) h)
      have HSt : Hid (∀ W, Below w.heap.size w W → Calls Tryz.prog 134 #[.slice vo T[j].2.length vc, .int .i64 ((k + cntA T j + 1 : Nat) : Int)] W fun e w' => e = .returned (.int .i64 ((k + cntA T j + 1 + T[j].2.length : Nat) : Int)) ∧ Below w.heap.size w w') :=
        Lib.hid (fun W h => (heldStringS_any vo T[j].2.length vc (k + cntA T j + 1) W ((own_strs v2.1).below h) (by omega) (by omega) (by omega)).mono fun e w' ⟨a, b⟩ => ⟨a, h.trans (b.mono h.size)⟩)
      have hnn : T[j].2.length ≤ 800 := by omega
      clear v1 v2 hx0 hV
      generalize T[j].2.length = n at *
      generalize mkT (k + cntA T j) = A at *
      generalize cntA T j = c at *
      rw [show ((k + c + 1 : Nat) : Int) = (k : Int) + (c : Int) + 1 by omega] at HSt
      rw [show ((k + c : Nat) : Int) = (k : Int) + (c : Int) by omega] at HM1 ⊢
      have SK : Hid (∀ W : World, Below w.heap.size w W → (Below w.heap.size w W ∧ W.cell? ⟨g, j * 2, none⟩ = some (.string A) ∧ W.cell? ⟨g, j * 2 + 1, none⟩ = some (.slice vo n vc))) :=
        Lib.hid (fun W h => ⟨h, (h.cell (p := ⟨g, _, none⟩) hgl).trans c0, (h.cell (p := ⟨g, _, none⟩) hgl).trans c1⟩)
      clear c0 c1
      have hbd := hbel.drew
      go_wp2_with fail
      go_region_held3 (fun W => Below w.heap.size w W ∧ W.cell? ⟨g, j * 2, none⟩ = some (.string A) ∧ W.cell? ⟨g, j * 2 + 1, none⟩ = some (.slice vo n vc))
        (exact SK.out _ (by assumption))
        (first | (go_at_call 86; refine (HM1.out _ (by assumption)).mono ?_; rintro e w2 ⟨rfl, hb2⟩) | (fail "none"))
      obtain ⟨_, c0, c1⟩ := SK.out _ hb2
      clear hbel hbd
      have hq : ¬ ((k + c + 1 + n : Nat) : Int) < 0 := by omega
      have HQ : Hid (((k + c + 1 + n : Nat) : Int) = ((k + (c + (1 + n)) : Nat) : Int)) := Lib.hid (by omega)
      generalize ((k + c + 1 + n : Nat) : Int) = Q at *
      go_wp2_with fail
      refine (HSt.out _ hb2).mono ?_
      rintro e w3 ⟨rfl, hb3⟩
      go_wp2
      go_roundw
      case rel => exact ⟨j + 1, by omega, by go_num, by rw [HCs.out, HQ.out], hb3⟩
      case measure => simp [intOf]; omega
    · have e : j = T.length := by omega
      subst e
      go_wp2
      go_ret
      exact ⟨ret_int' (by omega), hbel⟩
/-- an entry of the law's own, not yet marked -/
def OutIn (w : World) (lo hi : Nat) (v u : Value) (D : RdnL) (T : List AttrV) : Prop := RowIn w lo hi 97 2 v D.length (rs D) ∧ AttrsMk w lo hi u T (1 + 2 * D.length) 0 0
def OutMk (w : World) (lo hi : Nat) (v u : Value) (D : RdnL) (T : List AttrV) : Prop := RowIn w lo hi 97 2 v (marks 1 D.length).length (rs (marks 1 D.length)) ∧ AttrsMk w lo hi u T (1 + 2 * D.length) T.length T.length
def cntE (D : RdnL) (T : List AttrV) : Nat := 1 + 2 * D.length + cntA T T.length
theorem OutMk.below {w w' : World} {lo hi : Nat} {v u : Value} {D : RdnL} {T : List AttrV} (h : OutMk w lo hi v u D T) (hb : Below w.heap.size w w') : OutMk w' lo hi v u D T := ⟨h.1.below hb, h.2.below hb⟩
theorem attrsMk_of {w : World} {lo : Nat} {u : Value} {T : List AttrV} (h : AttrsOwn w lo u T) (k : Nat) : AttrsMk w lo w.heap.size u T k 0 0 := by
  obtain ⟨P, h1, h2, h3, h4⟩ := h
  refine ⟨P, h1, rowIn_of h2, h4.imp fun h => h.2, fun i a b => ?_⟩
  obtain ⟨q1, q2, q3⟩ := h3 i a b
  exact ⟨fun h => absurd h (Nat.not_lt_zero _), q2, T[i].2, rfl, rowIn_of q3, fun h => absurd h (Nat.not_lt_zero _), fun _ => q1, fun _ => rfl⟩
/-- what is not marked is read as it is -/
theorem AttrsMk.attrs {w : World} {lo hi k n cap : Nat} {uo : Option Addr} {T : List AttrV} (h : AttrsMk w lo hi (.slice uo n cap) T k 0 0) : AttrsAt w uo T := by
  obtain ⟨P, h1, h2, _, h4⟩ := h
  by_cases hT : T = []
  · exact .inl hT
  have hT' : 0 < T.length := List.length_pos_iff.2 hT
  rcases h2.1.2 with ⟨_, h0⟩ | ⟨g, cap', cur, e, hg, hk, _⟩
  · omega
  · injection e with e1 e2 e3
    subst e1; subst e2; subst e3
    refine .inr ⟨g, 0, rfl, (Array.getElem?_eq_some_iff.1 hk).1, fun i hi => ?_⟩
    have hiP : i < P.length := by omega
    obtain ⟨_, ⟨vo, m, vc, q2⟩, V, q3, q4, _, q6, q7⟩ := h4 i hi hiP
    have hV := q7 (Nat.zero_le _); subst hV
    rw [q2] at q4
    obtain rfl : m = T[i].2.length := (slice_own q4).symm
    have c0 := h2.1.cellAt (i * 2) (by omega)
    have c1 := h2.1.cellAt (i * 2 + 1) (by omega)
    obtain ⟨p0, p1⟩ := ps_get P i hiP
    rw [p0, q6 (Nat.zero_le _)] at c0; rw [p1, q2] at c1
    rw [Nat.zero_add]
    refine ⟨c0, vo, vc, c1, own_strs q4.1, own_cap q4.1, fun e => ?_⟩
    subst e
    rcases q4.1.2 with ⟨q, _⟩ | ⟨k, cp, cur, q, _⟩
    · injection q
    · injection q with q; cases q
theorem AttrsMk.mid {w w' : World} {lo hi a b k jn jv : Nat} {u : Value} {T : List AttrV} (h : AttrsMk w lo hi u T k jn jv) (hm : Mid a b w w') (hx : hi ≤ a ∨ b ≤ lo) : AttrsMk w' lo hi u T k jn jv := by
  obtain ⟨P, h1, h2, h3, h4⟩ := h
  refine ⟨P, h1, h2.mid hm hx, h3, fun i p q => ?_⟩
  obtain ⟨q1, q2, V, q3, q4, q5⟩ := h4 i p q
  exact ⟨q1, q2, V, q3, q4.mid hm hx, q5⟩
/-- marks in rows of pairs leave the attributes -/
theorem AttrsMk.rdns {w w' : World} {lo hi k jn jv n lo' : Nat} {u v : Value} {T : List AttrV} {xs : List Value} (h : AttrsMk w lo hi u T k jn jv) (hv : w.ownsRow lo' 97 2 v n xs) (hg : w.grownBy w' v.ownBlock) : AttrsMk w' lo hi u T k jn jv := by
  obtain ⟨P, h1, h2, h3, h4⟩ := h
  refine ⟨P, h1, h2.kept hg (fun g e e' => rows_apart h2.1 hv (by decide) g e e'), h3, fun i p q => ?_⟩
  obtain ⟨q1, q2, V, q3, q4, q5⟩ := h4 i p q
  exact ⟨q1, q2, V, q3, q4.kept hg (fun g e e' => rows_apart q4.1 hv (by decide) g e e'), q5⟩
theorem OutIn.mid {w w' : World} {lo hi a b : Nat} {v u : Value} {D : RdnL} {T : List AttrV} (h : OutIn w lo hi v u D T) (hm : Mid a b w w') (hx : hi ≤ a ∨ b ≤ lo) : OutIn w' lo hi v u D T := ⟨h.1.mid hm hx, h.2.mid hm hx⟩
theorem OutIn.below {w w' : World} {lo hi : Nat} {v u : Value} {D : RdnL} {T : List AttrV} (h : OutIn w lo hi v u D T) (hb : Below w.heap.size w w') : OutIn w' lo hi v u D T := ⟨h.1.below hb, h.2.below hb⟩
theorem OutMk.mid {w w' : World} {lo hi a b : Nat} {v u : Value} {D : RdnL} {T : List AttrV} (h : OutMk w lo hi v u D T) (hm : Mid a b w w') (hx : hi ≤ a ∨ b ≤ lo) : OutMk w' lo hi v u D T := ⟨h.1.mid hm hx, h.2.mid hm hx⟩
set_option maxRecDepth 100000 in
set_option maxHeartbeats 2000000 in
theorem markEntry_own (vo uo : Option Addr) (cv cu : Nat) (D : RdnL) (T : List AttrV) (lo hi : Nat) (w : World) (h : OutIn w lo hi (.slice vo D.length cv) (.slice uo T.length cu) D T) (hD : D.length ≤ 40) (hT : cntA T T.length ≤ 800) (hhi : hi ≤ w.heap.size) :
    Calls Tryz.prog 34 #[.agg #[.slice vo D.length cv, .slice uo T.length cu], .int .i64 1] w fun e w' => e = .returned (.int .i64 (cntE D T : Int)) ∧ OutMk w' lo hi (.slice vo D.length cv) (.slice uo T.length cu) D T ∧ Mid lo hi w w' := by
  have H0 := Lib.hid h; clear h
  go_enter Tryz.func34, Tryz.ntmps34
  go_wp2_with fail
  have hal := more (Below.refl w.heap.size w) (.cells #[.slice vo D.length cv, .slice uo T.length cu] 26)
  refine calls_any' (fun W => Below w.heap.size w W ∧ w.heap.size < W.heap.size ∧ Two W w.heap.size 26 (.slice vo D.length cv) (.slice uo T.length cu)) ⟨hal, by simp, twoNew w 26 _ _⟩ ?_
  clear hal
  rintro W ⟨hbW, hlW, t0⟩
  have D1 := Lib.hid (H0.out.below hbW)
  refine (markRdnS_any _ D lo 1 W D1.out.1.1 (by omega) (by omega) (by omega)).mono ?_
  rintro e w2 ⟨rfl, hr2, hg2⟩
  have A2 := Lib.hid (D1.out.2.rdns D1.out.1.1 hg2)
  have R2 : Hid (RowIn w2 lo hi 97 2 (.slice vo D.length cv) (marks 1 D.length).length (rs (marks 1 D.length))) := Lib.hid ⟨hr2, D1.out.1.2⟩
  have M2 := Lib.hid ((Mid.of_below (lo := lo) (hi := hi) hbW).trans (D1.out.1.turn hg2))
  have T2 : Hid (Two w2 w.heap.size 26 (.slice vo D.length cv) (.slice uo T.length cu)) := Lib.hid ((hg2.block w.heap.size hlW (by intro e; have := D1.out.1.2 _ e.symm; omega)).trans t0)
  obtain ⟨⟨c0, c1⟩, _⟩ := T2.out.cells
  clear hbW hlW t0 hg2 hr2 D1 H0
  have HA := Lib.hid (markAttrS_own _ lo hi (1 + 2 * D.length) T w2 A2.out hT (by omega) (by omega))
  have HQ : Hid ((1 + 2 * D.length + cntA T T.length : Nat) = cntE D T) := Lib.hid rfl
  go_wp2_with fail
  refine HA.out.mono ?_
  rintro e w3 ⟨rfl, ha3, hm3, hk3⟩
  have M3 := Lib.hid (M2.out.trans hm3)
  have O3 : Hid (OutMk w3 lo hi (.slice vo D.length cv) (.slice uo T.length cu) D T) := Lib.hid ⟨R2.out.keep97 hk3, ha3⟩
  clear hm3 ha3 hk3
  rw [HQ.out]
  go_wp2
  go_ret
  exact ⟨rfl, O3.out, M3.out⟩
set_option maxRecDepth 100000 in
set_option maxHeartbeats 2000000 in
theorem markEntryOut_own (vo uo : Option Addr) (cv cu : Nat) (c : Int) (D : RdnL) (T : List AttrV) (lo hi : Nat) (w : World) (h : OutIn w lo hi (.slice vo D.length cv) (.slice uo T.length cu) D T) (hD : D.length ≤ 40) (hT : cntA T T.length ≤ 800) (hhi : hi ≤ w.heap.size) :
    Calls Tryz.prog 35 #[.agg #[.slice vo D.length cv, .slice uo T.length cu, .int .i64 c], .int .i64 1] w fun e w' => e = .returned (.int .i64 (cntE D T : Int)) ∧ OutMk w' lo hi (.slice vo D.length cv) (.slice uo T.length cu) D T ∧ Mid lo hi w w' := by
  have H0 := Lib.hid h; clear h
  go_enter Tryz.func35, Tryz.ntmps35
  go_wp2_with fail
  have hal := more (Below.refl w.heap.size w) (.cells #[.slice vo D.length cv, .slice uo T.length cu, .int .i64 c] 30)
  refine calls_any' (fun W => Below w.heap.size w W) hal ?_
  clear hal
  rintro W hbW
  refine (markEntry_own vo uo cv cu D T lo hi W (H0.out.below hbW) hD hT (Nat.le_trans hhi hbW.size)).mono ?_
  rintro e w2 ⟨rfl, o2, m2⟩
  have O2 := Lib.hid o2; have M2 := Lib.hid ((Mid.of_below (lo := lo) (hi := hi) hbW).trans m2)
  clear o2 m2 hbW H0
  generalize hqe : (cntE D T : Int) = q
  have HQe := Lib.hid hqe; clear hqe
  go_wp2
  go_ret
  exact ⟨ret_int' HQe.out.symm, O2.out, M2.out⟩
set_option maxRecDepth 100000 in
set_option maxHeartbeats 2000000 in
theorem heldEntry_own (vo uo : Option Addr) (cv cu : Nat) (D : RdnL) (T : List AttrV) (lo hi : Nat) (w : World) (h : OutMk w lo hi (.slice vo D.length cv) (.slice uo T.length cu) D T) (hD : D.length ≤ 40) (hT : cntA T T.length ≤ 800) :
    Calls Tryz.prog 85 #[.agg #[.slice vo D.length cv, .slice uo T.length cu], .int .i64 1] w fun e w' => e = .returned (.int .i64 (cntE D T : Int)) ∧ Below w.heap.size w w' := by
  have H0 := Lib.hid h; clear h
  go_enter Tryz.func85, Tryz.ntmps85
  go_wp2_with fail
  have hal := more (Below.refl w.heap.size w) (.cells #[.slice vo D.length cv, .slice uo T.length cu] 26)
  refine calls_any' (fun W => Below w.heap.size w W ∧ Two W w.heap.size 26 (.slice vo D.length cv) (.slice uo T.length cu)) ⟨hal, twoNew w 26 _ _⟩ ?_
  clear hal
  rintro W ⟨hbW, t0⟩
  have D1 := Lib.hid (H0.out.below hbW)
  refine (heldRdnS_any vo D.length cv 1 W (own_dn D1.out.1.1) (by omega) (by omega) (by omega)).mono ?_
  rintro e w2 ⟨rfl, hb2⟩
  have A2 := Lib.hid (D1.out.2.below hb2)
  have B2 := Lib.hid (hbW.trans (hb2.mono hbW.size)); have T2 := Lib.hid (t0.below hb2)
  obtain ⟨⟨c0, c1⟩, _⟩ := T2.out.cells
  clear hbW t0 hb2 D1 H0
  have HA := Lib.hid (heldAttrS_own _ lo hi (1 + 2 * D.length) T w2 A2.out hT (by omega) (by omega))
  have HQ : Hid ((1 + 2 * D.length + cntA T T.length : Nat) = cntE D T) := Lib.hid rfl
  have h1 : ¬ ((1 + 2 * D.length : Nat) : Int) < 0 := by omega
  have h2 : ¬ (cntE D T : Int) < 0 := by omega
  generalize ((1 + 2 * D.length : Nat) : Int) = q1 at *
  go_wp2_with fail
  refine HA.out.mono ?_
  rintro e w3 ⟨rfl, hb3⟩
  have B3 := Lib.hid (B2.out.trans (hb3.mono B2.out.size))
  clear hb3
  rw [HQ.out]
  generalize hqe : (cntE D T : Int) = q at *
  have HQe := Lib.hid hqe; clear hqe
  go_wp2
  go_ret
  exact ⟨ret_int' HQe.out.symm, B3.out⟩
set_option maxRecDepth 100000 in
set_option maxHeartbeats 2000000 in
theorem heldEntryOut_own (vo uo : Option Addr) (cv cu : Nat) (c : Int) (D : RdnL) (T : List AttrV) (lo hi : Nat) (w : World) (h : OutMk w lo hi (.slice vo D.length cv) (.slice uo T.length cu) D T) (hD : D.length ≤ 40) (hT : cntA T T.length ≤ 800) :
    Calls Tryz.prog 36 #[.agg #[.slice vo D.length cv, .slice uo T.length cu, .int .i64 c], .int .i64 1] w fun e w' => e = .returned (.int .i64 (cntE D T : Int)) ∧ Below w.heap.size w w' := by
  have H0 := Lib.hid h; clear h
  go_enter Tryz.func36, Tryz.ntmps36
  go_wp2_with fail
  have hal := more (Below.refl w.heap.size w) (.cells #[.slice vo D.length cv, .slice uo T.length cu, .int .i64 c] 30)
  refine calls_any' (fun W => Below w.heap.size w W) hal ?_
  clear hal
  rintro W hbW
  refine (heldEntry_own vo uo cv cu D T lo hi W (H0.out.below hbW) hD hT).mono ?_
  rintro e w2 ⟨rfl, b2⟩
  have B2 := Lib.hid (hbW.trans (b2.mono hbW.size))
  clear b2 hbW H0
  have h2 : ¬ (cntE D T : Int) < 0 := by omega
  generalize hqe : (cntE D T : Int) = q at *
  have HQe := Lib.hid hqe; clear hqe
  go_wp2
  go_ret
  exact ⟨ret_int' HQe.out.symm, B2.out⟩
end Go.Proofs.YtjajpdghamecoaaGreat
