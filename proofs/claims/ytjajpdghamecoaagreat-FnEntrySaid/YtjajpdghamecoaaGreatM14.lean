/- Merged texts: SpAdd2, SpAdd3, Draw3, Draw4. -/
import Derived.Test.YtjajpdghamecoaaGreatM13
import Derived.Test.YtjajpdghamecoaaGreatM12
import Derived.Test.YtjajpdghamecoaaGreatM2
/- l03Add, ValueAdd: what the specification's text returns. -/
namespace Go.Proofs.YtjajpdghamecoaaGreat
open Go.RowKit
attribute [local go_sem ↓] Go.wp_at_zero Go.wp_at_succ

theorem strs_one (w : World) (s : ByteArray) : StrsAt (w.alloc (.cells #[.string s] 9)) (some ⟨w.heap.size, 0, none⟩) [s] :=
  .inr ⟨w.heap.size, 0, rfl, by simp, fun i hi => by
    simp at hi; subst hi
    rw [cell_of_row _ w.heap.size _ #[.string s] 9 (0, 0) (heap_alloc_new w _)]; rfl⟩
theorem strs_grown {w w' : World} {b off r : Nat} {V : List ByteArray} (h : StrsAt w (some ⟨b, off, none⟩) V) (hg : w.grownBy w' (some r)) (hne : b ≠ r) : StrsAt w' (some ⟨b, off, none⟩) V := by
  rcases h with h | ⟨b', off', e, h2, h3⟩
  · exact .inl h
  · cases e
    exact .inr ⟨b, off, rfl, Nat.lt_of_lt_of_le h2 hg.size, fun i hi => (World.cell?_of_block (w := w) (a := ⟨b, off + i, none⟩) (hg.block b h2 (by intro e; injection e with e; exact hne e))).trans (h3 i hi)⟩
theorem below_three' {w w3 W : World} (h : Below w3.heap.size w3 W) (hw : w.heap.size + 1 ≤ w3.heap.size) (a b c : Value) : Below (w.heap.size + 1) w3 (((W.setCell ⟨w.heap.size + 1, 0, none⟩ a).setCell ⟨w.heap.size + 1, 1, none⟩ b).setCell ⟨w.heap.size + 1, 2, none⟩ c) :=
  (((h.mono hw).setCell (p := ⟨w.heap.size + 1, 0, none⟩) (Nat.le_refl _) _).setCell (p := ⟨w.heap.size + 1, 1, none⟩) (Nat.le_refl _) _).setCell (p := ⟨w.heap.size + 1, 2, none⟩) (Nat.le_refl _) _
theorem fin_out {w w3 w8 : World} {d : RdnL} {T : List AttrV} {po qo : Option Addr} {pc qc : Nat} (h3 : Below w.heap.size w w3) (h8 : Below w3.heap.size w3 w8) (hw : w.heap.size + 1 < w3.heap.size) (h1 : w8.ownsRow w3.heap.size 97 2 (.slice po d.length pc) d.length (rs d)) (h2 : AttrsRow w8 w3.heap.size (.slice qo T.length qc) T) (a b c : Value) :
    SpecOut w (0, d, T) (.returned (.agg #[.slice po d.length pc, .slice qo T.length qc, .int .i64 0])) (((w8.setCell ⟨w.heap.size + 1, 0, none⟩ a).setCell ⟨w.heap.size + 1, 1, none⟩ b).setCell ⟨w.heap.size + 1, 2, none⟩ c) :=
  ⟨⟨po, pc, qo, qc, rfl, own_mono (own_cellOut (own_cellOut (own_cellOut h1 hw) hw) hw) h3.size, (((h2.cellOut hw).cellOut hw).cellOut hw).mono h3.size⟩, h3.trans ((below_three' h8 (Nat.le_of_lt hw) a b c).mono (Nat.le_succ _))⟩
set_option maxRecDepth 100000 in
set_option maxHeartbeats 1000000 in
theorem l03Add_any (ao bo : Option Addr) (d : RdnL) (l : List AttrV) (ca cb : Nat) (nm val : ByteArray) (w : World) (hd : DnAt w ao d) (hl : AttrsAt w bo l) (hfd : Fits d) (hfl : FitsA l) (hn : nm.size ≤ 8000) (hv : val.size ≤ 8000) (hc : vcode (rightB d l) nm val = 0) :
    Calls Tryz.prog 57 #[.agg #[.slice ao d.length ca, .slice bo l.length cb], .string nm, .string val] w (SpecOut w (addR d l nm val)) := by
  obtain ⟨z1, _, _, _, _⟩ := vcode_zero hc
  have h8 := right_eight z1
  have hin := right_inc z1
  have hdp : 0 < d.length := by unfold rightB at z1; simp only [Bool.and_eq_true, decide_eq_true_eq] at z1; exact z1.1.2
  have hac : ao = none → ca = 0 := fun e => by
    subst e
    rcases hd with h | ⟨b, off, e, _⟩
    · rw [h] at hdp; simp at hdp
    · cases e
  have HA : Hid (attrOfL d l nm = valsOf l nm) := Lib.hid (attrOf_yes z1 nm)
  have h4 : (valsOf l nm).length ≤ 4 := by rw [← HA.out]; exact attrOf_four nm
  have HO7 : Hid (0 ≤ findI (likeV val) (valsOf l nm) → addR d l nm val = (7, [], [])) := Lib.hid (fun h => by unfold addR; rw [if_neg (by simpa using hc), if_pos (by rw [HA.out]; exact h)])
  have HO9 : Hid (¬ 0 ≤ findI (likeV val) (valsOf l nm) → ((valsOf l nm).length = 4 ∨ (l.length = 8 ∧ (valsOf l nm).length = 0)) → addR d l nm val = (9, [], [])) := Lib.hid (fun h h' => by
    unfold addR; rw [if_neg (by simpa using hc), if_neg (by rw [HA.out]; exact h), if_pos ?_]
    rw [HA.out]
    rcases h' with h' | h'
    · exact .inl h'
    · right; unfold lackB; rw [HA.out]; simp [h'.1, h'.2])
  have HO0 : Hid (¬ 0 ≤ findI (likeV val) (valsOf l nm) → ¬ ((valsOf l nm).length = 4 ∨ (l.length = 8 ∧ (valsOf l nm).length = 0)) → addR d l nm val = (0, d, setL l nm (sortN (valsOf l nm ++ [val])))) := Lib.hid (fun h h' => by
    unfold addR; rw [if_neg (by simpa using hc), if_neg (by rw [HA.out]; exact h), if_neg ?_, HA.out]
    rw [HA.out]
    rintro (h'' | h'')
    · exact h' (.inl h'')
    · unfold lackB at h''; rw [HA.out] at h''; simp only [Bool.and_eq_true, decide_eq_true_eq] at h''; exact h' (.inr h''))
  have HV1 := Lib.hid (valsOf_fits hfl nm)
  have HD := Lib.hid hd; have HL := Lib.hid hl; have FD := Lib.hid hfd; have FL := Lib.hid hfl; have HI := Lib.hid hin; clear hd hl hfd hfl hc z1 hin HA
  go_enter Tryz.func57, Tryz.ntmps57
  go_wp2_with fail
  refine calls_any' (fun W => Below w.heap.size w W ∧ Two W w.heap.size 26 (.slice ao d.length ca) (.slice bo l.length cb) ∧ Three W (w.heap.size + 1) 30 (.slice none 0 0) (.slice none 0 0) (.int .i64 0)) ⟨more (more (Below.refl _ _) _) _, (twoNew w 26 _ _).alloc _, threeNext w _ 30 _ _ _⟩ ?_
  rintro W ⟨hbW, t0, t1⟩
  refine (l03Of_any ao bo d l ca cb nm W (HL.out.below hbW) FL.out).mono ?_
  rintro e w1 ⟨⟨lo, lc, rfl, hva⟩, hb1⟩
  have B1 := Lib.hid (hbW.trans (hb1.mono hbW.size)); have T1 := Lib.hid (t0.below hb1); have U1 := Lib.hid (t1.below hb1); have VA := Lib.hid hva
  clear hbW t0 t1 hb1 hva
  generalize valsOf l nm = L at *
  go_wp2_with fail
  refine (SpecNorm_any val w1 (by unfold maxLen; omega)).mono ?_
  rintro e w2 ⟨rfl, hb2⟩
  have B2 := Lib.hid (B1.out.trans (hb2.mono B1.out.size)); have T2 := Lib.hid (T1.out.below hb2); have U2 := Lib.hid (U1.out.below hb2); have VA2 := Lib.hid (VA.out.below hb2)
  clear hb2 B1 T1 U1 VA
  go_wp2_with fail
  refine (l03In_any lo L lc val w2 VA2.out.1 HV1.out).mono ?_
  rintro e w3 ⟨rfl, hb3⟩
  have B3 := Lib.hid (B2.out.trans (hb3.mono B2.out.size)); have T3 := Lib.hid (T2.out.below hb3); have U3 := Lib.hid (U2.out.below hb3); have VA3 := Lib.hid (VA2.out.below hb3)
  clear hb3 B2 T2 U2 VA2
  have hw1 : w.heap.size + 1 < w3.heap.size := U3.out.lt
  by_cases hi : 0 ≤ findI (likeV val) L
  · have HO := Lib.hid (HO7.out hi)
    clear HO7 HO9 HO0
    generalize findI (likeV val) L = q at *
    go_wp2_with fail
    refine (l03Ill_any 7 w3).mono ?_
    rintro e w4 ⟨rfl, hb4⟩
    have U4 := Lib.hid (U3.out.below hb4); have B4 := Lib.hid (B3.out.trans (hb4.mono B3.out.size))
    clear hb4
    obtain ⟨⟨k0, k1, k2⟩, f0, f1, f2⟩ := U4.out.cells
    obtain ⟨⟨q0, q1, q2⟩, _⟩ := (((U4.out.set0 (.slice none 0 0)).set1 (.slice none 0 0)).set2 (.int .i64 7)).cells
    unfold failV
    go_wp2_with fail
    refine bodyPost_ret (v := failV 7) (by simp [results, Tryz.results57, go_sem, q0, q1, q2, failV]) rfl ?_
    rw [HO.out]
    exact specOut_fail (below_three B4.out _ _ _)
  · have HO9' := Lib.hid (HO9.out (by omega)); have HO0' := Lib.hid (HO0.out (by omega))
    clear HO7 HO9 HO0
    generalize findI (likeV val) L = q at *
    obtain ⟨⟨p0, p1⟩, _⟩ := T3.out.cells
    by_cases hf : L.length = 4 ∨ (l.length = 8 ∧ L.length = 0)
    · have HO := Lib.hid (HO9'.out hf)
      clear HO9' HO0'
      rcases hf with hf | ⟨hf, hf'⟩
      · have HF := Lib.hid hf
        rw [hf]
        clear hf
        go_wp2_with fail
        refine (l03Ill_any 9 w3).mono ?_
        rintro e w4 ⟨rfl, hb4⟩
        have U4 := Lib.hid (U3.out.below hb4); have B4 := Lib.hid (B3.out.trans (hb4.mono B3.out.size))
        clear hb4
        obtain ⟨⟨k0, k1, k2⟩, f0, f1, f2⟩ := U4.out.cells
        obtain ⟨⟨q0, q1, q2⟩, _⟩ := (((U4.out.set0 (.slice none 0 0)).set1 (.slice none 0 0)).set2 (.int .i64 9)).cells
        unfold failV
        go_wp2_with fail
        refine bodyPost_ret (v := failV 9) (by simp [results, Tryz.results57, go_sem, q0, q1, q2, failV]) rfl ?_
        rw [HO.out]
        exact specOut_fail (below_three B4.out _ _ _)
      · have HF := Lib.hid hf'
        rw [hf'] at *
        rw [hf] at p1 ⊢
        go_wp2_with fail
        refine (l03Ill_any 9 w3).mono ?_
        rintro e w4 ⟨rfl, hb4⟩
        have U4 := Lib.hid (U3.out.below hb4); have B4 := Lib.hid (B3.out.trans (hb4.mono B3.out.size))
        clear hb4
        obtain ⟨⟨k0, k1, k2⟩, f0, f1, f2⟩ := U4.out.cells
        obtain ⟨⟨q0, q1, q2⟩, _⟩ := (((U4.out.set0 (.slice none 0 0)).set1 (.slice none 0 0)).set2 (.int .i64 9)).cells
        unfold failV
        go_wp2_with fail
        refine bodyPost_ret (v := failV 9) (by simp [results, Tryz.results57, go_sem, q0, q1, q2, failV]) rfl ?_
        rw [HO.out]
        exact specOut_fail (below_three B4.out _ _ _)
    · have HOut := Lib.hid (HO0'.out hf)
      clear HO9' HO0'
      have hl4 : ¬ 4 ≤ (L.length : Int) := by omega
      have hl0 : ((L.length : Int) == 0) = decide (L.length = 0) := by rw [Bool.eq_iff_iff]; simp
      have hl8 : L.length = 0 → ¬ 8 ≤ (l.length : Int) := fun h => by have := h8.1; omega
      have hlc := VA3.out.2.2
      have hlenL : ([] : List ByteArray).length + L.length ≤ 1000000000 := by simp; omega
      have hlen1 : L.length + [val].length ≤ 1000000000 := by simp; omega
      have FV' := Lib.hid (fits_snoc HV1.out (by omega) (s := val) (by omega))
      have HLs : (L ++ [val]).length = L.length + 1 := by simp
      have hL5 : (L ++ [val]).length ≤ 400 := by omega
      have HSet0 : Hid (∀ (X : World) (yo : Option Addr) (yc : Nat), Below w3.heap.size w3 X → StrsAt X yo (L ++ [val]) → Calls Tryz.prog 101 #[.agg #[.slice ao d.length ca, .slice bo l.length cb], .string nm, .slice yo (L.length + 1) yc] X fun e w' => (∃ po pc qo qc, e = .returned (.agg #[.slice po d.length pc, .slice qo (setL l nm (sortN (L ++ [val]))).length qc]) ∧ w'.ownsRow w3.heap.size 97 2 (.slice po d.length pc) d.length (rs d) ∧ AttrsRow w' w3.heap.size (.slice qo (setL l nm (sortN (L ++ [val]))).length qc) (setL l nm (sortN (L ++ [val])))) ∧ Below w3.heap.size w3 w') :=
        Lib.hid (fun X yo yc hX hy => by
          have := l03Set_any ao bo yo d l (L ++ [val]) ca cb yc nm X (HD.out.below (B3.out.trans (hX.mono B3.out.size))) (HL.out.below (B3.out.trans (hX.mono B3.out.size))) hy FD.out FL.out FV'.out (by omega) hL5 hac HI.out
          rw [HLs] at this
          exact this.mono fun e w' ⟨⟨po, pc, qo, qc, e1, e2, e3⟩, e4⟩ => ⟨⟨po, pc, qo, qc, e1, own_mono e2 hX.size, e3.mono hX.size⟩, hX.trans (e4.mono hX.size)⟩)
      have HSet := Lib.hid HSet0.out
      clear HSet0 hL5
      generalize setL l nm (sortN (L ++ [val])) = T at *
      have SK : Hid (∀ Z : World, Below (w.heap.size + 1) w3 Z → (Z.cell? ⟨w.heap.size, 0, none⟩ = some (.slice ao d.length ca) ∧ Z.cell? ⟨w.heap.size, 1, none⟩ = some (.slice bo l.length cb))) :=
        Lib.hid (fun Z h => ⟨(h.cell (p := ⟨w.heap.size, 0, none⟩) (Nat.lt_succ_self _)).trans T3.out.cells.1.1, (h.cell (p := ⟨w.heap.size, 1, none⟩) (Nat.lt_succ_self _)).trans T3.out.cells.1.2⟩)
      have hw1' : w.heap.size + 1 ≤ w3.heap.size := Nat.le_of_lt hw1
      have hbd0 : Below w3.heap.size w3 w3.drew := (Below.refl _ _).drew
      have hbz1 : Below w3.heap.size w3 (w3.drew.alloc (.cells #[] 9)) := more hbd0 _
      have hbz2 : Below w3.heap.size w3 (w3.drew.alloc (.cells #[.string val] 9)) := more hbd0 _
      have hbz12 : Below w3.heap.size w3 ((w3.drew.alloc (.cells #[] 9)).alloc (.cells #[.string val] 9)) := more hbz1 _
      have hbz21 : Below w3.heap.size w3 ((w3.drew.alloc (.cells #[.string val] 9)).alloc (.cells #[] 9)) := more hbz2 _
      have OZ1 : Hid ((w3.drew.alloc (.cells #[] 9)).ownsRow w3.heap.size 9 1 (.slice (some ⟨w3.heap.size, 0, none⟩) 0 0) ([] : List ByteArray).length (ss [])) := Lib.hid (own_zero w3.drew rfl (Nat.le_refl _))
      have OZ12 : Hid (((w3.drew.alloc (.cells #[] 9)).alloc (.cells #[.string val] 9)).ownsRow w3.heap.size 9 1 (.slice (some ⟨w3.heap.size, 0, none⟩) 0 0) ([] : List ByteArray).length (ss [])) := Lib.hid (OZ1.out.alloc _)
      have OZ21 : Hid (((w3.drew.alloc (.cells #[.string val] 9)).alloc (.cells #[] 9)).ownsRow w3.heap.size 9 1 (.slice (some ⟨w3.heap.size + 1, 0, none⟩) 0 0) ([] : List ByteArray).length (ss [])) := Lib.hid (own_zero (w3.drew.alloc (.cells #[.string val] 9)) (by simp) (Nat.le_succ _))
      have HVa : Hid (StrsAt (w3.drew.alloc (.cells #[] 9)) lo L) := Lib.hid (VA3.out.1.below hbz1)
      have HVb : Hid (StrsAt ((w3.drew.alloc (.cells #[] 9)).alloc (.cells #[.string val] 9)) lo L) := Lib.hid (VA3.out.1.below hbz12)
      have HVc : Hid (StrsAt ((w3.drew.alloc (.cells #[.string val] 9)).alloc (.cells #[] 9)) lo L) := Lib.hid (VA3.out.1.below hbz21)
      have HX12 : Hid (StrsAt ((w3.drew.alloc (.cells #[] 9)).alloc (.cells #[.string val] 9)) (some ⟨w3.heap.size + 1, 0, none⟩) [val]) := Lib.hid (by have := strs_one (w3.drew.alloc (.cells #[] 9)) val; simpa using this)
      have HX21 : Hid (StrsAt ((w3.drew.alloc (.cells #[.string val] 9)).alloc (.cells #[] 9)) (some ⟨w3.heap.size, 0, none⟩) [val]) := Lib.hid ((strs_one w3.drew val).below (more (Below.refl _ _) _))
      have hs1 : w3.heap.size ≤ (w3.drew.alloc (.cells #[] 9)).heap.size := hbz1.size
      have hs12 : w3.heap.size ≤ ((w3.drew.alloc (.cells #[] 9)).alloc (.cells #[.string val] 9)).heap.size := hbz12.size
      have hs21 : w3.heap.size ≤ ((w3.drew.alloc (.cells #[.string val] 9)).alloc (.cells #[] 9)).heap.size := hbz21.size
      clear p0 p1
      by_cases hL0 : L.length = 0
      · have hl8' := hl8 hL0
        have HL0 := Lib.hid hL0
        have hl0' : ((L.length : Int) == 0) = true := by rw [hl0]; simpa using hL0
        obtain ⟨⟨p0, p1⟩, _⟩ := T3.out.cells
        clear hl0 hl8 hL0 hf
        go_wp2_with fail
        clear p0 p1
        refine wp_region_held_drew (S := (fun Z => Z.cell? ⟨w.heap.size, 0, none⟩ = some (.slice ao d.length ca) ∧ Z.cell? ⟨w.heap.size, 1, none⟩ = some (.slice bo l.length cb))) (by kernel_rfl) ?_ (fun hHeld => ?_)
        · (try dsimp only)
          first | exact SK.out _ (Below.mono (by assumption) hw1') | exact SK.out _ (hbz1.mono hw1') | exact SK.out _ (hbz2.mono hw1') | exact SK.out _ (hbz12.mono hw1') | exact SK.out _ (hbz21.mono hw1') | exact SK.out _ (below_three' hb8 hw1' _ _ _)
        refine wpAnyH_take (i := 0) (oi := { dst := some 34, op := Op.load 26 (Operand.tmp 3), type := 26, pos := "l03_entry.go:148", after := #[], guard := none }) (v := ?_) rfl (by kernel_rfl) (by kernel_rfl) (by kernel_rfl) (fun _ _ _ h => h) (Or.inl ⟨by rfl, ?_⟩) (by assumption) ?_
        rotate_left
        · intro w hSw; (try dsimp only at hSw); go_simp; (try with_reducible rfl)
        (try simp only [Act.put, List.setIfInBounds_toArray, List.set_cons_zero, List.set_cons_succ])
        refine wpAnyH_take (i := 1) (oi := { dst := some 35, op := Op.move (Operand.tmp 1), type := 9, pos := "l03_entry.go:148", after := #[], guard := none }) (v := ?_) rfl (by kernel_rfl) (by kernel_rfl) (by kernel_rfl) (fun _ _ _ h => h) (Or.inl ⟨by rfl, ?_⟩) (by assumption) ?_
        rotate_left
        · intro w hSw; (try dsimp only at hSw); go_simp; (try with_reducible rfl)
        (try simp only [Act.put, List.setIfInBounds_toArray, List.set_cons_zero, List.set_cons_succ])
        refine wpAnyH_take (i := 3) (oi := { dst := some 37, op := Op.move (Operand.tmp 7), type := 36, pos := "l03_entry.go:148", after := #[], guard := none }) (v := ?_) rfl (by kernel_rfl) (by kernel_rfl) (by kernel_rfl) (fun _ _ _ h => h) (Or.inl ⟨by rfl, ?_⟩) (by assumption) ?_
        rotate_left
        · intro w hSw; (try dsimp only at hSw); go_simp; (try with_reducible rfl)
        (try simp only [Act.put, List.setIfInBounds_toArray, List.set_cons_zero, List.set_cons_succ])
        refine wpAnyH_take (i := 5) (oi := { dst := some 39, op := Op.move (Operand.tmp 2), type := 9, pos := "l03_entry.go:148", after := #[], guard := none }) (v := ?_) rfl (by kernel_rfl) (by kernel_rfl) (by kernel_rfl) (fun _ _ _ h => h) (Or.inl ⟨by rfl, ?_⟩) (by assumption) ?_
        rotate_left
        · intro w hSw; (try dsimp only at hSw); go_simp; (try with_reducible rfl)
        (try simp only [Act.put, List.setIfInBounds_toArray, List.set_cons_zero, List.set_cons_succ])
        refine wpAnyH_ready (rs := [2, 6]) (by kernel_rfl) (by simp) ?_
        refine AllReadyH.cons (o := { dst := some 36, op := Op.buildSlice 36 0 #[], type := 36, pos := "l03_entry.go:148", after := #[], guard := none }) rfl (fun K hK => ?_) (AllReadyH.cons (o := { dst := some 40, op := Op.buildSlice 36 1 #[(0, Operand.tmp 39)], type := 36, pos := "l03_entry.go:148", after := #[{ on := 5, ground := Ground.data }], guard := none }) rfl (fun K hK => ?_) (AllReadyH.nil))
        · go_simp
          clear hHeld
          refine hK.out _ _ ?_ (fun hHeld => ?_)
          · (try dsimp only)
            first | exact SK.out _ (Below.mono (by assumption) hw1') | exact SK.out _ (hbz1.mono hw1') | exact SK.out _ (hbz2.mono hw1') | exact SK.out _ (hbz12.mono hw1') | exact SK.out _ (hbz21.mono hw1') | exact SK.out _ (below_three' hb8 hw1' _ _ _)
          clear hK K
          (try simp only [Act.put, List.setIfInBounds_toArray, List.set_cons_zero, List.set_cons_succ])
          refine wpAnyH_ready (rs := [4, 6]) (by kernel_rfl) (by simp) ?_
          refine AllReadyH.cons (o := { dst := some 38, op := Op.call { callee := Callee.builtin Builtin.append, args := #[Operand.tmp 36, Operand.tmp 37], argTypes := #[36, 36] }, type := 36, pos := "l03_entry.go:148", after := #[{ on := 2, ground := Ground.data }, { on := 3, ground := Ground.data }], guard := none }) rfl (fun K hK => ?_) (AllReadyH.cons (o := { dst := some 40, op := Op.buildSlice 36 1 #[(0, Operand.tmp 39)], type := 36, pos := "l03_entry.go:148", after := #[{ on := 5, ground := Ground.data }], guard := none }) rfl (fun K hK => ?_) (AllReadyH.nil))
          · refine step_strs w3.heap.size rfl _ _ rfl (.slice (some ⟨w3.heap.size, 0, none⟩) 0 0) [] rfl OZ1.out lo L lc _ rfl rfl HVa.out hlc hlenL hs1 hbz1 ?_
            intro v4 w4 hown4 hbel4 hgr4
            obtain ⟨xo, xc, rfl⟩ := own_slice hown4
            simp only [List.nil_append] at hown4 ⊢
            have hz4 : Below w3.heap.size w3 (w4.alloc (.cells #[.string val] 9)) := more hbel4 _
            clear hHeld
            refine hK.out _ _ ?_ (fun hHeld => ?_)
            · (try dsimp only)
              first | exact SK.out _ (Below.mono (by assumption) hw1') | exact SK.out _ (hbz1.mono hw1') | exact SK.out _ (hbz2.mono hw1') | exact SK.out _ (hbz12.mono hw1') | exact SK.out _ (hbz21.mono hw1') | exact SK.out _ (below_three' hb8 hw1' _ _ _)
            clear hK K
            (try simp only [Act.put, List.setIfInBounds_toArray, List.set_cons_zero, List.set_cons_succ])
            refine wpAnyH_ready (rs := [6]) (by kernel_rfl) (by simp) ?_
            refine AllReadyH.cons (o := { dst := some 40, op := Op.buildSlice 36 1 #[(0, Operand.tmp 39)], type := 36, pos := "l03_entry.go:148", after := #[{ on := 5, ground := Ground.data }], guard := none }) rfl (fun K hK => ?_) (AllReadyH.nil)
            go_simp
            clear hHeld
            refine hK.out _ _ ?_ (fun hHeld => ?_)
            · (try dsimp only)
              first | exact SK.out _ (Below.mono (by assumption) hw1') | exact SK.out _ (hbz1.mono hw1') | exact SK.out _ (hbz2.mono hw1') | exact SK.out _ (hbz12.mono hw1') | exact SK.out _ (hbz21.mono hw1') | exact SK.out _ (below_three' hb8 hw1' _ _ _)
            clear hK K
            (try simp only [Act.put, List.setIfInBounds_toArray, List.set_cons_zero, List.set_cons_succ])
            refine wpAnyH_ready (rs := [7]) (by kernel_rfl) (by simp) ?_
            refine AllReadyH.cons (o := { dst := some 41, op := Op.call { callee := Callee.builtin Builtin.append, args := #[Operand.tmp 38, Operand.tmp 40], argTypes := #[36, 36] }, type := 36, pos := "l03_entry.go:148", after := #[{ on := 4, ground := Ground.data }, { on := 6, ground := Ground.data }, { on := 4, ground := Ground.chain }], guard := none }) rfl (fun K hK => ?_) (AllReadyH.nil)
            refine step_strs w3.heap.size rfl _ _ rfl (.slice xo L.length xc) L rfl (hown4.alloc _) (some ⟨w4.heap.size, 0, none⟩) [val] 1 _ rfl rfl (strs_one w4 val) (fun e => by cases e) hlen1 (Nat.le_trans hbel4.size (by simp)) hz4 ?_
            intro v7 w7 hown7 hbel7 hgr7
            obtain ⟨yo, yc, rfl⟩ := own_slice hown7
            have ST7 := Lib.hid (own_strs hown7)
            clear hown7
            rw [HLs]
            clear hHeld
            refine hK.out _ _ ?_ (fun hHeld => ?_)
            · (try dsimp only)
              first | exact SK.out _ (Below.mono (by assumption) hw1') | exact SK.out _ (hbz1.mono hw1') | exact SK.out _ (hbz2.mono hw1') | exact SK.out _ (hbz12.mono hw1') | exact SK.out _ (hbz21.mono hw1') | exact SK.out _ (below_three' hb8 hw1' _ _ _)
            clear hK K
            (try simp only [Act.put, List.setIfInBounds_toArray, List.set_cons_zero, List.set_cons_succ])
            refine wpAnyH_ready (rs := [8]) (by kernel_rfl) (by simp) ?_
            refine AllReadyH.cons (o := { dst := some 42, op := Op.call { callee := Callee.value (Operand.func 101), args := #[Operand.tmp 34, Operand.tmp 35, Operand.tmp 41], argTypes := #[26, 9, 36] }, type := 26, pos := "l03_entry.go:148", after := #[{ on := 0, ground := Ground.data }, { on := 1, ground := Ground.data }, { on := 7, ground := Ground.data }, { on := 7, ground := Ground.chain }], guard := none }) rfl (fun K hK => ?_) (AllReadyH.nil)
            go_simp
            refine (HSet.out w7 yo yc hbel7 ST7.out).mono ?_
            rintro e w8 ⟨⟨po, pc, qo, qc, rfl, e1, e2⟩, hb8⟩
            have E1 := Lib.hid e1; have E2 := Lib.hid e2; clear e1 e2
            have U8 := Lib.hid (U3.out.below hb8)
            obtain ⟨⟨k0, k1, k2⟩, f0, f1, f2⟩ := U8.out.cells
            clear hHeld
            refine hK.out _ _ ?_ (fun hHeld => ?_)
            · (try dsimp only)
              first | exact SK.out _ (Below.mono (by assumption) hw1') | exact SK.out _ (hbz1.mono hw1') | exact SK.out _ (hbz2.mono hw1') | exact SK.out _ (hbz12.mono hw1') | exact SK.out _ (hbz21.mono hw1') | exact SK.out _ (below_three' hb8 hw1' _ _ _)
            clear hK K
            (try simp only [Act.put, List.setIfInBounds_toArray, List.set_cons_zero, List.set_cons_succ])
            refine wpAnyH_take (i := 9) (oi := { dst := some 43, op := Op.build 30 #[(0, Operand.tmp 42)], type := 30, pos := "l03_entry.go:148", after := #[{ on := 8, ground := Ground.data }], guard := none }) (v := ?_) rfl (by kernel_rfl) (by kernel_rfl) (by kernel_rfl) (fun _ _ _ h => h) (Or.inl ⟨by rfl, ?_⟩) (by assumption) ?_
            rotate_left
            · intro w hSw; (try dsimp only at hSw); go_simp; (try with_reducible rfl)
            (try simp only [Act.put, List.setIfInBounds_toArray, List.set_cons_zero, List.set_cons_succ])
            refine wpAnyH_ready (rs := [10]) (by kernel_rfl) (by simp) ?_
            refine AllReadyH.cons (o := { dst := none, op := Op.store 30 (Operand.tmp 6) (Operand.tmp 43), type := 0, pos := "l03_entry.go:148", after := #[{ on := 9, ground := Ground.data }, { on := 8, ground := Ground.chain }, { on := 0, ground := Ground.phase }, { on := 1, ground := Ground.phase }, { on := 2, ground := Ground.phase }, { on := 3, ground := Ground.phase }, { on := 4, ground := Ground.phase }, { on := 5, ground := Ground.phase }, { on := 6, ground := Ground.phase }, { on := 7, ground := Ground.phase }, { on := 8, ground := Ground.phase }, { on := 9, ground := Ground.phase }], guard := none }) rfl (fun K hK => ?_) (AllReadyH.nil)
            go_simp
            clear hHeld
            refine hK.out _ _ ?_ (fun hHeld => ?_)
            · (try dsimp only)
              first | exact SK.out _ (Below.mono (by assumption) hw1') | exact SK.out _ (hbz1.mono hw1') | exact SK.out _ (hbz2.mono hw1') | exact SK.out _ (hbz12.mono hw1') | exact SK.out _ (hbz21.mono hw1') | exact SK.out _ (below_three' hb8 hw1' _ _ _)
            clear hK K
            (try simp only [Act.put, List.setIfInBounds_toArray, List.set_cons_zero, List.set_cons_succ])
            refine wpAnyH_done (by kernel_rfl) ?_ _
            clear hHeld
            obtain ⟨⟨q0, q1, q2⟩, _⟩ := (((U8.out.set0 (.slice po d.length pc)).set1 (.slice qo T.length qc)).set2 (.int .i64 0)).cells
            clear k0 k1 k2 f0 f1 f2
            go_wp2_with fail
            refine bodyPost_ret (v := .agg #[.slice po d.length pc, .slice qo T.length qc, .int .i64 0]) (by simp [results, Tryz.results57, go_sem, q0, q1, q2]) rfl ?_
            rw [HOut.out]
            exact fin_out B3.out hb8 hw1 E1.out E2.out _ _ _
          · go_simp
            clear hHeld
            refine hK.out _ _ ?_ (fun hHeld => ?_)
            · (try dsimp only)
              first | exact SK.out _ (Below.mono (by assumption) hw1') | exact SK.out _ (hbz1.mono hw1') | exact SK.out _ (hbz2.mono hw1') | exact SK.out _ (hbz12.mono hw1') | exact SK.out _ (hbz21.mono hw1') | exact SK.out _ (below_three' hb8 hw1' _ _ _)
            clear hK K
            (try simp only [Act.put, List.setIfInBounds_toArray, List.set_cons_zero, List.set_cons_succ])
            refine wpAnyH_ready (rs := [4]) (by kernel_rfl) (by simp) ?_
            refine AllReadyH.cons (o := { dst := some 38, op := Op.call { callee := Callee.builtin Builtin.append, args := #[Operand.tmp 36, Operand.tmp 37], argTypes := #[36, 36] }, type := 36, pos := "l03_entry.go:148", after := #[{ on := 2, ground := Ground.data }, { on := 3, ground := Ground.data }], guard := none }) rfl (fun K hK => ?_) (AllReadyH.nil)
            refine step_strs w3.heap.size rfl _ _ rfl (.slice (some ⟨w3.heap.size, 0, none⟩) 0 0) [] rfl OZ12.out lo L lc _ rfl rfl HVb.out hlc hlenL hs12 hbz12 ?_
            intro v4 w4 hown4 hbel4 hgr4
            obtain ⟨xo, xc, rfl⟩ := own_slice hown4
            simp only [List.nil_append] at hown4 ⊢
            have SV := strs_grown HX12.out hgr4 (Nat.succ_ne_self _)
            clear hHeld
            refine hK.out _ _ ?_ (fun hHeld => ?_)
            · (try dsimp only)
              first | exact SK.out _ (Below.mono (by assumption) hw1') | exact SK.out _ (hbz1.mono hw1') | exact SK.out _ (hbz2.mono hw1') | exact SK.out _ (hbz12.mono hw1') | exact SK.out _ (hbz21.mono hw1') | exact SK.out _ (below_three' hb8 hw1' _ _ _)
            clear hK K
            (try simp only [Act.put, List.setIfInBounds_toArray, List.set_cons_zero, List.set_cons_succ])
            refine wpAnyH_ready (rs := [7]) (by kernel_rfl) (by simp) ?_
            refine AllReadyH.cons (o := { dst := some 41, op := Op.call { callee := Callee.builtin Builtin.append, args := #[Operand.tmp 38, Operand.tmp 40], argTypes := #[36, 36] }, type := 36, pos := "l03_entry.go:148", after := #[{ on := 4, ground := Ground.data }, { on := 6, ground := Ground.data }, { on := 4, ground := Ground.chain }], guard := none }) rfl (fun K hK => ?_) (AllReadyH.nil)
            refine step_strs w3.heap.size rfl _ _ rfl (.slice xo L.length xc) L rfl hown4 (some ⟨w3.heap.size + 1, 0, none⟩) [val] 1 _ rfl rfl SV (fun e => by cases e) hlen1 hbel4.size hbel4 ?_
            intro v7 w7 hown7 hbel7 hgr7
            obtain ⟨yo, yc, rfl⟩ := own_slice hown7
            have ST7 := Lib.hid (own_strs hown7)
            clear hown7
            rw [HLs]
            clear hHeld
            refine hK.out _ _ ?_ (fun hHeld => ?_)
            · (try dsimp only)
              first | exact SK.out _ (Below.mono (by assumption) hw1') | exact SK.out _ (hbz1.mono hw1') | exact SK.out _ (hbz2.mono hw1') | exact SK.out _ (hbz12.mono hw1') | exact SK.out _ (hbz21.mono hw1') | exact SK.out _ (below_three' hb8 hw1' _ _ _)
            clear hK K
            (try simp only [Act.put, List.setIfInBounds_toArray, List.set_cons_zero, List.set_cons_succ])
            refine wpAnyH_ready (rs := [8]) (by kernel_rfl) (by simp) ?_
            refine AllReadyH.cons (o := { dst := some 42, op := Op.call { callee := Callee.value (Operand.func 101), args := #[Operand.tmp 34, Operand.tmp 35, Operand.tmp 41], argTypes := #[26, 9, 36] }, type := 26, pos := "l03_entry.go:148", after := #[{ on := 0, ground := Ground.data }, { on := 1, ground := Ground.data }, { on := 7, ground := Ground.data }, { on := 7, ground := Ground.chain }], guard := none }) rfl (fun K hK => ?_) (AllReadyH.nil)
            go_simp
            refine (HSet.out w7 yo yc hbel7 ST7.out).mono ?_
            rintro e w8 ⟨⟨po, pc, qo, qc, rfl, e1, e2⟩, hb8⟩
            have E1 := Lib.hid e1; have E2 := Lib.hid e2; clear e1 e2
            have U8 := Lib.hid (U3.out.below hb8)
            obtain ⟨⟨k0, k1, k2⟩, f0, f1, f2⟩ := U8.out.cells
            clear hHeld
            refine hK.out _ _ ?_ (fun hHeld => ?_)
            · (try dsimp only)
              first | exact SK.out _ (Below.mono (by assumption) hw1') | exact SK.out _ (hbz1.mono hw1') | exact SK.out _ (hbz2.mono hw1') | exact SK.out _ (hbz12.mono hw1') | exact SK.out _ (hbz21.mono hw1') | exact SK.out _ (below_three' hb8 hw1' _ _ _)
            clear hK K
            (try simp only [Act.put, List.setIfInBounds_toArray, List.set_cons_zero, List.set_cons_succ])
            refine wpAnyH_take (i := 9) (oi := { dst := some 43, op := Op.build 30 #[(0, Operand.tmp 42)], type := 30, pos := "l03_entry.go:148", after := #[{ on := 8, ground := Ground.data }], guard := none }) (v := ?_) rfl (by kernel_rfl) (by kernel_rfl) (by kernel_rfl) (fun _ _ _ h => h) (Or.inl ⟨by rfl, ?_⟩) (by assumption) ?_
            rotate_left
            · intro w hSw; (try dsimp only at hSw); go_simp; (try with_reducible rfl)
            (try simp only [Act.put, List.setIfInBounds_toArray, List.set_cons_zero, List.set_cons_succ])
            refine wpAnyH_ready (rs := [10]) (by kernel_rfl) (by simp) ?_
            refine AllReadyH.cons (o := { dst := none, op := Op.store 30 (Operand.tmp 6) (Operand.tmp 43), type := 0, pos := "l03_entry.go:148", after := #[{ on := 9, ground := Ground.data }, { on := 8, ground := Ground.chain }, { on := 0, ground := Ground.phase }, { on := 1, ground := Ground.phase }, { on := 2, ground := Ground.phase }, { on := 3, ground := Ground.phase }, { on := 4, ground := Ground.phase }, { on := 5, ground := Ground.phase }, { on := 6, ground := Ground.phase }, { on := 7, ground := Ground.phase }, { on := 8, ground := Ground.phase }, { on := 9, ground := Ground.phase }], guard := none }) rfl (fun K hK => ?_) (AllReadyH.nil)
            go_simp
            clear hHeld
            refine hK.out _ _ ?_ (fun hHeld => ?_)
            · (try dsimp only)
              first | exact SK.out _ (Below.mono (by assumption) hw1') | exact SK.out _ (hbz1.mono hw1') | exact SK.out _ (hbz2.mono hw1') | exact SK.out _ (hbz12.mono hw1') | exact SK.out _ (hbz21.mono hw1') | exact SK.out _ (below_three' hb8 hw1' _ _ _)
            clear hK K
            (try simp only [Act.put, List.setIfInBounds_toArray, List.set_cons_zero, List.set_cons_succ])
            refine wpAnyH_done (by kernel_rfl) ?_ _
            clear hHeld
            obtain ⟨⟨q0, q1, q2⟩, _⟩ := (((U8.out.set0 (.slice po d.length pc)).set1 (.slice qo T.length qc)).set2 (.int .i64 0)).cells
            clear k0 k1 k2 f0 f1 f2
            go_wp2_with fail
            refine bodyPost_ret (v := .agg #[.slice po d.length pc, .slice qo T.length qc, .int .i64 0]) (by simp [results, Tryz.results57, go_sem, q0, q1, q2]) rfl ?_
            rw [HOut.out]
            exact fin_out B3.out hb8 hw1 E1.out E2.out _ _ _
        · go_simp
          clear hHeld
          refine hK.out _ _ ?_ (fun hHeld => ?_)
          · (try dsimp only)
            first | exact SK.out _ (Below.mono (by assumption) hw1') | exact SK.out _ (hbz1.mono hw1') | exact SK.out _ (hbz2.mono hw1') | exact SK.out _ (hbz12.mono hw1') | exact SK.out _ (hbz21.mono hw1') | exact SK.out _ (below_three' hb8 hw1' _ _ _)
          clear hK K
          (try simp only [Act.put, List.setIfInBounds_toArray, List.set_cons_zero, List.set_cons_succ])
          refine wpAnyH_ready (rs := [2]) (by kernel_rfl) (by simp) ?_
          refine AllReadyH.cons (o := { dst := some 36, op := Op.buildSlice 36 0 #[], type := 36, pos := "l03_entry.go:148", after := #[], guard := none }) rfl (fun K hK => ?_) (AllReadyH.nil)
          go_simp
          clear hHeld
          refine hK.out _ _ ?_ (fun hHeld => ?_)
          · (try dsimp only)
            first | exact SK.out _ (Below.mono (by assumption) hw1') | exact SK.out _ (hbz1.mono hw1') | exact SK.out _ (hbz2.mono hw1') | exact SK.out _ (hbz12.mono hw1') | exact SK.out _ (hbz21.mono hw1') | exact SK.out _ (below_three' hb8 hw1' _ _ _)
          clear hK K
          (try simp only [Act.put, List.setIfInBounds_toArray, List.set_cons_zero, List.set_cons_succ])
          refine wpAnyH_ready (rs := [4]) (by kernel_rfl) (by simp) ?_
          refine AllReadyH.cons (o := { dst := some 38, op := Op.call { callee := Callee.builtin Builtin.append, args := #[Operand.tmp 36, Operand.tmp 37], argTypes := #[36, 36] }, type := 36, pos := "l03_entry.go:148", after := #[{ on := 2, ground := Ground.data }, { on := 3, ground := Ground.data }], guard := none }) rfl (fun K hK => ?_) (AllReadyH.nil)
          refine step_strs w3.heap.size rfl _ _ rfl (.slice (some ⟨w3.heap.size + 1, 0, none⟩) 0 0) [] rfl OZ21.out lo L lc _ rfl rfl HVc.out hlc hlenL hs21 hbz21 ?_
          intro v4 w4 hown4 hbel4 hgr4
          obtain ⟨xo, xc, rfl⟩ := own_slice hown4
          simp only [List.nil_append] at hown4 ⊢
          have SV := strs_grown HX21.out hgr4 (Nat.ne_of_lt (Nat.lt_succ_self _))
          clear hHeld
          refine hK.out _ _ ?_ (fun hHeld => ?_)
          · (try dsimp only)
            first | exact SK.out _ (Below.mono (by assumption) hw1') | exact SK.out _ (hbz1.mono hw1') | exact SK.out _ (hbz2.mono hw1') | exact SK.out _ (hbz12.mono hw1') | exact SK.out _ (hbz21.mono hw1') | exact SK.out _ (below_three' hb8 hw1' _ _ _)
          clear hK K
          (try simp only [Act.put, List.setIfInBounds_toArray, List.set_cons_zero, List.set_cons_succ])
          refine wpAnyH_ready (rs := [7]) (by kernel_rfl) (by simp) ?_
          refine AllReadyH.cons (o := { dst := some 41, op := Op.call { callee := Callee.builtin Builtin.append, args := #[Operand.tmp 38, Operand.tmp 40], argTypes := #[36, 36] }, type := 36, pos := "l03_entry.go:148", after := #[{ on := 4, ground := Ground.data }, { on := 6, ground := Ground.data }, { on := 4, ground := Ground.chain }], guard := none }) rfl (fun K hK => ?_) (AllReadyH.nil)
          refine step_strs w3.heap.size rfl _ _ rfl (.slice xo L.length xc) L rfl hown4 (some ⟨w3.heap.size, 0, none⟩) [val] 1 _ rfl rfl SV (fun e => by cases e) hlen1 hbel4.size hbel4 ?_
          intro v7 w7 hown7 hbel7 hgr7
          obtain ⟨yo, yc, rfl⟩ := own_slice hown7
          have ST7 := Lib.hid (own_strs hown7)
          clear hown7
          rw [HLs]
          clear hHeld
          refine hK.out _ _ ?_ (fun hHeld => ?_)
          · (try dsimp only)
            first | exact SK.out _ (Below.mono (by assumption) hw1') | exact SK.out _ (hbz1.mono hw1') | exact SK.out _ (hbz2.mono hw1') | exact SK.out _ (hbz12.mono hw1') | exact SK.out _ (hbz21.mono hw1') | exact SK.out _ (below_three' hb8 hw1' _ _ _)
          clear hK K
          (try simp only [Act.put, List.setIfInBounds_toArray, List.set_cons_zero, List.set_cons_succ])
          refine wpAnyH_ready (rs := [8]) (by kernel_rfl) (by simp) ?_
          refine AllReadyH.cons (o := { dst := some 42, op := Op.call { callee := Callee.value (Operand.func 101), args := #[Operand.tmp 34, Operand.tmp 35, Operand.tmp 41], argTypes := #[26, 9, 36] }, type := 26, pos := "l03_entry.go:148", after := #[{ on := 0, ground := Ground.data }, { on := 1, ground := Ground.data }, { on := 7, ground := Ground.data }, { on := 7, ground := Ground.chain }], guard := none }) rfl (fun K hK => ?_) (AllReadyH.nil)
          go_simp
          refine (HSet.out w7 yo yc hbel7 ST7.out).mono ?_
          rintro e w8 ⟨⟨po, pc, qo, qc, rfl, e1, e2⟩, hb8⟩
          have E1 := Lib.hid e1; have E2 := Lib.hid e2; clear e1 e2
          have U8 := Lib.hid (U3.out.below hb8)
          obtain ⟨⟨k0, k1, k2⟩, f0, f1, f2⟩ := U8.out.cells
          clear hHeld
          refine hK.out _ _ ?_ (fun hHeld => ?_)
          · (try dsimp only)
            first | exact SK.out _ (Below.mono (by assumption) hw1') | exact SK.out _ (hbz1.mono hw1') | exact SK.out _ (hbz2.mono hw1') | exact SK.out _ (hbz12.mono hw1') | exact SK.out _ (hbz21.mono hw1') | exact SK.out _ (below_three' hb8 hw1' _ _ _)
          clear hK K
          (try simp only [Act.put, List.setIfInBounds_toArray, List.set_cons_zero, List.set_cons_succ])
          refine wpAnyH_take (i := 9) (oi := { dst := some 43, op := Op.build 30 #[(0, Operand.tmp 42)], type := 30, pos := "l03_entry.go:148", after := #[{ on := 8, ground := Ground.data }], guard := none }) (v := ?_) rfl (by kernel_rfl) (by kernel_rfl) (by kernel_rfl) (fun _ _ _ h => h) (Or.inl ⟨by rfl, ?_⟩) (by assumption) ?_
          rotate_left
          · intro w hSw; (try dsimp only at hSw); go_simp; (try with_reducible rfl)
          (try simp only [Act.put, List.setIfInBounds_toArray, List.set_cons_zero, List.set_cons_succ])
          refine wpAnyH_ready (rs := [10]) (by kernel_rfl) (by simp) ?_
          refine AllReadyH.cons (o := { dst := none, op := Op.store 30 (Operand.tmp 6) (Operand.tmp 43), type := 0, pos := "l03_entry.go:148", after := #[{ on := 9, ground := Ground.data }, { on := 8, ground := Ground.chain }, { on := 0, ground := Ground.phase }, { on := 1, ground := Ground.phase }, { on := 2, ground := Ground.phase }, { on := 3, ground := Ground.phase }, { on := 4, ground := Ground.phase }, { on := 5, ground := Ground.phase }, { on := 6, ground := Ground.phase }, { on := 7, ground := Ground.phase }, { on := 8, ground := Ground.phase }, { on := 9, ground := Ground.phase }], guard := none }) rfl (fun K hK => ?_) (AllReadyH.nil)
          go_simp
          clear hHeld
          refine hK.out _ _ ?_ (fun hHeld => ?_)
          · (try dsimp only)
            first | exact SK.out _ (Below.mono (by assumption) hw1') | exact SK.out _ (hbz1.mono hw1') | exact SK.out _ (hbz2.mono hw1') | exact SK.out _ (hbz12.mono hw1') | exact SK.out _ (hbz21.mono hw1') | exact SK.out _ (below_three' hb8 hw1' _ _ _)
          clear hK K
          (try simp only [Act.put, List.setIfInBounds_toArray, List.set_cons_zero, List.set_cons_succ])
          refine wpAnyH_done (by kernel_rfl) ?_ _
          clear hHeld
          obtain ⟨⟨q0, q1, q2⟩, _⟩ := (((U8.out.set0 (.slice po d.length pc)).set1 (.slice qo T.length qc)).set2 (.int .i64 0)).cells
          clear k0 k1 k2 f0 f1 f2
          go_wp2_with fail
          refine bodyPost_ret (v := .agg #[.slice po d.length pc, .slice qo T.length qc, .int .i64 0]) (by simp [results, Tryz.results57, go_sem, q0, q1, q2]) rfl ?_
          rw [HOut.out]
          exact fin_out B3.out hb8 hw1 E1.out E2.out _ _ _
      · have hl0' : ((L.length : Int) == 0) = false := by rw [hl0]; simpa using hL0
        clear hl0 hl8 hL0 hf
        go_wp2_with fail
        refine wp_region_held_drew (S := (fun Z => Z.cell? ⟨w.heap.size, 0, none⟩ = some (.slice ao d.length ca) ∧ Z.cell? ⟨w.heap.size, 1, none⟩ = some (.slice bo l.length cb))) (by kernel_rfl) ?_ (fun hHeld => ?_)
        · (try dsimp only)
          first | exact SK.out _ (Below.mono (by assumption) hw1') | exact SK.out _ (hbz1.mono hw1') | exact SK.out _ (hbz2.mono hw1') | exact SK.out _ (hbz12.mono hw1') | exact SK.out _ (hbz21.mono hw1') | exact SK.out _ (below_three' hb8 hw1' _ _ _)
        refine wpAnyH_take (i := 0) (oi := { dst := some 34, op := Op.load 26 (Operand.tmp 3), type := 26, pos := "l03_entry.go:148", after := #[], guard := none }) (v := ?_) rfl (by kernel_rfl) (by kernel_rfl) (by kernel_rfl) (fun _ _ _ h => h) (Or.inl ⟨by rfl, ?_⟩) (by assumption) ?_
        rotate_left
        · intro w hSw; (try dsimp only at hSw); go_simp; (try with_reducible rfl)
        (try simp only [Act.put, List.setIfInBounds_toArray, List.set_cons_zero, List.set_cons_succ])
        refine wpAnyH_take (i := 1) (oi := { dst := some 35, op := Op.move (Operand.tmp 1), type := 9, pos := "l03_entry.go:148", after := #[], guard := none }) (v := ?_) rfl (by kernel_rfl) (by kernel_rfl) (by kernel_rfl) (fun _ _ _ h => h) (Or.inl ⟨by rfl, ?_⟩) (by assumption) ?_
        rotate_left
        · intro w hSw; (try dsimp only at hSw); go_simp; (try with_reducible rfl)
        (try simp only [Act.put, List.setIfInBounds_toArray, List.set_cons_zero, List.set_cons_succ])
        refine wpAnyH_take (i := 3) (oi := { dst := some 37, op := Op.move (Operand.tmp 7), type := 36, pos := "l03_entry.go:148", after := #[], guard := none }) (v := ?_) rfl (by kernel_rfl) (by kernel_rfl) (by kernel_rfl) (fun _ _ _ h => h) (Or.inl ⟨by rfl, ?_⟩) (by assumption) ?_
        rotate_left
        · intro w hSw; (try dsimp only at hSw); go_simp; (try with_reducible rfl)
        (try simp only [Act.put, List.setIfInBounds_toArray, List.set_cons_zero, List.set_cons_succ])
        refine wpAnyH_take (i := 5) (oi := { dst := some 39, op := Op.move (Operand.tmp 2), type := 9, pos := "l03_entry.go:148", after := #[], guard := none }) (v := ?_) rfl (by kernel_rfl) (by kernel_rfl) (by kernel_rfl) (fun _ _ _ h => h) (Or.inl ⟨by rfl, ?_⟩) (by assumption) ?_
        rotate_left
        · intro w hSw; (try dsimp only at hSw); go_simp; (try with_reducible rfl)
        (try simp only [Act.put, List.setIfInBounds_toArray, List.set_cons_zero, List.set_cons_succ])
        refine wpAnyH_ready (rs := [2, 6]) (by kernel_rfl) (by simp) ?_
        refine AllReadyH.cons (o := { dst := some 36, op := Op.buildSlice 36 0 #[], type := 36, pos := "l03_entry.go:148", after := #[], guard := none }) rfl (fun K hK => ?_) (AllReadyH.cons (o := { dst := some 40, op := Op.buildSlice 36 1 #[(0, Operand.tmp 39)], type := 36, pos := "l03_entry.go:148", after := #[{ on := 5, ground := Ground.data }], guard := none }) rfl (fun K hK => ?_) (AllReadyH.nil))
        · go_simp
          clear hHeld
          refine hK.out _ _ ?_ (fun hHeld => ?_)
          · (try dsimp only)
            first | exact SK.out _ (Below.mono (by assumption) hw1') | exact SK.out _ (hbz1.mono hw1') | exact SK.out _ (hbz2.mono hw1') | exact SK.out _ (hbz12.mono hw1') | exact SK.out _ (hbz21.mono hw1') | exact SK.out _ (below_three' hb8 hw1' _ _ _)
          clear hK K
          (try simp only [Act.put, List.setIfInBounds_toArray, List.set_cons_zero, List.set_cons_succ])
          refine wpAnyH_ready (rs := [4, 6]) (by kernel_rfl) (by simp) ?_
          refine AllReadyH.cons (o := { dst := some 38, op := Op.call { callee := Callee.builtin Builtin.append, args := #[Operand.tmp 36, Operand.tmp 37], argTypes := #[36, 36] }, type := 36, pos := "l03_entry.go:148", after := #[{ on := 2, ground := Ground.data }, { on := 3, ground := Ground.data }], guard := none }) rfl (fun K hK => ?_) (AllReadyH.cons (o := { dst := some 40, op := Op.buildSlice 36 1 #[(0, Operand.tmp 39)], type := 36, pos := "l03_entry.go:148", after := #[{ on := 5, ground := Ground.data }], guard := none }) rfl (fun K hK => ?_) (AllReadyH.nil))
          · refine step_strs w3.heap.size rfl _ _ rfl (.slice (some ⟨w3.heap.size, 0, none⟩) 0 0) [] rfl OZ1.out lo L lc _ rfl rfl HVa.out hlc hlenL hs1 hbz1 ?_
            intro v4 w4 hown4 hbel4 hgr4
            obtain ⟨xo, xc, rfl⟩ := own_slice hown4
            simp only [List.nil_append] at hown4 ⊢
            have hz4 : Below w3.heap.size w3 (w4.alloc (.cells #[.string val] 9)) := more hbel4 _
            clear hHeld
            refine hK.out _ _ ?_ (fun hHeld => ?_)
            · (try dsimp only)
              first | exact SK.out _ (Below.mono (by assumption) hw1') | exact SK.out _ (hbz1.mono hw1') | exact SK.out _ (hbz2.mono hw1') | exact SK.out _ (hbz12.mono hw1') | exact SK.out _ (hbz21.mono hw1') | exact SK.out _ (below_three' hb8 hw1' _ _ _)
            clear hK K
            (try simp only [Act.put, List.setIfInBounds_toArray, List.set_cons_zero, List.set_cons_succ])
            refine wpAnyH_ready (rs := [6]) (by kernel_rfl) (by simp) ?_
            refine AllReadyH.cons (o := { dst := some 40, op := Op.buildSlice 36 1 #[(0, Operand.tmp 39)], type := 36, pos := "l03_entry.go:148", after := #[{ on := 5, ground := Ground.data }], guard := none }) rfl (fun K hK => ?_) (AllReadyH.nil)
            go_simp
            clear hHeld
            refine hK.out _ _ ?_ (fun hHeld => ?_)
            · (try dsimp only)
              first | exact SK.out _ (Below.mono (by assumption) hw1') | exact SK.out _ (hbz1.mono hw1') | exact SK.out _ (hbz2.mono hw1') | exact SK.out _ (hbz12.mono hw1') | exact SK.out _ (hbz21.mono hw1') | exact SK.out _ (below_three' hb8 hw1' _ _ _)
            clear hK K
            (try simp only [Act.put, List.setIfInBounds_toArray, List.set_cons_zero, List.set_cons_succ])
            refine wpAnyH_ready (rs := [7]) (by kernel_rfl) (by simp) ?_
            refine AllReadyH.cons (o := { dst := some 41, op := Op.call { callee := Callee.builtin Builtin.append, args := #[Operand.tmp 38, Operand.tmp 40], argTypes := #[36, 36] }, type := 36, pos := "l03_entry.go:148", after := #[{ on := 4, ground := Ground.data }, { on := 6, ground := Ground.data }, { on := 4, ground := Ground.chain }], guard := none }) rfl (fun K hK => ?_) (AllReadyH.nil)
            refine step_strs w3.heap.size rfl _ _ rfl (.slice xo L.length xc) L rfl (hown4.alloc _) (some ⟨w4.heap.size, 0, none⟩) [val] 1 _ rfl rfl (strs_one w4 val) (fun e => by cases e) hlen1 (Nat.le_trans hbel4.size (by simp)) hz4 ?_
            intro v7 w7 hown7 hbel7 hgr7
            obtain ⟨yo, yc, rfl⟩ := own_slice hown7
            have ST7 := Lib.hid (own_strs hown7)
            clear hown7
            rw [HLs]
            clear hHeld
            refine hK.out _ _ ?_ (fun hHeld => ?_)
            · (try dsimp only)
              first | exact SK.out _ (Below.mono (by assumption) hw1') | exact SK.out _ (hbz1.mono hw1') | exact SK.out _ (hbz2.mono hw1') | exact SK.out _ (hbz12.mono hw1') | exact SK.out _ (hbz21.mono hw1') | exact SK.out _ (below_three' hb8 hw1' _ _ _)
            clear hK K
            (try simp only [Act.put, List.setIfInBounds_toArray, List.set_cons_zero, List.set_cons_succ])
            refine wpAnyH_ready (rs := [8]) (by kernel_rfl) (by simp) ?_
            refine AllReadyH.cons (o := { dst := some 42, op := Op.call { callee := Callee.value (Operand.func 101), args := #[Operand.tmp 34, Operand.tmp 35, Operand.tmp 41], argTypes := #[26, 9, 36] }, type := 26, pos := "l03_entry.go:148", after := #[{ on := 0, ground := Ground.data }, { on := 1, ground := Ground.data }, { on := 7, ground := Ground.data }, { on := 7, ground := Ground.chain }], guard := none }) rfl (fun K hK => ?_) (AllReadyH.nil)
            go_simp
            refine (HSet.out w7 yo yc hbel7 ST7.out).mono ?_
            rintro e w8 ⟨⟨po, pc, qo, qc, rfl, e1, e2⟩, hb8⟩
            have E1 := Lib.hid e1; have E2 := Lib.hid e2; clear e1 e2
            have U8 := Lib.hid (U3.out.below hb8)
            obtain ⟨⟨k0, k1, k2⟩, f0, f1, f2⟩ := U8.out.cells
            clear hHeld
            refine hK.out _ _ ?_ (fun hHeld => ?_)
            · (try dsimp only)
              first | exact SK.out _ (Below.mono (by assumption) hw1') | exact SK.out _ (hbz1.mono hw1') | exact SK.out _ (hbz2.mono hw1') | exact SK.out _ (hbz12.mono hw1') | exact SK.out _ (hbz21.mono hw1') | exact SK.out _ (below_three' hb8 hw1' _ _ _)
            clear hK K
            (try simp only [Act.put, List.setIfInBounds_toArray, List.set_cons_zero, List.set_cons_succ])
            refine wpAnyH_take (i := 9) (oi := { dst := some 43, op := Op.build 30 #[(0, Operand.tmp 42)], type := 30, pos := "l03_entry.go:148", after := #[{ on := 8, ground := Ground.data }], guard := none }) (v := ?_) rfl (by kernel_rfl) (by kernel_rfl) (by kernel_rfl) (fun _ _ _ h => h) (Or.inl ⟨by rfl, ?_⟩) (by assumption) ?_
            rotate_left
            · intro w hSw; (try dsimp only at hSw); go_simp; (try with_reducible rfl)
            (try simp only [Act.put, List.setIfInBounds_toArray, List.set_cons_zero, List.set_cons_succ])
            refine wpAnyH_ready (rs := [10]) (by kernel_rfl) (by simp) ?_
            refine AllReadyH.cons (o := { dst := none, op := Op.store 30 (Operand.tmp 6) (Operand.tmp 43), type := 0, pos := "l03_entry.go:148", after := #[{ on := 9, ground := Ground.data }, { on := 8, ground := Ground.chain }, { on := 0, ground := Ground.phase }, { on := 1, ground := Ground.phase }, { on := 2, ground := Ground.phase }, { on := 3, ground := Ground.phase }, { on := 4, ground := Ground.phase }, { on := 5, ground := Ground.phase }, { on := 6, ground := Ground.phase }, { on := 7, ground := Ground.phase }, { on := 8, ground := Ground.phase }, { on := 9, ground := Ground.phase }], guard := none }) rfl (fun K hK => ?_) (AllReadyH.nil)
            go_simp
            clear hHeld
            refine hK.out _ _ ?_ (fun hHeld => ?_)
            · (try dsimp only)
              first | exact SK.out _ (Below.mono (by assumption) hw1') | exact SK.out _ (hbz1.mono hw1') | exact SK.out _ (hbz2.mono hw1') | exact SK.out _ (hbz12.mono hw1') | exact SK.out _ (hbz21.mono hw1') | exact SK.out _ (below_three' hb8 hw1' _ _ _)
            clear hK K
            (try simp only [Act.put, List.setIfInBounds_toArray, List.set_cons_zero, List.set_cons_succ])
            refine wpAnyH_done (by kernel_rfl) ?_ _
            clear hHeld
            obtain ⟨⟨q0, q1, q2⟩, _⟩ := (((U8.out.set0 (.slice po d.length pc)).set1 (.slice qo T.length qc)).set2 (.int .i64 0)).cells
            clear k0 k1 k2 f0 f1 f2
            go_wp2_with fail
            refine bodyPost_ret (v := .agg #[.slice po d.length pc, .slice qo T.length qc, .int .i64 0]) (by simp [results, Tryz.results57, go_sem, q0, q1, q2]) rfl ?_
            rw [HOut.out]
            exact fin_out B3.out hb8 hw1 E1.out E2.out _ _ _
          · go_simp
            clear hHeld
            refine hK.out _ _ ?_ (fun hHeld => ?_)
            · (try dsimp only)
              first | exact SK.out _ (Below.mono (by assumption) hw1') | exact SK.out _ (hbz1.mono hw1') | exact SK.out _ (hbz2.mono hw1') | exact SK.out _ (hbz12.mono hw1') | exact SK.out _ (hbz21.mono hw1') | exact SK.out _ (below_three' hb8 hw1' _ _ _)
            clear hK K
            (try simp only [Act.put, List.setIfInBounds_toArray, List.set_cons_zero, List.set_cons_succ])
            refine wpAnyH_ready (rs := [4]) (by kernel_rfl) (by simp) ?_
            refine AllReadyH.cons (o := { dst := some 38, op := Op.call { callee := Callee.builtin Builtin.append, args := #[Operand.tmp 36, Operand.tmp 37], argTypes := #[36, 36] }, type := 36, pos := "l03_entry.go:148", after := #[{ on := 2, ground := Ground.data }, { on := 3, ground := Ground.data }], guard := none }) rfl (fun K hK => ?_) (AllReadyH.nil)
            refine step_strs w3.heap.size rfl _ _ rfl (.slice (some ⟨w3.heap.size, 0, none⟩) 0 0) [] rfl OZ12.out lo L lc _ rfl rfl HVb.out hlc hlenL hs12 hbz12 ?_
            intro v4 w4 hown4 hbel4 hgr4
            obtain ⟨xo, xc, rfl⟩ := own_slice hown4
            simp only [List.nil_append] at hown4 ⊢
            have SV := strs_grown HX12.out hgr4 (Nat.succ_ne_self _)
            clear hHeld
            refine hK.out _ _ ?_ (fun hHeld => ?_)
            · (try dsimp only)
              first | exact SK.out _ (Below.mono (by assumption) hw1') | exact SK.out _ (hbz1.mono hw1') | exact SK.out _ (hbz2.mono hw1') | exact SK.out _ (hbz12.mono hw1') | exact SK.out _ (hbz21.mono hw1') | exact SK.out _ (below_three' hb8 hw1' _ _ _)
            clear hK K
            (try simp only [Act.put, List.setIfInBounds_toArray, List.set_cons_zero, List.set_cons_succ])
            refine wpAnyH_ready (rs := [7]) (by kernel_rfl) (by simp) ?_
            refine AllReadyH.cons (o := { dst := some 41, op := Op.call { callee := Callee.builtin Builtin.append, args := #[Operand.tmp 38, Operand.tmp 40], argTypes := #[36, 36] }, type := 36, pos := "l03_entry.go:148", after := #[{ on := 4, ground := Ground.data }, { on := 6, ground := Ground.data }, { on := 4, ground := Ground.chain }], guard := none }) rfl (fun K hK => ?_) (AllReadyH.nil)
            refine step_strs w3.heap.size rfl _ _ rfl (.slice xo L.length xc) L rfl hown4 (some ⟨w3.heap.size + 1, 0, none⟩) [val] 1 _ rfl rfl SV (fun e => by cases e) hlen1 hbel4.size hbel4 ?_
            intro v7 w7 hown7 hbel7 hgr7
            obtain ⟨yo, yc, rfl⟩ := own_slice hown7
            have ST7 := Lib.hid (own_strs hown7)
            clear hown7
            rw [HLs]
            clear hHeld
            refine hK.out _ _ ?_ (fun hHeld => ?_)
            · (try dsimp only)
              first | exact SK.out _ (Below.mono (by assumption) hw1') | exact SK.out _ (hbz1.mono hw1') | exact SK.out _ (hbz2.mono hw1') | exact SK.out _ (hbz12.mono hw1') | exact SK.out _ (hbz21.mono hw1') | exact SK.out _ (below_three' hb8 hw1' _ _ _)
            clear hK K
            (try simp only [Act.put, List.setIfInBounds_toArray, List.set_cons_zero, List.set_cons_succ])
            refine wpAnyH_ready (rs := [8]) (by kernel_rfl) (by simp) ?_
            refine AllReadyH.cons (o := { dst := some 42, op := Op.call { callee := Callee.value (Operand.func 101), args := #[Operand.tmp 34, Operand.tmp 35, Operand.tmp 41], argTypes := #[26, 9, 36] }, type := 26, pos := "l03_entry.go:148", after := #[{ on := 0, ground := Ground.data }, { on := 1, ground := Ground.data }, { on := 7, ground := Ground.data }, { on := 7, ground := Ground.chain }], guard := none }) rfl (fun K hK => ?_) (AllReadyH.nil)
            go_simp
            refine (HSet.out w7 yo yc hbel7 ST7.out).mono ?_
            rintro e w8 ⟨⟨po, pc, qo, qc, rfl, e1, e2⟩, hb8⟩
            have E1 := Lib.hid e1; have E2 := Lib.hid e2; clear e1 e2
            have U8 := Lib.hid (U3.out.below hb8)
            obtain ⟨⟨k0, k1, k2⟩, f0, f1, f2⟩ := U8.out.cells
            clear hHeld
            refine hK.out _ _ ?_ (fun hHeld => ?_)
            · (try dsimp only)
              first | exact SK.out _ (Below.mono (by assumption) hw1') | exact SK.out _ (hbz1.mono hw1') | exact SK.out _ (hbz2.mono hw1') | exact SK.out _ (hbz12.mono hw1') | exact SK.out _ (hbz21.mono hw1') | exact SK.out _ (below_three' hb8 hw1' _ _ _)
            clear hK K
            (try simp only [Act.put, List.setIfInBounds_toArray, List.set_cons_zero, List.set_cons_succ])
            refine wpAnyH_take (i := 9) (oi := { dst := some 43, op := Op.build 30 #[(0, Operand.tmp 42)], type := 30, pos := "l03_entry.go:148", after := #[{ on := 8, ground := Ground.data }], guard := none }) (v := ?_) rfl (by kernel_rfl) (by kernel_rfl) (by kernel_rfl) (fun _ _ _ h => h) (Or.inl ⟨by rfl, ?_⟩) (by assumption) ?_
            rotate_left
            · intro w hSw; (try dsimp only at hSw); go_simp; (try with_reducible rfl)
            (try simp only [Act.put, List.setIfInBounds_toArray, List.set_cons_zero, List.set_cons_succ])
            refine wpAnyH_ready (rs := [10]) (by kernel_rfl) (by simp) ?_
            refine AllReadyH.cons (o := { dst := none, op := Op.store 30 (Operand.tmp 6) (Operand.tmp 43), type := 0, pos := "l03_entry.go:148", after := #[{ on := 9, ground := Ground.data }, { on := 8, ground := Ground.chain }, { on := 0, ground := Ground.phase }, { on := 1, ground := Ground.phase }, { on := 2, ground := Ground.phase }, { on := 3, ground := Ground.phase }, { on := 4, ground := Ground.phase }, { on := 5, ground := Ground.phase }, { on := 6, ground := Ground.phase }, { on := 7, ground := Ground.phase }, { on := 8, ground := Ground.phase }, { on := 9, ground := Ground.phase }], guard := none }) rfl (fun K hK => ?_) (AllReadyH.nil)
            go_simp
            clear hHeld
            refine hK.out _ _ ?_ (fun hHeld => ?_)
            · (try dsimp only)
              first | exact SK.out _ (Below.mono (by assumption) hw1') | exact SK.out _ (hbz1.mono hw1') | exact SK.out _ (hbz2.mono hw1') | exact SK.out _ (hbz12.mono hw1') | exact SK.out _ (hbz21.mono hw1') | exact SK.out _ (below_three' hb8 hw1' _ _ _)
            clear hK K
            (try simp only [Act.put, List.setIfInBounds_toArray, List.set_cons_zero, List.set_cons_succ])
            refine wpAnyH_done (by kernel_rfl) ?_ _
            clear hHeld
            obtain ⟨⟨q0, q1, q2⟩, _⟩ := (((U8.out.set0 (.slice po d.length pc)).set1 (.slice qo T.length qc)).set2 (.int .i64 0)).cells
            clear k0 k1 k2 f0 f1 f2
            go_wp2_with fail
            refine bodyPost_ret (v := .agg #[.slice po d.length pc, .slice qo T.length qc, .int .i64 0]) (by simp [results, Tryz.results57, go_sem, q0, q1, q2]) rfl ?_
            rw [HOut.out]
            exact fin_out B3.out hb8 hw1 E1.out E2.out _ _ _
        · go_simp
          clear hHeld
          refine hK.out _ _ ?_ (fun hHeld => ?_)
          · (try dsimp only)
            first | exact SK.out _ (Below.mono (by assumption) hw1') | exact SK.out _ (hbz1.mono hw1') | exact SK.out _ (hbz2.mono hw1') | exact SK.out _ (hbz12.mono hw1') | exact SK.out _ (hbz21.mono hw1') | exact SK.out _ (below_three' hb8 hw1' _ _ _)
          clear hK K
          (try simp only [Act.put, List.setIfInBounds_toArray, List.set_cons_zero, List.set_cons_succ])
          refine wpAnyH_ready (rs := [2]) (by kernel_rfl) (by simp) ?_
          refine AllReadyH.cons (o := { dst := some 36, op := Op.buildSlice 36 0 #[], type := 36, pos := "l03_entry.go:148", after := #[], guard := none }) rfl (fun K hK => ?_) (AllReadyH.nil)
          go_simp
          clear hHeld
          refine hK.out _ _ ?_ (fun hHeld => ?_)
          · (try dsimp only)
            first | exact SK.out _ (Below.mono (by assumption) hw1') | exact SK.out _ (hbz1.mono hw1') | exact SK.out _ (hbz2.mono hw1') | exact SK.out _ (hbz12.mono hw1') | exact SK.out _ (hbz21.mono hw1') | exact SK.out _ (below_three' hb8 hw1' _ _ _)
          clear hK K
          (try simp only [Act.put, List.setIfInBounds_toArray, List.set_cons_zero, List.set_cons_succ])
          refine wpAnyH_ready (rs := [4]) (by kernel_rfl) (by simp) ?_
          refine AllReadyH.cons (o := { dst := some 38, op := Op.call { callee := Callee.builtin Builtin.append, args := #[Operand.tmp 36, Operand.tmp 37], argTypes := #[36, 36] }, type := 36, pos := "l03_entry.go:148", after := #[{ on := 2, ground := Ground.data }, { on := 3, ground := Ground.data }], guard := none }) rfl (fun K hK => ?_) (AllReadyH.nil)
          refine step_strs w3.heap.size rfl _ _ rfl (.slice (some ⟨w3.heap.size + 1, 0, none⟩) 0 0) [] rfl OZ21.out lo L lc _ rfl rfl HVc.out hlc hlenL hs21 hbz21 ?_
          intro v4 w4 hown4 hbel4 hgr4
          obtain ⟨xo, xc, rfl⟩ := own_slice hown4
          simp only [List.nil_append] at hown4 ⊢
          have SV := strs_grown HX21.out hgr4 (Nat.ne_of_lt (Nat.lt_succ_self _))
          clear hHeld
          refine hK.out _ _ ?_ (fun hHeld => ?_)
          · (try dsimp only)
            first | exact SK.out _ (Below.mono (by assumption) hw1') | exact SK.out _ (hbz1.mono hw1') | exact SK.out _ (hbz2.mono hw1') | exact SK.out _ (hbz12.mono hw1') | exact SK.out _ (hbz21.mono hw1') | exact SK.out _ (below_three' hb8 hw1' _ _ _)
          clear hK K
          (try simp only [Act.put, List.setIfInBounds_toArray, List.set_cons_zero, List.set_cons_succ])
          refine wpAnyH_ready (rs := [7]) (by kernel_rfl) (by simp) ?_
          refine AllReadyH.cons (o := { dst := some 41, op := Op.call { callee := Callee.builtin Builtin.append, args := #[Operand.tmp 38, Operand.tmp 40], argTypes := #[36, 36] }, type := 36, pos := "l03_entry.go:148", after := #[{ on := 4, ground := Ground.data }, { on := 6, ground := Ground.data }, { on := 4, ground := Ground.chain }], guard := none }) rfl (fun K hK => ?_) (AllReadyH.nil)
          refine step_strs w3.heap.size rfl _ _ rfl (.slice xo L.length xc) L rfl hown4 (some ⟨w3.heap.size, 0, none⟩) [val] 1 _ rfl rfl SV (fun e => by cases e) hlen1 hbel4.size hbel4 ?_
          intro v7 w7 hown7 hbel7 hgr7
          obtain ⟨yo, yc, rfl⟩ := own_slice hown7
          have ST7 := Lib.hid (own_strs hown7)
          clear hown7
          rw [HLs]
          clear hHeld
          refine hK.out _ _ ?_ (fun hHeld => ?_)
          · (try dsimp only)
            first | exact SK.out _ (Below.mono (by assumption) hw1') | exact SK.out _ (hbz1.mono hw1') | exact SK.out _ (hbz2.mono hw1') | exact SK.out _ (hbz12.mono hw1') | exact SK.out _ (hbz21.mono hw1') | exact SK.out _ (below_three' hb8 hw1' _ _ _)
          clear hK K
          (try simp only [Act.put, List.setIfInBounds_toArray, List.set_cons_zero, List.set_cons_succ])
          refine wpAnyH_ready (rs := [8]) (by kernel_rfl) (by simp) ?_
          refine AllReadyH.cons (o := { dst := some 42, op := Op.call { callee := Callee.value (Operand.func 101), args := #[Operand.tmp 34, Operand.tmp 35, Operand.tmp 41], argTypes := #[26, 9, 36] }, type := 26, pos := "l03_entry.go:148", after := #[{ on := 0, ground := Ground.data }, { on := 1, ground := Ground.data }, { on := 7, ground := Ground.data }, { on := 7, ground := Ground.chain }], guard := none }) rfl (fun K hK => ?_) (AllReadyH.nil)
          go_simp
          refine (HSet.out w7 yo yc hbel7 ST7.out).mono ?_
          rintro e w8 ⟨⟨po, pc, qo, qc, rfl, e1, e2⟩, hb8⟩
          have E1 := Lib.hid e1; have E2 := Lib.hid e2; clear e1 e2
          have U8 := Lib.hid (U3.out.below hb8)
          obtain ⟨⟨k0, k1, k2⟩, f0, f1, f2⟩ := U8.out.cells
          clear hHeld
          refine hK.out _ _ ?_ (fun hHeld => ?_)
          · (try dsimp only)
            first | exact SK.out _ (Below.mono (by assumption) hw1') | exact SK.out _ (hbz1.mono hw1') | exact SK.out _ (hbz2.mono hw1') | exact SK.out _ (hbz12.mono hw1') | exact SK.out _ (hbz21.mono hw1') | exact SK.out _ (below_three' hb8 hw1' _ _ _)
          clear hK K
          (try simp only [Act.put, List.setIfInBounds_toArray, List.set_cons_zero, List.set_cons_succ])
          refine wpAnyH_take (i := 9) (oi := { dst := some 43, op := Op.build 30 #[(0, Operand.tmp 42)], type := 30, pos := "l03_entry.go:148", after := #[{ on := 8, ground := Ground.data }], guard := none }) (v := ?_) rfl (by kernel_rfl) (by kernel_rfl) (by kernel_rfl) (fun _ _ _ h => h) (Or.inl ⟨by rfl, ?_⟩) (by assumption) ?_
          rotate_left
          · intro w hSw; (try dsimp only at hSw); go_simp; (try with_reducible rfl)
          (try simp only [Act.put, List.setIfInBounds_toArray, List.set_cons_zero, List.set_cons_succ])
          refine wpAnyH_ready (rs := [10]) (by kernel_rfl) (by simp) ?_
          refine AllReadyH.cons (o := { dst := none, op := Op.store 30 (Operand.tmp 6) (Operand.tmp 43), type := 0, pos := "l03_entry.go:148", after := #[{ on := 9, ground := Ground.data }, { on := 8, ground := Ground.chain }, { on := 0, ground := Ground.phase }, { on := 1, ground := Ground.phase }, { on := 2, ground := Ground.phase }, { on := 3, ground := Ground.phase }, { on := 4, ground := Ground.phase }, { on := 5, ground := Ground.phase }, { on := 6, ground := Ground.phase }, { on := 7, ground := Ground.phase }, { on := 8, ground := Ground.phase }, { on := 9, ground := Ground.phase }], guard := none }) rfl (fun K hK => ?_) (AllReadyH.nil)
          go_simp
          clear hHeld
          refine hK.out _ _ ?_ (fun hHeld => ?_)
          · (try dsimp only)
            first | exact SK.out _ (Below.mono (by assumption) hw1') | exact SK.out _ (hbz1.mono hw1') | exact SK.out _ (hbz2.mono hw1') | exact SK.out _ (hbz12.mono hw1') | exact SK.out _ (hbz21.mono hw1') | exact SK.out _ (below_three' hb8 hw1' _ _ _)
          clear hK K
          (try simp only [Act.put, List.setIfInBounds_toArray, List.set_cons_zero, List.set_cons_succ])
          refine wpAnyH_done (by kernel_rfl) ?_ _
          clear hHeld
          obtain ⟨⟨q0, q1, q2⟩, _⟩ := (((U8.out.set0 (.slice po d.length pc)).set1 (.slice qo T.length qc)).set2 (.int .i64 0)).cells
          clear k0 k1 k2 f0 f1 f2
          go_wp2_with fail
          refine bodyPost_ret (v := .agg #[.slice po d.length pc, .slice qo T.length qc, .int .i64 0]) (by simp [results, Tryz.results57, go_sem, q0, q1, q2]) rfl ?_
          rw [HOut.out]
          exact fin_out B3.out hb8 hw1 E1.out E2.out _ _ _
end Go.Proofs.YtjajpdghamecoaaGreat
/- ValueAdd: what the specification's text returns. -/
namespace Go.Proofs.YtjajpdghamecoaaGreat
open Go.RowKit
attribute [local go_sem ↓] Go.wp_at_zero Go.wp_at_succ

theorem addR_code {d : RdnL} {l : List AttrV} {nm val : ByteArray} {c : Int} (h : vcode (rightB d l) nm val = c) (hc : c ≠ 0) : addR d l nm val = (c, [], []) := by
  unfold addR; rw [h, if_pos hc]
theorem vcode_one {r : Bool} {nm val : ByteArray} (h1 : ¬ 8000 < nm.size) (h2 : ¬ 8000 < val.size) (h : (r && nmL nm && valB val) = false) : vcode r nm val = 1 := by rw [vcode_small h1 h2, h]; rfl
theorem vcode_ok {r : Bool} {nm val : ByteArray} (h1 : ¬ 8000 < nm.size) (h2 : ¬ 8000 < val.size) (h : (r && nmL nm && valB val) = true) : vcode r nm val = 0 := by rw [vcode_small h1 h2, h]; rfl
set_option maxRecDepth 100000 in
set_option maxHeartbeats 1000000 in
theorem SpecValueAdd_any (ao bo : Option Addr) (d : RdnL) (l : List AttrV) (ca cb : Nat) (nm val : ByteArray) (w : World) (hd : DnAt w ao d) (hl : AttrsAt w bo l) (hfd : Fits d) (hfl : FitsA l) (hn : nm.size ≤ maxLen) (hv : val.size ≤ maxLen) :
    Calls Tryz.prog 14 #[.agg #[.slice ao d.length ca, .slice bo l.length cb], .string nm, .string val] w (SpecOut w (addR d l nm val)) := by
  have HD := Lib.hid hd; have HL := Lib.hid hl; have FD := Lib.hid hfd; have FL := Lib.hid hfl; have Hn := Lib.hid hn; have Hv := Lib.hid hv; clear hd hl hfd hfl
  go_enter Tryz.func14, Tryz.ntmps14
  go_wp2_with fail
  refine calls_any' (fun W => Below w.heap.size w W ∧ Two W w.heap.size 26 (.slice ao d.length ca) (.slice bo l.length cb) ∧ Three W (w.heap.size + 1) 30 (.slice none 0 0) (.slice none 0 0) (.int .i64 0)) ⟨more (more (Below.refl _ _) _) _, (twoNew w 26 _ _).alloc _, threeNext w _ 30 _ _ _⟩ ?_
  rintro W ⟨hbW, t0, t1⟩
  refine (l03Long_any nm val W hn hv).mono ?_
  rintro e w1 ⟨rfl, rfl⟩
  have B1 := Lib.hid hbW; have T1 := Lib.hid t0; have U1 := Lib.hid t1
  clear hbW t0 t1
  by_cases hbig : 8000 < nm.size ∨ 8000 < val.size
  · have hq : (decide (8000 < nm.size) || decide (8000 < val.size)) = true := by simpa using hbig
    rw [hq]
    have HO := Lib.hid (addR_code (d := d) (l := l) (vcode_big (r := rightB d l) hbig) (by decide))
    clear hbig hq
    go_wp2_with fail
    refine (l03Ill_any 2 W).mono ?_
    rintro e w4 ⟨rfl, hb4⟩
    have U4 := Lib.hid (U1.out.below hb4); have B4 := Lib.hid (B1.out.trans (hb4.mono B1.out.size))
    clear hb4
    obtain ⟨⟨k0, k1, k2⟩, f0, f1, f2⟩ := U4.out.cells
    obtain ⟨⟨q0, q1, q2⟩, _⟩ := (((U4.out.set0 (.slice none 0 0)).set1 (.slice none 0 0)).set2 (.int .i64 2)).cells
    unfold failV
    go_wp2_with fail
    refine bodyPost_ret (v := failV 2) (by simp [results, Tryz.results14, go_sem, q0, q1, q2, failV]) rfl ?_
    rw [HO.out]
    exact specOut_fail (below_three B4.out _ _ _)
  · have hn8 : ¬ 8000 < nm.size := fun h => hbig (.inl h)
    have hv8 : ¬ 8000 < val.size := fun h => hbig (.inr h)
    have hq : (decide (8000 < nm.size) || decide (8000 < val.size)) = false := by simp; omega
    rw [hq]
    have HOb : Hid ((rightB d l && nmL nm && valB val) = false → addR d l nm val = (1, [], [])) := Lib.hid (fun h => addR_code (vcode_one hn8 hv8 h) (by decide))
    have HOk : Hid ((rightB d l && nmL nm && valB val) = true → vcode (rightB d l) nm val = 0) := Lib.hid (fun h => vcode_ok hn8 hv8 h)
    clear hbig hq
    obtain ⟨⟨p0, p1⟩, _⟩ := T1.out.cells
    go_wp2_with fail
    clear p0 p1
    refine (SpecEntryRight_any ao bo d l ca cb W (HD.out.below B1.out) (HL.out.below B1.out) FD.out FL.out).mono ?_
    rintro e w2 ⟨rfl, hb2⟩
    have B2 := Lib.hid (B1.out.trans (hb2.mono B1.out.size)); have T2 := Lib.hid (T1.out.below hb2); have U2 := Lib.hid (U1.out.below hb2)
    clear hb2 B1 T1 U1
    have HIll : Hid (∀ w3, Below w.heap.size w w3 → Three w3 (w.heap.size + 1) 30 (.slice none 0 0) (.slice none 0 0) (.int .i64 0) → Calls Tryz.prog 54 #[.int .i64 1] w3 fun e w4 => e = .returned (failV 1) ∧ Below w.heap.size w w4 ∧ Three w4 (w.heap.size + 1) 30 (.slice none 0 0) (.slice none 0 0) (.int .i64 0)) :=
      Lib.hid (fun w3 h1 h2 => (l03Ill_any 1 w3).mono fun e w4 ⟨a, b⟩ => ⟨a, h1.trans (b.mono h1.size), h2.below b⟩)
    cases hr : rightB d l
    · have HO := Lib.hid (HOb.out (by rw [hr]; rfl))
      clear HOb HOk
      go_wp2_with fail
      refine (HIll.out w2 B2.out U2.out).mono ?_
      rintro e w4 ⟨rfl, b4, u4⟩
      have U4 := Lib.hid u4; have B4 := Lib.hid b4
      clear b4 u4
      obtain ⟨⟨k0, k1, k2⟩, f0, f1, f2⟩ := U4.out.cells
      obtain ⟨⟨q0, q1, q2⟩, _⟩ := (((U4.out.set0 (.slice none 0 0)).set1 (.slice none 0 0)).set2 (.int .i64 1)).cells
      unfold failV
      go_wp2_with fail
      refine bodyPost_ret (v := failV 1) (by simp [results, Tryz.results14, go_sem, q0, q1, q2, failV]) rfl ?_
      rw [HO.out]
      exact specOut_fail (below_three B4.out _ _ _)
    · go_wp2_with fail
      refine (SpecNameRight_any nm w2 Hn.out).mono ?_
      rintro e w3 ⟨rfl, rfl⟩
      cases hm : nmL nm
      · have HO := Lib.hid (HOb.out (by rw [hr, hm]; rfl))
        clear HOb HOk
        go_wp2_with fail
        refine (HIll.out w2 B2.out U2.out).mono ?_
        rintro e w4 ⟨rfl, b4, u4⟩
        have U4 := Lib.hid u4; have B4 := Lib.hid b4
        clear b4 u4
        obtain ⟨⟨k0, k1, k2⟩, f0, f1, f2⟩ := U4.out.cells
        obtain ⟨⟨q0, q1, q2⟩, _⟩ := (((U4.out.set0 (.slice none 0 0)).set1 (.slice none 0 0)).set2 (.int .i64 1)).cells
        unfold failV
        go_wp2_with fail
        refine bodyPost_ret (v := failV 1) (by simp [results, Tryz.results14, go_sem, q0, q1, q2, failV]) rfl ?_
        rw [HO.out]
        exact specOut_fail (below_three B4.out _ _ _)
      · go_wp2_with fail
        refine (l02Value_any val w2 Hv.out).mono ?_
        rintro e w3 ⟨rfl, hb3⟩
        have B3 := Lib.hid (B2.out.trans (hb3.mono B2.out.size)); have T3 := Lib.hid (T2.out.below hb3); have U3 := Lib.hid (U2.out.below hb3)
        clear hb3 B2 T2 U2
        cases hp : valB val
        · have HO := Lib.hid (HOb.out (by rw [hr, hm, hp]; rfl))
          clear HOb HOk
          go_wp2_with fail
          refine (HIll.out w3 B3.out U3.out).mono ?_
          rintro e w4 ⟨rfl, b4, u4⟩
          have U4 := Lib.hid u4; have B4 := Lib.hid b4
          clear b4 u4
          obtain ⟨⟨k0, k1, k2⟩, f0, f1, f2⟩ := U4.out.cells
          obtain ⟨⟨q0, q1, q2⟩, _⟩ := (((U4.out.set0 (.slice none 0 0)).set1 (.slice none 0 0)).set2 (.int .i64 1)).cells
          unfold failV
          go_wp2_with fail
          refine bodyPost_ret (v := failV 1) (by simp [results, Tryz.results14, go_sem, q0, q1, q2, failV]) rfl ?_
          rw [HO.out]
          exact specOut_fail (below_three B4.out _ _ _)
        · have HC := Lib.hid (HOk.out (by rw [hr, hm, hp]; rfl))
          clear HOb HOk HIll
          obtain ⟨⟨p0, p1⟩, _⟩ := T3.out.cells
          have HAdd := Lib.hid (l03Add_any ao bo d l ca cb nm val w3 (HD.out.below B3.out) (HL.out.below B3.out) FD.out FL.out (by omega) (by omega) HC.out)
          generalize hre : addR d l nm val = r at *
          have HRe := Lib.hid hre; clear hre
          obtain ⟨c, D, T⟩ := r
          have hw1 : w.heap.size + 1 < w3.heap.size := U3.out.lt
          go_wp2_with fail
          refine HAdd.out.mono ?_
          rintro e w4 ⟨⟨vo, vc, uo, uc, rfl, x4, y4⟩, hb4⟩
          dsimp only at x4 y4 ⊢
          have U4 := Lib.hid (U3.out.below hb4); have B4 := Lib.hid (B3.out.trans (hb4.mono B3.out.size)); have X4 := Lib.hid x4; have Y4 := Lib.hid y4
          clear hb4 x4 y4 p0 p1
          obtain ⟨⟨k0, k1, k2⟩, f0, f1, f2⟩ := U4.out.cells
          obtain ⟨⟨q0, q1, q2⟩, _⟩ := (((U4.out.set0 (.slice vo D.length vc)).set1 (.slice uo T.length uc)).set2 (.int .i64 c)).cells
          go_wp2_with fail
          refine bodyPost_ret (v := .agg #[.slice vo D.length vc, .slice uo T.length uc, .int .i64 c]) (by simp [results, Tryz.results14, go_sem, q0, q1, q2]) rfl ?_
          exact ⟨⟨vo, vc, uo, uc, rfl, own_mono (own_cellOut (own_cellOut (own_cellOut X4.out hw1) hw1) hw1) B3.out.size, (((Y4.out.cellOut hw1).cellOut hw1).cellOut hw1).mono B3.out.size⟩, below_three B4.out _ _ _⟩
end Go.Proofs.YtjajpdghamecoaaGreat
/- The draws of names: one pair. -/
namespace Go.Proofs.YtjajpdghamecoaaGreat
open Go.RowKit

/-- some pair of short strings -/
def SomeRdn (e : Ending) : Prop := ∃ A V : ByteArray, e = .returned (.agg #[.string A, .string V]) ∧ A.size ≤ 41 ∧ V.size ≤ 41
theorem calls_any {P : Program} {f : Nat} {args : Array Value} {w : World} {Q : Ending → World → Prop} (R : World → Prop) (h : R w) (k : ∀ W, R W → Calls P f args W Q) : Calls P f args w Q := k w h
/-- a pair lies in block R -/
def PairAt (w : World) (R : Nat) (A V : ByteArray) : Prop := w.heap[R]? = some (.cells #[.string A, .string V] 97)
theorem PairAt.cells {w : World} {R : Nat} {A V : ByteArray} (h : PairAt w R A V) : (w.cell? ⟨R, 0, none⟩ = some (.string A) ∧ w.cell? ⟨R, 1, none⟩ = some (.string V)) ∧ (w.frozen? ⟨R, 0, none⟩ = false ∧ w.frozen? ⟨R, 1, none⟩ = false) := by
  refine ⟨⟨?_, ?_⟩, ⟨?_, ?_⟩⟩
  all_goals first | (unfold World.cell?; rw [h]; rfl) | (unfold World.frozen?; rw [h]; rfl)
theorem PairAt.lt {w : World} {R : Nat} {A V : ByteArray} (h : PairAt w R A V) : R < w.heap.size := (Array.getElem?_eq_some_iff.1 h).1
theorem PairAt.on {q : Nat} {w w' : World} {R : Nat} {A V : ByteArray} (h : PairAt w R A V) (hs : Still q w w') (hR : R ≠ q) : PairAt w' R A V := (hs.2.block R h.lt (fun e => hR (Option.some.inj e))).trans h
theorem PairAt.set {w : World} {R : Nat} {A V : ByteArray} (h : PairAt w R A V) (A' V' : ByteArray) : PairAt ((w.setCell ⟨R, 0, none⟩ (.string A')).setCell ⟨R, 1, none⟩ (.string V')) R A' V' := by
  unfold PairAt; rw [heap_setS _ (heap_setS _ h)]; rfl
theorem Still.set {q : Nat} {w wr : World} (h : Still q w wr) (hq : q < w.heap.size) {R j : Nat} (hR : w.heap.size ≤ R) (v : Value) : Still q w (wr.setCell ⟨R, j, none⟩ v) :=
  h.later (g := some R) (grown_setS wr R j v) hq (fun k e => by have := Option.some.inj e; omega)

theorem look_y1 (W : World) (o x y : Obj) : (((W.alloc o).alloc x).alloc y).heap[W.heap.size]? = some o := look_old _ y _ o (look_z2 W o x)
theorem look_y2 (W : World) (o x y : Obj) : (((W.alloc x).alloc o).alloc y).heap[W.heap.size + 1]? = some o := look_old _ y _ o (look_z3 W o x)
theorem look_y3 (W : World) (o x y : Obj) : (((W.alloc x).alloc y).alloc o).heap[W.heap.size + 1 + 1]? = some o := look_new _ o _ (by rw [size_up, size_up])

/-- a row of n short texts -/
def Texts (C : Array Value) (n : Nat) : Prop := ∃ l : List ByteArray, C = (l.map Value.string).toArray ∧ l.length = n ∧ ∀ t ∈ l, t.size ≤ 41
theorem pick_gen (q b n : Nat) (C : Array Value) (T : TypeId) (fr : Nat × Nat) (w0 W : World) (hs : Still q w0 W) (hb : b ≠ q) (hh : W.heap[b]? = some (.cells C T fr)) (hC : Texts C n) (hn : 1 < n) (hn2 : n ≤ 100) :
    Calls Tryz.prog 44 #[.pointer (some ⟨q, 0, none⟩), .slice (some ⟨b, 0, none⟩) n n] W fun e w' => TextTo 41 e ∧ Still q w0 w' ∧ Still q W w' := by
  obtain ⟨l, h1, h2, h3⟩ := hC
  exact (pick_both q b n l C T fr w0 W hs hb hh h1 h2 hn hn2).mono fun e w' ⟨⟨t, ht, he⟩, h⟩ => ⟨⟨t, he, h3 t ht⟩, h⟩

set_option maxRecDepth 100000 in
set_option maxHeartbeats 30000000 in
theorem drawRdn_any (q : Nat) (w : World) (hg : Good w q) :
    Calls Tryz.prog 124 #[.pointer (some ⟨q, 0, none⟩)] w fun e w' => SomeRdn e ∧ Still q w w' := by
  have hq := hg.lt
  have HQ := Lib.hid hq
  have HS := Lib.hid (Still.refl hg); clear hg
  go_enter Tryz.func124, Tryz.ntmps124
  go_wp2_with fail
  refine (pick_both q _ 3 [⟨#[99, 110]⟩, ⟨#[111, 117]⟩, ⟨#[100, 99]⟩] _ 9 (0, 0) w _ ((HS.out.alloc hq _ _).alloc hq _ _) (by omega) (look_z3 w _ _) rfl rfl (by decide) (by decide)).mono ?_
  rintro e w1 ⟨⟨A, hA, rfl⟩, hs1, hk1⟩
  have HS1 := Lib.hid hs1
  have HP1 : Hid (PairAt w1 w.heap.size ⟨#[]⟩ ⟨#[]⟩) := Lib.hid (PairAt.on (look_z2 w _ _) hk1 (by omega))
  have hA' : A.size ≤ 41 := by
    clear hs1 hk1
    simp at hA
    rcases hA with rfl | rfl | rfl <;> decide
  clear hs1 hk1 hA
  go_wp2_with fail
  refine (pick_both q _ 9 [⟨#[97, 110, 110]⟩, ⟨#[65, 110, 110]⟩, ⟨#[98, 111, 98, 32, 32, 98]⟩, ⟨#[120]⟩, ⟨#[97, 44, 98]⟩, ⟨#[35, 49]⟩, ⟨#[32, 121, 32]⟩, ⟨#[61]⟩, ⟨#[92]⟩] _ 9 (0, 0) w _ (HS1.out.alloc hq _ _) (by have := HS1.out.1.lt; omega) (look_z1 w1 _) rfl rfl (by decide) (by decide)).mono ?_
  rintro e w2 ⟨⟨V, hV, rfl⟩, hs2, hk2⟩
  have HS2 := Lib.hid hs2
  have HP2 : Hid (PairAt w2 w.heap.size ⟨#[]⟩ ⟨#[]⟩) := Lib.hid (PairAt.on (look_old _ _ _ _ HP1.out) hk2 (by omega))
  have hV' : V.size ≤ 41 := by
    clear hs2 hk2
    simp at hV
    rcases hV with rfl | rfl | rfl | rfl | rfl | rfl | rfl | rfl | rfl <;> decide
  clear hs2 hk2 hV HP1 HS1
  go_wp2_with fail
  refine calls_any (fun W => Still q w W ∧ PairAt W w.heap.size ⟨#[]⟩ ⟨#[]⟩ ∧ PairAt W w2.heap.size A V) ⟨HS2.out.alloc hq _ _, look_old _ _ _ _ HP2.out, look_z1 w2 _⟩ ?_
  have hR : w.heap.size < w2.heap.size := HP2.out.lt
  generalize w2.heap.size = R at *
  clear HP2 HS2
  rintro W ⟨hsW, hpW, hrW⟩
  have HSW := Lib.hid hsW; have HPW := Lib.hid hpW; have HRW := Lib.hid hrW; clear hsW hpW hrW
  refine (one_any q 30 W HSW.out.1 (by decide) (by decide)).mono ?_
  rintro e w3 ⟨⟨b, rfl⟩, hs3⟩
  have HS3 := Lib.hid (HSW.out.trans hs3)
  have HP3 := Lib.hid (HPW.out.on hs3 (by omega))
  have HR3 := Lib.hid (HRW.out.on hs3 (by omega))
  clear hs3 HSW HPW HRW
  cases b
  · obtain ⟨⟨c0, c1⟩, ⟨f0, f1⟩⟩ := HR3.out.cells
    obtain ⟨⟨d0, d1⟩, ⟨g0, g1⟩⟩ := HP3.out.cells
    go_wp2
    refine bodyPost_ret (v := .agg #[.string A, .string V]) (by simp [results, Tryz.results124, go_sem, d0, d1]) rfl ⟨⟨A, V, rfl, hA', hV'⟩, ?_⟩
    exact (HS3.out.set hq (Nat.le_refl _) _).set hq (Nat.le_refl _) _
  · have hq3 : q < w3.heap.size := HS3.out.1.lt
    have HQ3 := Lib.hid hq3
    have HS4 := Lib.hid (Still.refl HS3.out.1)
    obtain ⟨Z, hZ, hZs⟩ : ∃ Z : ByteArray, Z = ⟨(List.replicate 41 (0 : UInt8)).toArray⟩ ∧ Z.size = 41 := ⟨_, rfl, rfl⟩
    have hmk : ∀ W : World, (Instr.makeSlice 22 (.int .i64 41) (.int .i64 41)).run Tryz.prog W = .ok (.slice (some ⟨W.heap.size, 0, none⟩) 41 41) (W.alloc (.cells (madeCells #[.int .u8 0] 41) 5)) := fun W => zero_make 41 (by decide) W
    have hcv := zero_conv 41
    have hcd := zero_conv_d 41
    have hco := zero_conv_o 41
    have hcod := zero_conv_od 41
    have hcv2 := zero_conv 41 (w3.alloc (.cells #[.string ⟨#[99, 110]⟩, .string ⟨#[65]⟩, .string ⟨#[]⟩] 9))
    have hcd2 := zero_conv_d 41 (w3.alloc (.cells #[.string ⟨#[99, 110]⟩, .string ⟨#[65]⟩, .string ⟨#[]⟩] 9))
    rw [size_up] at hcv2 hcd2
    have hne1 : w3.heap.size ≠ q := by omega
    have hne2 : w3.heap.size + 1 ≠ q := by omega
    have hne3 : w.heap.size ≠ q := by omega
    have hne4 : R ≠ q := by omega
    have ZN := fun (g : Nat) (W W' : World) => zero_next (q := q) (g := g) (n := 41) (W := W) (W' := W')
    rw [← hZ] at hcv2 hcd2
    simp only [← hZ] at hcv hcd hco hcod ZN
    clear hZ
    have HL3 : Hid (Texts #[.string ⟨#[99, 110]⟩, .string ⟨#[65]⟩, .string ⟨#[]⟩] 3) := Lib.hid ⟨[⟨#[99, 110]⟩, ⟨#[65]⟩, ⟨#[]⟩], rfl, rfl, by intro t ht; simp at ht; rcases ht with rfl | rfl | rfl <;> decide⟩
    have HL4 : Hid (Texts #[.string ⟨#[]⟩, .string ⟨#[32]⟩, .string ⟨#[10]⟩, .string Z] 4) := Lib.hid ⟨[⟨#[]⟩, ⟨#[32]⟩, ⟨#[10]⟩, Z], rfl, rfl, by intro t ht; simp at ht; rcases ht with rfl | rfl | rfl | rfl <;> first | decide | omega⟩
    clear hZs
    go_wp2_with fail
    go_region_with (first
      | (go_at_call 44; refine (pick_gen q _ _ ?_ ?_ ?_ w3 _ ?_ ?_ ?_ ?_ (by decide) (by decide)).mono ?_; rotate_left 5; (focus (first | exact look_z1 w3 _ | exact look_z2 w3 _ _ | exact look_z3 w3 _ _ | exact look_y1 w3 _ _ _ | exact look_y2 w3 _ _ _ | exact look_y3 w3 _ _ _ | exact look_z1 w4 _ | exact look_z3 w4 _ _ | (refine (HK4.out.2.block _ ?_ ?_).trans ?_; rotate_left 2; (focus (first | exact look_z1 w3 _ | exact look_z2 w3 _ _ | exact look_z3 w3 _ _ | exact look_y1 w3 _ _ _ | exact look_y2 w3 _ _ _ | exact look_y3 w3 _ _ _)); (focus (simp; done)); (focus (intro e; have := Option.some.inj e; omega))))); (focus (first | exact HL3.out | exact HL4.out)); rotate_left 1; (focus (repeat (first | exact HS4.out | refine Still.alloc ?_ HQ3.out _ _ | refine Still.drew ?_))); (focus (first | omega | (have := HS4.out.1.lt; omega) | (have := HS4.out.1.lt; simp; omega))); rintro e w4 ⟨⟨t, rfl, ht⟩, hs4, hk4⟩; have HS4 := Lib.hid hs4; have HK4 := Lib.hid hk4; obtain ⟨⟨c0, c1⟩, ⟨f0, f1⟩⟩ := (HR3.out.on hs4 hne4).cells; obtain ⟨⟨d0, d1⟩, ⟨g0, g1⟩⟩ := (HP3.out.on hs4 hne3).cells; have hz4 := ZN w3.heap.size _ _ hk4 hne1; have hz5 := ZN (w3.heap.size + 1) _ _ hk4 hne2; (try simp only [drew_heap, look_z1, look_z2, look_z3, look_y1, look_y2, look_y3, eq_self, true_implies, forall_const] at hz4); (try simp only [drew_heap, look_z1, look_z2, look_z3, look_y1, look_y2, look_y3, eq_self, true_implies, forall_const] at hz5); clear hs4 hk4)
      | (fail "none"))
    all_goals
      go_wp2
      refine bodyPost_ret (v := .agg #[.string _, .string _]) (by simp [results, Tryz.results124, go_sem, d0, d1]; first | done | exact ⟨rfl, rfl⟩) rfl ⟨⟨_, _, rfl, by assumption, by assumption⟩, ?_⟩
      exact ((((HS3.out.trans HS4.out).set hq (by omega) _).set hq (by omega) _).set hq (Nat.le_refl _) _).set hq (Nat.le_refl _) _
end Go.Proofs.YtjajpdghamecoaaGreat
/- The draws of names: a whole name. -/
namespace Go.Proofs.YtjajpdghamecoaaGreat
open Go.RowKit

section
variable {ops : Array Oper} {rest : List Oper} {o : Oper} {a : Act} {Q : Exit → Act → World → Prop} {w0 wr : World}
/-- one pair more behind a row of pairs that the call owns, beside a source -/
theorem append_pair (q : Nat) (hgd : o.guard = none) (s x : Operand)
    (ho : o.op = .call { callee := .builtin .append, args := #[s, x], argTypes := #[23, 23] }) (v : Value) (pre : RdnL) (hs : a.eval s = v) (hown : wr.ownsRow w0.heap.size 97 2 v pre.length (rs pre))
    (r : ByteArray × ByteArray) (hx : a.eval x = .slice (some ⟨wr.heap.size, 0, none⟩) 1 1) (hlen : pre.length ≤ 1000000000) (hq : q < w0.heap.size) (hst : Still q w0 wr)
    (h : ∀ v' w', w'.ownsRow w0.heap.size 97 2 v' (pre ++ [r]).length (rs (pre ++ [r])) → Still q w0 w' → wpList Tryz.prog ops Q rest (a.put o.dst v') w') :
    wpList Tryz.prog ops Q (o :: rest) a (wr.alloc (.cells #[.string r.1, .string r.2] 97)) := by
  obtain ⟨i0, hi, hz0, hz1, hz2⟩ := info_parts Tryz.info97
  have hB := hst.2.size
  refine wpList_append_lies _ hgd s x 23 ho w0.heap.size 97 i0 _ 2 32 Tryz.underlying23 hi hz0 hz1 hz2 rfl (by decide) v pre.length (rs pre) hs (hown.alloc _) ⟨wr.heap.size, 0, none⟩ 1 1 [.string r.1, .string r.2] hx rfl (World.news_of_block (cs := #[.string r.1, .string r.2]) (t := 97) (fr := (0, 0)) (heap_alloc_new wr _)) ?_ (by omega) ?_ ?_ ?_ (wr.heap.size + 1) (by simp) ?_
  · intro u hu; simp at hu; rcases hu with rfl | rfl <;> rfl
  · unfold maxLen; omega
  · omega
  · simp; omega
  · intro g cap w' h1 h2 h3 h4
    refine h _ w' ?_ ((hst.alloc hq _ _).later h2 hq fun k hk => (hown.lt k hk).1)
    rw [rs_snoc]; simpa using h1
end
def rowLen : Value → Nat | .slice _ n _ => n | _ => 0
/-- the pairs are short -/
def Short (d : RdnL) : Prop := ∀ r ∈ d, r.1.size ≤ 41 ∧ r.2.size ≤ 41
theorem Short.snoc {d : RdnL} (h : Short d) {A V : ByteArray} (hA : A.size ≤ 41) (hV : V.size ≤ 41) : Short (d ++ [(A, V)]) := by
  intro r hr
  rcases List.mem_append.1 hr with h' | h'
  · exact h r h'
  · rw [List.mem_singleton.1 h']; exact ⟨hA, hV⟩
/-- some short name in a row of its own -/
def SomeDn (w : World) (e : Ending) (w' : World) : Prop := ∃ (v : Value) (d : RdnL), e = .returned v ∧ d.length ≤ 7 ∧ Short d ∧ w'.ownsRow w.heap.size 97 2 v d.length (rs d)
theorem own_not {w : World} {B e z q n : Nat} {v : Value} {xs : List Value} (h : w.ownsRow B e z v n xs) (hq : q < B) : v.ownBlock = none ∨ v.ownBlock ≠ some q := by
  cases e : v.ownBlock with
  | none => exact .inl rfl
  | some g => exact .inr (fun hh => by have := (h.lt g e).1; have := Option.some.inj hh; omega)

set_option maxRecDepth 100000 in
set_option maxHeartbeats 1000000 in
theorem drawDn_any (q : Nat) (w : World) (hg : Good w q) :
    Calls Tryz.prog 87 #[.pointer (some ⟨q, 0, none⟩)] w fun e w' => SomeDn w e w' ∧ Still q w w' := by
  have hq := hg.lt
  have HS := Lib.hid (Still.refl hg); clear hg
  go_enter Tryz.func87, Tryz.ntmps87
  go_wp2_with fail
  have HSa := Lib.hid (HS.out.alloc hq #[] 97)
  refine (n_any q 4 _ HSa.out.1 (by decide) (by decide)).mono ?_
  rintro e w1 ⟨⟨v, rfl, hv0, hv1⟩, hs1⟩
  have HS1 := Lib.hid (HSa.out.trans hs1)
  have HO1 : Hid (w1.ownsRow w.heap.size 97 2 (.slice (some ⟨w.heap.size, 0, none⟩) 0 0) 0 (rs [])) := Lib.hid ((World.ownsRow_lit w #[] 0 (Nat.le_refl _) (by unfold maxLen; omega) rfl).kept hs1.2 (.inr (fun h => by have : w.heap.size = q := Option.some.inj h; omega)))
  clear hs1 HSa
  obtain ⟨j, rfl⟩ := Int.eq_ofNat_of_zero_le hv0
  go_wp2_with fail
  go_loopw [3, 4] (fun v i wr => ∃ (k : Nat) (d : RdnL), i = .int .i64 k ∧ k + d.length ≤ 3 ∧ Short d ∧ wr.ownsRow w.heap.size 97 2 v d.length (rs d) ∧ Still q w wr) (fun _ i _ => (intOf i).toNat)
  case atStart => exact ⟨j, [], rfl, by simp; omega, (fun r h => by cases h), HO1.out, HS1.out⟩
  case round =>
    obtain ⟨k, d, rfl, hk, hsh, hown, hst⟩ := hrel
    have HSh := Lib.hid hsh; have HO := Lib.hid hown; have HT := Lib.hid hst; clear hsh hown hst
    by_cases h0 : 0 < k
    · have g0 : (0 : Int) < (k : Int) := by omega
      go_wp2_with fail
      refine (drawRdn_any q _ HT.out.1).mono ?_
      rintro e w2 ⟨⟨A, V, rfl, hA, hV⟩, hs2⟩
      have HT2 := Lib.hid (HT.out.trans hs2)
      have HO2 := Lib.hid (HO.out.kept hs2.2 (own_not HO.out hq))
      clear hs2
      go_wp2_with (first | (at_builtin; refine append_pair q rfl _ _ rfl _ d rfl HO2.out (A, V) rfl (by omega) hq HT2.out ?_; intro v' w3 hown' hst') | (fail "none"))
      go_roundw
      case rel => exact ⟨k - 1, d ++ [(A, V)], by go_num, by simp; omega, HSh.out.snoc hA hV, hown', hst'⟩
      case measure => simp [intOf]; omega
    · obtain rfl : k = 0 := by omega
      go_wp2_with fail
      refine (one_any q 30 _ HT.out.1 (by decide) (by decide)).mono ?_
      rintro e w2 ⟨⟨b, rfl⟩, hs2⟩
      have HT2 := Lib.hid (HT.out.trans hs2)
      have HO2 := Lib.hid (HO.out.kept hs2.2 (own_not HO.out hq))
      clear hs2
      cases b
      · go_wp2
        go_ret
        exact ⟨⟨_, d, rfl, by omega, HSh.out, HO2.out⟩, HT2.out⟩
      · go_wp2_with fail
        go_loopw [3] (fun v wr => ∃ d : RdnL, d.length ≤ 7 ∧ Short d ∧ wr.ownsRow w.heap.size 97 2 v d.length (rs d) ∧ Still q w wr) (fun v _ => 7 - rowLen v)
        case atStart => exact ⟨d, by omega, HSh.out, HO2.out, HT2.out⟩
        case round =>
          clear HO HT HSh HO2 HT2
          obtain ⟨d, hd, hsh, hown, hst⟩ := hrel
          obtain ⟨ao, cap, rfl⟩ := own_slice hown
          have HSh := Lib.hid hsh; have HO := Lib.hid hown; have HT := Lib.hid hst; clear hsh hown hst
          go_wp2_with fail
          refine (n_any q 3 _ HT.out.1 (by decide) (by decide)).mono ?_
          rintro e w4 ⟨⟨x, rfl, hx0, hx1⟩, hs4⟩
          have HT2 := Lib.hid (HT.out.trans hs4)
          have HO2 := Lib.hid (HO.out.kept hs4.2 (own_not HO.out hq))
          clear hs4
          have hxw : IntKind.i64.wrap (5 + x) = 5 + x := IntWalk.i64_in _ (by omega)
          by_cases hlt : (d.length : Int) < 5 + x
          · go_wp2_with (first | (at_builtin; refine append_pair q rfl _ _ rfl _ d rfl HO2.out (⟨#[99, 110]⟩, ⟨#[120]⟩) rfl (by omega) hq HT2.out ?_; intro v' w5 hown' hst') | (fail "none"))
            go_roundw
            case rel => exact ⟨d ++ [(⟨#[99, 110]⟩, ⟨#[120]⟩)], by simp; omega, HSh.out.snoc (by decide) (by decide), hown', hst'⟩
            case measure =>
              obtain ⟨ao', cap', rfl⟩ := own_slice hown'
              simp [rowLen]; omega
          · go_wp2
            go_ret
            exact ⟨⟨_, d, rfl, hd, HSh.out, HO2.out⟩, HT2.out⟩
end Go.Proofs.YtjajpdghamecoaaGreat
