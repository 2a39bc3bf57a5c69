/- Merged texts: SpAdd2, ASet. -/
import Derived.Test.YtjajpdghamecoaaGreatM13
import Derived.Test.YtjajpdghamecoaaGreatM12
/- l03Add, ValueAdd: what the specification's text returns. -/
namespace Go.Proofs.YtjajpdghamecoaaGreat
open Go.RowKit
attribute [local go_sem ↓] Go.wp_at_zero Go.wp_at_succ

theorem strs_one (w : World) (s : ByteArray) : StrsAt (w.alloc (.cells #[.string s] 9)) (some ⟨w.heap.size, 0, none⟩) [s] :=
  .inr ⟨w.heap.size, 0, rfl, by simp, fun i hi => by
    simp at hi; subst hi
    rw [cell_of_row _ w.heap.size _ #[.string s] 9 (0, 0) (heap_alloc_new w _)]; rfl⟩
theorem strs_grown {w w' : World} {b off r : Nat} {V : List ByteArray} (h : StrsAt w (some ⟨b, off, none⟩) V) (hg : w.grownBy w' (some r)) (hne : b ≠ r) : StrsAt w' (some ⟨b, off, none⟩) V := by
  rcases h with h | ⟨b', off', e, h2, h3⟩
  · exact .inl h
  · cases e
    exact .inr ⟨b, off, rfl, Nat.lt_of_lt_of_le h2 hg.size, fun i hi => (World.cell?_of_block (w := w) (a := ⟨b, off + i, none⟩) (hg.block b h2 (by intro e; injection e with e; exact hne e))).trans (h3 i hi)⟩
theorem below_three' {w w3 W : World} (h : Below w3.heap.size w3 W) (hw : w.heap.size + 1 ≤ w3.heap.size) (a b c : Value) : Below (w.heap.size + 1) w3 (((W.setCell ⟨w.heap.size + 1, 0, none⟩ a).setCell ⟨w.heap.size + 1, 1, none⟩ b).setCell ⟨w.heap.size + 1, 2, none⟩ c) :=
  (((h.mono hw).setCell (p := ⟨w.heap.size + 1, 0, none⟩) (Nat.le_refl _) _).setCell (p := ⟨w.heap.size + 1, 1, none⟩) (Nat.le_refl _) _).setCell (p := ⟨w.heap.size + 1, 2, none⟩) (Nat.le_refl _) _
theorem fin_out {w w3 w8 : World} {d : RdnL} {T : List AttrV} {po qo : Option Addr} {pc qc : Nat} (h3 : Below w.heap.size w w3) (h8 : Below w3.heap.size w3 w8) (hw : w.heap.size + 1 < w3.heap.size) (h1 : w8.ownsRow w3.heap.size 97 2 (.slice po d.length pc) d.length (rs d)) (h2 : AttrsRow w8 w3.heap.size (.slice qo T.length qc) T) (a b c : Value) :
    SpecOut w (0, d, T) (.returned (.agg #[.slice po d.length pc, .slice qo T.length qc, .int .i64 0])) (((w8.setCell ⟨w.heap.size + 1, 0, none⟩ a).setCell ⟨w.heap.size + 1, 1, none⟩ b).setCell ⟨w.heap.size + 1, 2, none⟩ c) :=
  ⟨⟨po, pc, qo, qc, rfl, own_mono (own_cellOut (own_cellOut (own_cellOut h1 hw) hw) hw) h3.size, (((h2.cellOut hw).cellOut hw).cellOut hw).mono h3.size⟩, h3.trans ((below_three' h8 (Nat.le_of_lt hw) a b c).mono (Nat.le_succ _))⟩
set_option maxRecDepth 100000 in
set_option maxHeartbeats 1000000 in
theorem l03Add_any (ao bo : Option Addr) (d : RdnL) (l : List AttrV) (ca cb : Nat) (nm val : ByteArray) (w : World) (hd : DnAt w ao d) (hl : AttrsAt w bo l) (hfd : Fits d) (hfl : FitsA l) (hn : nm.size ≤ 8000) (hv : val.size ≤ 8000) (hc : vcode (rightB d l) nm val = 0) :
    Calls Tryz.prog 57 #[.agg #[.slice ao d.length ca, .slice bo l.length cb], .string nm, .string val] w (SpecOut w (addR d l nm val)) := by
  obtain ⟨z1, _, _, _, _⟩ := vcode_zero hc
  have h8 := right_eight z1
  have hin := right_inc z1
  have hdp : 0 < d.length := by unfold rightB at z1; simp only [Bool.and_eq_true, decide_eq_true_eq] at z1; exact z1.1.2
  have hac : ao = none → ca = 0 := fun e => by
    subst e
    rcases hd with h | ⟨b, off, e, _⟩
    · rw [h] at hdp; simp at hdp
    · cases e
  have HA : Hid (attrOfL d l nm = valsOf l nm) := Lib.hid (attrOf_yes z1 nm)
  have h4 : (valsOf l nm).length ≤ 4 := by rw [← HA.out]; exact attrOf_four nm
  have HO7 : Hid (0 ≤ findI (likeV val) (valsOf l nm) → addR d l nm val = (7, [], [])) := Lib.hid (fun h => by unfold addR; rw [if_neg (by simpa using hc), if_pos (by rw [HA.out]; exact h)])
  have HO9 : Hid (¬ 0 ≤ findI (likeV val) (valsOf l nm) → ((valsOf l nm).length = 4 ∨ (l.length = 8 ∧ (valsOf l nm).length = 0)) → addR d l nm val = (9, [], [])) := Lib.hid (fun h h' => by
    unfold addR; rw [if_neg (by simpa using hc), if_neg (by rw [HA.out]; exact h), if_pos ?_]
    rw [HA.out]
    rcases h' with h' | h'
    · exact .inl h'
    · right; unfold lackB; rw [HA.out]; simp [h'.1, h'.2])
  have HO0 : Hid (¬ 0 ≤ findI (likeV val) (valsOf l nm) → ¬ ((valsOf l nm).length = 4 ∨ (l.length = 8 ∧ (valsOf l nm).length = 0)) → addR d l nm val = (0, d, setL l nm (sortN (valsOf l nm ++ [val])))) := Lib.hid (fun h h' => by
    unfold addR; rw [if_neg (by simpa using hc), if_neg (by rw [HA.out]; exact h), if_neg ?_, HA.out]
    rw [HA.out]
    rintro (h'' | h'')
    · exact h' (.inl h'')
    · unfold lackB at h''; rw [HA.out] at h''; simp only [Bool.and_eq_true, decide_eq_true_eq] at h''; exact h' (.inr h''))
  have HV1 := Lib.hid (valsOf_fits hfl nm)
  have HD := Lib.hid hd; have HL := Lib.hid hl; have FD := Lib.hid hfd; have FL := Lib.hid hfl; have HI := Lib.hid hin; clear hd hl hfd hfl hc z1 hin HA
  go_enter Tryz.func57, Tryz.ntmps57
  go_wp2_with fail
  refine calls_any' (fun W => Below w.heap.size w W ∧ Two W w.heap.size 26 (.slice ao d.length ca) (.slice bo l.length cb) ∧ Three W (w.heap.size + 1) 30 (.slice none 0 0) (.slice none 0 0) (.int .i64 0)) ⟨more (more (Below.refl _ _) _) _, (twoNew w 26 _ _).alloc _, threeNext w _ 30 _ _ _⟩ ?_
  rintro W ⟨hbW, t0, t1⟩
  refine (l03Of_any ao bo d l ca cb nm W (HL.out.below hbW) FL.out).mono ?_
  rintro e w1 ⟨⟨lo, lc, rfl, hva⟩, hb1⟩
  have B1 := Lib.hid (hbW.trans (hb1.mono hbW.size)); have T1 := Lib.hid (t0.below hb1); have U1 := Lib.hid (t1.below hb1); have VA := Lib.hid hva
  clear hbW t0 t1 hb1 hva
  generalize valsOf l nm = L at *
  go_wp2_with fail
  refine (SpecNorm_any val w1 (by unfold maxLen; omega)).mono ?_
  rintro e w2 ⟨rfl, hb2⟩
  have B2 := Lib.hid (B1.out.trans (hb2.mono B1.out.size)); have T2 := Lib.hid (T1.out.below hb2); have U2 := Lib.hid (U1.out.below hb2); have VA2 := Lib.hid (VA.out.below hb2)
  clear hb2 B1 T1 U1 VA
  go_wp2_with fail
  refine (l03In_any lo L lc val w2 VA2.out.1 HV1.out).mono ?_
  rintro e w3 ⟨rfl, hb3⟩
  have B3 := Lib.hid (B2.out.trans (hb3.mono B2.out.size)); have T3 := Lib.hid (T2.out.below hb3); have U3 := Lib.hid (U2.out.below hb3); have VA3 := Lib.hid (VA2.out.below hb3)
  clear hb3 B2 T2 U2 VA2
  have hw1 : w.heap.size + 1 < w3.heap.size := U3.out.lt
  by_cases hi : 0 ≤ findI (likeV val) L
  · have HO := Lib.hid (HO7.out hi)
    clear HO7 HO9 HO0
    generalize findI (likeV val) L = q at *
    go_wp2_with fail
    refine (l03Ill_any 7 w3).mono ?_
    rintro e w4 ⟨rfl, hb4⟩
    have U4 := Lib.hid (U3.out.below hb4); have B4 := Lib.hid (B3.out.trans (hb4.mono B3.out.size))
    clear hb4
    obtain ⟨⟨k0, k1, k2⟩, f0, f1, f2⟩ := U4.out.cells
    obtain ⟨⟨q0, q1, q2⟩, _⟩ := (((U4.out.set0 (.slice none 0 0)).set1 (.slice none 0 0)).set2 (.int .i64 7)).cells
    unfold failV
    go_wp2_with fail
    refine bodyPost_ret (v := failV 7) (by simp [results, Tryz.results57, go_sem, q0, q1, q2, failV]) rfl ?_
    rw [HO.out]
    exact specOut_fail (below_three B4.out _ _ _)
  · have HO9' := Lib.hid (HO9.out (by omega)); have HO0' := Lib.hid (HO0.out (by omega))
    clear HO7 HO9 HO0
    generalize findI (likeV val) L = q at *
    obtain ⟨⟨p0, p1⟩, _⟩ := T3.out.cells
    by_cases hf : L.length = 4 ∨ (l.length = 8 ∧ L.length = 0)
    · have HO := Lib.hid (HO9'.out hf)
      clear HO9' HO0'
      rcases hf with hf | ⟨hf, hf'⟩
      · have HF := Lib.hid hf
        rw [hf]
        clear hf
        go_wp2_with fail
        refine (l03Ill_any 9 w3).mono ?_
        rintro e w4 ⟨rfl, hb4⟩
        have U4 := Lib.hid (U3.out.below hb4); have B4 := Lib.hid (B3.out.trans (hb4.mono B3.out.size))
        clear hb4
        obtain ⟨⟨k0, k1, k2⟩, f0, f1, f2⟩ := U4.out.cells
        obtain ⟨⟨q0, q1, q2⟩, _⟩ := (((U4.out.set0 (.slice none 0 0)).set1 (.slice none 0 0)).set2 (.int .i64 9)).cells
        unfold failV
        go_wp2_with fail
        refine bodyPost_ret (v := failV 9) (by simp [results, Tryz.results57, go_sem, q0, q1, q2, failV]) rfl ?_
        rw [HO.out]
        exact specOut_fail (below_three B4.out _ _ _)
      · have HF := Lib.hid hf'
        rw [hf'] at *
        rw [hf] at p1 ⊢
        go_wp2_with fail
        refine (l03Ill_any 9 w3).mono ?_
        rintro e w4 ⟨rfl, hb4⟩
        have U4 := Lib.hid (U3.out.below hb4); have B4 := Lib.hid (B3.out.trans (hb4.mono B3.out.size))
        clear hb4
        obtain ⟨⟨k0, k1, k2⟩, f0, f1, f2⟩ := U4.out.cells
        obtain ⟨⟨q0, q1, q2⟩, _⟩ := (((U4.out.set0 (.slice none 0 0)).set1 (.slice none 0 0)).set2 (.int .i64 9)).cells
        unfold failV
        go_wp2_with fail
        refine bodyPost_ret (v := failV 9) (by simp [results, Tryz.results57, go_sem, q0, q1, q2, failV]) rfl ?_
        rw [HO.out]
        exact specOut_fail (below_three B4.out _ _ _)
    · have HOut := Lib.hid (HO0'.out hf)
      clear HO9' HO0'
      have hl4 : ¬ 4 ≤ (L.length : Int) := by omega
      have hl0 : ((L.length : Int) == 0) = decide (L.length = 0) := by rw [Bool.eq_iff_iff]; simp
      have hl8 : L.length = 0 → ¬ 8 ≤ (l.length : Int) := fun h => by have := h8.1; omega
      have hlc := VA3.out.2.2
      have hlenL : ([] : List ByteArray).length + L.length ≤ 1000000000 := by simp; omega
      have hlen1 : L.length + [val].length ≤ 1000000000 := by simp; omega
      have FV' := Lib.hid (fits_snoc HV1.out (by omega) (s := val) (by omega))
      have HLs : (L ++ [val]).length = L.length + 1 := by simp
      have hL5 : (L ++ [val]).length ≤ 400 := by omega
      have HSet0 : Hid (∀ (X : World) (yo : Option Addr) (yc : Nat), Below w3.heap.size w3 X → StrsAt X yo (L ++ [val]) → Calls Tryz.prog 101 #[.agg #[.slice ao d.length ca, .slice bo l.length cb], .string nm, .slice yo (L.length + 1) yc] X fun e w' => (∃ po pc qo qc, e = .returned (.agg #[.slice po d.length pc, .slice qo (setL l nm (sortN (L ++ [val]))).length qc]) ∧ w'.ownsRow w3.heap.size 97 2 (.slice po d.length pc) d.length (rs d) ∧ AttrsRow w' w3.heap.size (.slice qo (setL l nm (sortN (L ++ [val]))).length qc) (setL l nm (sortN (L ++ [val])))) ∧ Below w3.heap.size w3 w') :=
        Lib.hid (fun X yo yc hX hy => by
          have := l03Set_any ao bo yo d l (L ++ [val]) ca cb yc nm X (HD.out.below (B3.out.trans (hX.mono B3.out.size))) (HL.out.below (B3.out.trans (hX.mono B3.out.size))) hy FD.out FL.out FV'.out (by omega) hL5 hac HI.out
          rw [HLs] at this
          exact this.mono fun e w' ⟨⟨po, pc, qo, qc, e1, e2, e3⟩, e4⟩ => ⟨⟨po, pc, qo, qc, e1, own_mono e2 hX.size, e3.mono hX.size⟩, hX.trans (e4.mono hX.size)⟩)
      have HSet := Lib.hid HSet0.out
      clear HSet0 hL5
      generalize setL l nm (sortN (L ++ [val])) = T at *
      have SK : Hid (∀ Z : World, Below (w.heap.size + 1) w3 Z → (Z.cell? ⟨w.heap.size, 0, none⟩ = some (.slice ao d.length ca) ∧ Z.cell? ⟨w.heap.size, 1, none⟩ = some (.slice bo l.length cb))) :=
        Lib.hid (fun Z h => ⟨(h.cell (p := ⟨w.heap.size, 0, none⟩) (Nat.lt_succ_self _)).trans T3.out.cells.1.1, (h.cell (p := ⟨w.heap.size, 1, none⟩) (Nat.lt_succ_self _)).trans T3.out.cells.1.2⟩)
      have hw1' : w.heap.size + 1 ≤ w3.heap.size := Nat.le_of_lt hw1
      have hbd0 : Below w3.heap.size w3 w3.drew := (Below.refl _ _).drew
      have hbz1 : Below w3.heap.size w3 (w3.drew.alloc (.cells #[] 9)) := more hbd0 _
      have hbz2 : Below w3.heap.size w3 (w3.drew.alloc (.cells #[.string val] 9)) := more hbd0 _
      have hbz12 : Below w3.heap.size w3 ((w3.drew.alloc (.cells #[] 9)).alloc (.cells #[.string val] 9)) := more hbz1 _
      have hbz21 : Below w3.heap.size w3 ((w3.drew.alloc (.cells #[.string val] 9)).alloc (.cells #[] 9)) := more hbz2 _
      have OZ1 : Hid ((w3.drew.alloc (.cells #[] 9)).ownsRow w3.heap.size 9 1 (.slice (some ⟨w3.heap.size, 0, none⟩) 0 0) ([] : List ByteArray).length (ss [])) := Lib.hid (own_zero w3.drew rfl (Nat.le_refl _))
      have OZ12 : Hid (((w3.drew.alloc (.cells #[] 9)).alloc (.cells #[.string val] 9)).ownsRow w3.heap.size 9 1 (.slice (some ⟨w3.heap.size, 0, none⟩) 0 0) ([] : List ByteArray).length (ss [])) := Lib.hid (OZ1.out.alloc _)
      have OZ21 : Hid (((w3.drew.alloc (.cells #[.string val] 9)).alloc (.cells #[] 9)).ownsRow w3.heap.size 9 1 (.slice (some ⟨w3.heap.size + 1, 0, none⟩) 0 0) ([] : List ByteArray).length (ss [])) := Lib.hid (own_zero (w3.drew.alloc (.cells #[.string val] 9)) (by simp) (Nat.le_succ _))
      have HVa : Hid (StrsAt (w3.drew.alloc (.cells #[] 9)) lo L) := Lib.hid (VA3.out.1.below hbz1)
      have HVb : Hid (StrsAt ((w3.drew.alloc (.cells #[] 9)).alloc (.cells #[.string val] 9)) lo L) := Lib.hid (VA3.out.1.below hbz12)
      have HVc : Hid (StrsAt ((w3.drew.alloc (.cells #[.string val] 9)).alloc (.cells #[] 9)) lo L) := Lib.hid (VA3.out.1.below hbz21)
      have HX12 : Hid (StrsAt ((w3.drew.alloc (.cells #[] 9)).alloc (.cells #[.string val] 9)) (some ⟨w3.heap.size + 1, 0, none⟩) [val]) := Lib.hid (by have := strs_one (w3.drew.alloc (.cells #[] 9)) val; simpa using this)
      have HX21 : Hid (StrsAt ((w3.drew.alloc (.cells #[.string val] 9)).alloc (.cells #[] 9)) (some ⟨w3.heap.size, 0, none⟩) [val]) := Lib.hid ((strs_one w3.drew val).below (more (Below.refl _ _) _))
      have hs1 : w3.heap.size ≤ (w3.drew.alloc (.cells #[] 9)).heap.size := hbz1.size
      have hs12 : w3.heap.size ≤ ((w3.drew.alloc (.cells #[] 9)).alloc (.cells #[.string val] 9)).heap.size := hbz12.size
      have hs21 : w3.heap.size ≤ ((w3.drew.alloc (.cells #[.string val] 9)).alloc (.cells #[] 9)).heap.size := hbz21.size
      clear p0 p1
      by_cases hL0 : L.length = 0
      · have hl8' := hl8 hL0
        have HL0 := Lib.hid hL0
        have hl0' : ((L.length : Int) == 0) = true := by rw [hl0]; simpa using hL0
        obtain ⟨⟨p0, p1⟩, _⟩ := T3.out.cells
        clear hl0 hl8 hL0 hf
        go_wp2_with fail
        clear p0 p1
        refine wp_region_held_drew (S := (fun Z => Z.cell? ⟨w.heap.size, 0, none⟩ = some (.slice ao d.length ca) ∧ Z.cell? ⟨w.heap.size, 1, none⟩ = some (.slice bo l.length cb))) (by kernel_rfl) ?_ (fun hHeld => ?_)
        · (try dsimp only)
          first | exact SK.out _ (Below.mono (by assumption) hw1') | exact SK.out _ (hbz1.mono hw1') | exact SK.out _ (hbz2.mono hw1') | exact SK.out _ (hbz12.mono hw1') | exact SK.out _ (hbz21.mono hw1') | exact SK.out _ (below_three' hb8 hw1' _ _ _)
        refine wpAnyH_take (i := 0) (oi := { dst := some 34, op := Op.load 26 (Operand.tmp 3), type := 26, pos := "l03_entry.go:148", after := #[], guard := none }) (v := ?_) rfl (by kernel_rfl) (by kernel_rfl) (by kernel_rfl) (fun _ _ _ h => h) (Or.inl ⟨by rfl, ?_⟩) (by assumption) ?_
        rotate_left
        · intro w hSw; (try dsimp only at hSw); go_simp; (try with_reducible rfl)
        (try simp only [Act.put, List.setIfInBounds_toArray, List.set_cons_zero, List.set_cons_succ])
        refine wpAnyH_take (i := 1) (oi := { dst := some 35, op := Op.move (Operand.tmp 1), type := 9, pos := "l03_entry.go:148", after := #[], guard := none }) (v := ?_) rfl (by kernel_rfl) (by kernel_rfl) (by kernel_rfl) (fun _ _ _ h => h) (Or.inl ⟨by rfl, ?_⟩) (by assumption) ?_
        rotate_left
        · intro w hSw; (try dsimp only at hSw); go_simp; (try with_reducible rfl)
        (try simp only [Act.put, List.setIfInBounds_toArray, List.set_cons_zero, List.set_cons_succ])
        refine wpAnyH_take (i := 3) (oi := { dst := some 37, op := Op.move (Operand.tmp 7), type := 36, pos := "l03_entry.go:148", after := #[], guard := none }) (v := ?_) rfl (by kernel_rfl) (by kernel_rfl) (by kernel_rfl) (fun _ _ _ h => h) (Or.inl ⟨by rfl, ?_⟩) (by assumption) ?_
        rotate_left
        · intro w hSw; (try dsimp only at hSw); go_simp; (try with_reducible rfl)
        (try simp only [Act.put, List.setIfInBounds_toArray, List.set_cons_zero, List.set_cons_succ])
        refine wpAnyH_take (i := 5) (oi := { dst := some 39, op := Op.move (Operand.tmp 2), type := 9, pos := "l03_entry.go:148", after := #[], guard := none }) (v := ?_) rfl (by kernel_rfl) (by kernel_rfl) (by kernel_rfl) (fun _ _ _ h => h) (Or.inl ⟨by rfl, ?_⟩) (by assumption) ?_
        rotate_left
        · intro w hSw; (try dsimp only at hSw); go_simp; (try with_reducible rfl)
        (try simp only [Act.put, List.setIfInBounds_toArray, List.set_cons_zero, List.set_cons_succ])
        refine wpAnyH_ready (rs := [2, 6]) (by kernel_rfl) (by simp) ?_
        refine AllReadyH.cons (o := { dst := some 36, op := Op.buildSlice 36 0 #[], type := 36, pos := "l03_entry.go:148", after := #[], guard := none }) rfl (fun K hK => ?_) (AllReadyH.cons (o := { dst := some 40, op := Op.buildSlice 36 1 #[(0, Operand.tmp 39)], type := 36, pos := "l03_entry.go:148", after := #[{ on := 5, ground := Ground.data }], guard := none }) rfl (fun K hK => ?_) (AllReadyH.nil))
        · go_simp
          clear hHeld
          refine hK.out _ _ ?_ (fun hHeld => ?_)
          · (try dsimp only)
            first | exact SK.out _ (Below.mono (by assumption) hw1') | exact SK.out _ (hbz1.mono hw1') | exact SK.out _ (hbz2.mono hw1') | exact SK.out _ (hbz12.mono hw1') | exact SK.out _ (hbz21.mono hw1') | exact SK.out _ (below_three' hb8 hw1' _ _ _)
          clear hK K
          (try simp only [Act.put, List.setIfInBounds_toArray, List.set_cons_zero, List.set_cons_succ])
          refine wpAnyH_ready (rs := [4, 6]) (by kernel_rfl) (by simp) ?_
          refine AllReadyH.cons (o := { dst := some 38, op := Op.call { callee := Callee.builtin Builtin.append, args := #[Operand.tmp 36, Operand.tmp 37], argTypes := #[36, 36] }, type := 36, pos := "l03_entry.go:148", after := #[{ on := 2, ground := Ground.data }, { on := 3, ground := Ground.data }], guard := none }) rfl (fun K hK => ?_) (AllReadyH.cons (o := { dst := some 40, op := Op.buildSlice 36 1 #[(0, Operand.tmp 39)], type := 36, pos := "l03_entry.go:148", after := #[{ on := 5, ground := Ground.data }], guard := none }) rfl (fun K hK => ?_) (AllReadyH.nil))
          · refine step_strs w3.heap.size rfl _ _ rfl (.slice (some ⟨w3.heap.size, 0, none⟩) 0 0) [] rfl OZ1.out lo L lc _ rfl rfl HVa.out hlc hlenL hs1 hbz1 ?_
            intro v4 w4 hown4 hbel4 hgr4
            obtain ⟨xo, xc, rfl⟩ := own_slice hown4
            simp only [List.nil_append] at hown4 ⊢
            have hz4 : Below w3.heap.size w3 (w4.alloc (.cells #[.string val] 9)) := more hbel4 _
            clear hHeld
            refine hK.out _ _ ?_ (fun hHeld => ?_)
            · (try dsimp only)
              first | exact SK.out _ (Below.mono (by assumption) hw1') | exact SK.out _ (hbz1.mono hw1') | exact SK.out _ (hbz2.mono hw1') | exact SK.out _ (hbz12.mono hw1') | exact SK.out _ (hbz21.mono hw1') | exact SK.out _ (below_three' hb8 hw1' _ _ _)
            clear hK K
            (try simp only [Act.put, List.setIfInBounds_toArray, List.set_cons_zero, List.set_cons_succ])
            refine wpAnyH_ready (rs := [6]) (by kernel_rfl) (by simp) ?_
            refine AllReadyH.cons (o := { dst := some 40, op := Op.buildSlice 36 1 #[(0, Operand.tmp 39)], type := 36, pos := "l03_entry.go:148", after := #[{ on := 5, ground := Ground.data }], guard := none }) rfl (fun K hK => ?_) (AllReadyH.nil)
            go_simp
            clear hHeld
            refine hK.out _ _ ?_ (fun hHeld => ?_)
            · (try dsimp only)
              first | exact SK.out _ (Below.mono (by assumption) hw1') | exact SK.out _ (hbz1.mono hw1') | exact SK.out _ (hbz2.mono hw1') | exact SK.out _ (hbz12.mono hw1') | exact SK.out _ (hbz21.mono hw1') | exact SK.out _ (below_three' hb8 hw1' _ _ _)
            clear hK K
            (try simp only [Act.put, List.setIfInBounds_toArray, List.set_cons_zero, List.set_cons_succ])
            refine wpAnyH_ready (rs := [7]) (by kernel_rfl) (by simp) ?_
            refine AllReadyH.cons (o := { dst := some 41, op := Op.call { callee := Callee.builtin Builtin.append, args := #[Operand.tmp 38, Operand.tmp 40], argTypes := #[36, 36] }, type := 36, pos := "l03_entry.go:148", after := #[{ on := 4, ground := Ground.data }, { on := 6, ground := Ground.data }, { on := 4, ground := Ground.chain }], guard := none }) rfl (fun K hK => ?_) (AllReadyH.nil)
            refine step_strs w3.heap.size rfl _ _ rfl (.slice xo L.length xc) L rfl (hown4.alloc _) (some ⟨w4.heap.size, 0, none⟩) [val] 1 _ rfl rfl (strs_one w4 val) (fun e => by cases e) hlen1 (Nat.le_trans hbel4.size (by simp)) hz4 ?_
            intro v7 w7 hown7 hbel7 hgr7
            obtain ⟨yo, yc, rfl⟩ := own_slice hown7
            have ST7 := Lib.hid (own_strs hown7)
            clear hown7
            rw [HLs]
            clear hHeld
            refine hK.out _ _ ?_ (fun hHeld => ?_)
            · (try dsimp only)
              first | exact SK.out _ (Below.mono (by assumption) hw1') | exact SK.out _ (hbz1.mono hw1') | exact SK.out _ (hbz2.mono hw1') | exact SK.out _ (hbz12.mono hw1') | exact SK.out _ (hbz21.mono hw1') | exact SK.out _ (below_three' hb8 hw1' _ _ _)
            clear hK K
            (try simp only [Act.put, List.setIfInBounds_toArray, List.set_cons_zero, List.set_cons_succ])
            refine wpAnyH_ready (rs := [8]) (by kernel_rfl) (by simp) ?_
            refine AllReadyH.cons (o := { dst := some 42, op := Op.call { callee := Callee.value (Operand.func 101), args := #[Operand.tmp 34, Operand.tmp 35, Operand.tmp 41], argTypes := #[26, 9, 36] }, type := 26, pos := "l03_entry.go:148", after := #[{ on := 0, ground := Ground.data }, { on := 1, ground := Ground.data }, { on := 7, ground := Ground.data }, { on := 7, ground := Ground.chain }], guard := none }) rfl (fun K hK => ?_) (AllReadyH.nil)
            go_simp
            refine (HSet.out w7 yo yc hbel7 ST7.out).mono ?_
            rintro e w8 ⟨⟨po, pc, qo, qc, rfl, e1, e2⟩, hb8⟩
            have E1 := Lib.hid e1; have E2 := Lib.hid e2; clear e1 e2
            have U8 := Lib.hid (U3.out.below hb8)
            obtain ⟨⟨k0, k1, k2⟩, f0, f1, f2⟩ := U8.out.cells
            clear hHeld
            refine hK.out _ _ ?_ (fun hHeld => ?_)
            · (try dsimp only)
              first | exact SK.out _ (Below.mono (by assumption) hw1') | exact SK.out _ (hbz1.mono hw1') | exact SK.out _ (hbz2.mono hw1') | exact SK.out _ (hbz12.mono hw1') | exact SK.out _ (hbz21.mono hw1') | exact SK.out _ (below_three' hb8 hw1' _ _ _)
            clear hK K
            (try simp only [Act.put, List.setIfInBounds_toArray, List.set_cons_zero, List.set_cons_succ])
            refine wpAnyH_take (i := 9) (oi := { dst := some 43, op := Op.build 30 #[(0, Operand.tmp 42)], type := 30, pos := "l03_entry.go:148", after := #[{ on := 8, ground := Ground.data }], guard := none }) (v := ?_) rfl (by kernel_rfl) (by kernel_rfl) (by kernel_rfl) (fun _ _ _ h => h) (Or.inl ⟨by rfl, ?_⟩) (by assumption) ?_
            rotate_left
            · intro w hSw; (try dsimp only at hSw); go_simp; (try with_reducible rfl)
            (try simp only [Act.put, List.setIfInBounds_toArray, List.set_cons_zero, List.set_cons_succ])
            refine wpAnyH_ready (rs := [10]) (by kernel_rfl) (by simp) ?_
            refine AllReadyH.cons (o := { dst := none, op := Op.store 30 (Operand.tmp 6) (Operand.tmp 43), type := 0, pos := "l03_entry.go:148", after := #[{ on := 9, ground := Ground.data }, { on := 8, ground := Ground.chain }, { on := 0, ground := Ground.phase }, { on := 1, ground := Ground.phase }, { on := 2, ground := Ground.phase }, { on := 3, ground := Ground.phase }, { on := 4, ground := Ground.phase }, { on := 5, ground := Ground.phase }, { on := 6, ground := Ground.phase }, { on := 7, ground := Ground.phase }, { on := 8, ground := Ground.phase }, { on := 9, ground := Ground.phase }], guard := none }) rfl (fun K hK => ?_) (AllReadyH.nil)
            go_simp
            clear hHeld
            refine hK.out _ _ ?_ (fun hHeld => ?_)
            · (try dsimp only)
              first | exact SK.out _ (Below.mono (by assumption) hw1') | exact SK.out _ (hbz1.mono hw1') | exact SK.out _ (hbz2.mono hw1') | exact SK.out _ (hbz12.mono hw1') | exact SK.out _ (hbz21.mono hw1') | exact SK.out _ (below_three' hb8 hw1' _ _ _)
            clear hK K
            (try simp only [Act.put, List.setIfInBounds_toArray, List.set_cons_zero, List.set_cons_succ])
            refine wpAnyH_done (by kernel_rfl) ?_ _
            clear hHeld
            obtain ⟨⟨q0, q1, q2⟩, _⟩ := (((U8.out.set0 (.slice po d.length pc)).set1 (.slice qo T.length qc)).set2 (.int .i64 0)).cells
            clear k0 k1 k2 f0 f1 f2
            go_wp2_with fail
            refine bodyPost_ret (v := .agg #[.slice po d.length pc, .slice qo T.length qc, .int .i64 0]) (by simp [results, Tryz.results57, go_sem, q0, q1, q2]) rfl ?_
            rw [HOut.out]
            exact fin_out B3.out hb8 hw1 E1.out E2.out _ _ _
          · go_simp
            clear hHeld
            refine hK.out _ _ ?_ (fun hHeld => ?_)
            · (try dsimp only)
              first | exact SK.out _ (Below.mono (by assumption) hw1') | exact SK.out _ (hbz1.mono hw1') | exact SK.out _ (hbz2.mono hw1') | exact SK.out _ (hbz12.mono hw1') | exact SK.out _ (hbz21.mono hw1') | exact SK.out _ (below_three' hb8 hw1' _ _ _)
            clear hK K
            (try simp only [Act.put, List.setIfInBounds_toArray, List.set_cons_zero, List.set_cons_succ])
            refine wpAnyH_ready (rs := [4]) (by kernel_rfl) (by simp) ?_
            refine AllReadyH.cons (o := { dst := some 38, op := Op.call { callee := Callee.builtin Builtin.append, args := #[Operand.tmp 36, Operand.tmp 37], argTypes := #[36, 36] }, type := 36, pos := "l03_entry.go:148", after := #[{ on := 2, ground := Ground.data }, { on := 3, ground := Ground.data }], guard := none }) rfl (fun K hK => ?_) (AllReadyH.nil)
            refine step_strs w3.heap.size rfl _ _ rfl (.slice (some ⟨w3.heap.size, 0, none⟩) 0 0) [] rfl OZ12.out lo L lc _ rfl rfl HVb.out hlc hlenL hs12 hbz12 ?_
            intro v4 w4 hown4 hbel4 hgr4
            obtain ⟨xo, xc, rfl⟩ := own_slice hown4
            simp only [List.nil_append] at hown4 ⊢
            have SV := strs_grown HX12.out hgr4 (Nat.succ_ne_self _)
            clear hHeld
            refine hK.out _ _ ?_ (fun hHeld => ?_)
            · (try dsimp only)
              first | exact SK.out _ (Below.mono (by assumption) hw1') | exact SK.out _ (hbz1.mono hw1') | exact SK.out _ (hbz2.mono hw1') | exact SK.out _ (hbz12.mono hw1') | exact SK.out _ (hbz21.mono hw1') | exact SK.out _ (below_three' hb8 hw1' _ _ _)
            clear hK K
            (try simp only [Act.put, List.setIfInBounds_toArray, List.set_cons_zero, List.set_cons_succ])
            refine wpAnyH_ready (rs := [7]) (by kernel_rfl) (by simp) ?_
            refine AllReadyH.cons (o := { dst := some 41, op := Op.call { callee := Callee.builtin Builtin.append, args := #[Operand.tmp 38, Operand.tmp 40], argTypes := #[36, 36] }, type := 36, pos := "l03_entry.go:148", after := #[{ on := 4, ground := Ground.data }, { on := 6, ground := Ground.data }, { on := 4, ground := Ground.chain }], guard := none }) rfl (fun K hK => ?_) (AllReadyH.nil)
            refine step_strs w3.heap.size rfl _ _ rfl (.slice xo L.length xc) L rfl hown4 (some ⟨w3.heap.size + 1, 0, none⟩) [val] 1 _ rfl rfl SV (fun e => by cases e) hlen1 hbel4.size hbel4 ?_
            intro v7 w7 hown7 hbel7 hgr7
            obtain ⟨yo, yc, rfl⟩ := own_slice hown7
            have ST7 := Lib.hid (own_strs hown7)
            clear hown7
            rw [HLs]
            clear hHeld
            refine hK.out _ _ ?_ (fun hHeld => ?_)
            · (try dsimp only)
              first | exact SK.out _ (Below.mono (by assumption) hw1') | exact SK.out _ (hbz1.mono hw1') | exact SK.out _ (hbz2.mono hw1') | exact SK.out _ (hbz12.mono hw1') | exact SK.out _ (hbz21.mono hw1') | exact SK.out _ (below_three' hb8 hw1' _ _ _)
            clear hK K
            (try simp only [Act.put, List.setIfInBounds_toArray, List.set_cons_zero, List.set_cons_succ])
            refine wpAnyH_ready (rs := [8]) (by kernel_rfl) (by simp) ?_
            refine AllReadyH.cons (o := { dst := some 42, op := Op.call { callee := Callee.value (Operand.func 101), args := #[Operand.tmp 34, Operand.tmp 35, Operand.tmp 41], argTypes := #[26, 9, 36] }, type := 26, pos := "l03_entry.go:148", after := #[{ on := 0, ground := Ground.data }, { on := 1, ground := Ground.data }, { on := 7, ground := Ground.data }, { on := 7, ground := Ground.chain }], guard := none }) rfl (fun K hK => ?_) (AllReadyH.nil)
            go_simp
            refine (HSet.out w7 yo yc hbel7 ST7.out).mono ?_
            rintro e w8 ⟨⟨po, pc, qo, qc, rfl, e1, e2⟩, hb8⟩
            have E1 := Lib.hid e1; have E2 := Lib.hid e2; clear e1 e2
            have U8 := Lib.hid (U3.out.below hb8)
            obtain ⟨⟨k0, k1, k2⟩, f0, f1, f2⟩ := U8.out.cells
            clear hHeld
            refine hK.out _ _ ?_ (fun hHeld => ?_)
            · (try dsimp only)
              first | exact SK.out _ (Below.mono (by assumption) hw1') | exact SK.out _ (hbz1.mono hw1') | exact SK.out _ (hbz2.mono hw1') | exact SK.out _ (hbz12.mono hw1') | exact SK.out _ (hbz21.mono hw1') | exact SK.out _ (below_three' hb8 hw1' _ _ _)
            clear hK K
            (try simp only [Act.put, List.setIfInBounds_toArray, List.set_cons_zero, List.set_cons_succ])
            refine wpAnyH_take (i := 9) (oi := { dst := some 43, op := Op.build 30 #[(0, Operand.tmp 42)], type := 30, pos := "l03_entry.go:148", after := #[{ on := 8, ground := Ground.data }], guard := none }) (v := ?_) rfl (by kernel_rfl) (by kernel_rfl) (by kernel_rfl) (fun _ _ _ h => h) (Or.inl ⟨by rfl, ?_⟩) (by assumption) ?_
            rotate_left
            · intro w hSw; (try dsimp only at hSw); go_simp; (try with_reducible rfl)
            (try simp only [Act.put, List.setIfInBounds_toArray, List.set_cons_zero, List.set_cons_succ])
            refine wpAnyH_ready (rs := [10]) (by kernel_rfl) (by simp) ?_
            refine AllReadyH.cons (o := { dst := none, op := Op.store 30 (Operand.tmp 6) (Operand.tmp 43), type := 0, pos := "l03_entry.go:148", after := #[{ on := 9, ground := Ground.data }, { on := 8, ground := Ground.chain }, { on := 0, ground := Ground.phase }, { on := 1, ground := Ground.phase }, { on := 2, ground := Ground.phase }, { on := 3, ground := Ground.phase }, { on := 4, ground := Ground.phase }, { on := 5, ground := Ground.phase }, { on := 6, ground := Ground.phase }, { on := 7, ground := Ground.phase }, { on := 8, ground := Ground.phase }, { on := 9, ground := Ground.phase }], guard := none }) rfl (fun K hK => ?_) (AllReadyH.nil)
            go_simp
            clear hHeld
            refine hK.out _ _ ?_ (fun hHeld => ?_)
            · (try dsimp only)
              first | exact SK.out _ (Below.mono (by assumption) hw1') | exact SK.out _ (hbz1.mono hw1') | exact SK.out _ (hbz2.mono hw1') | exact SK.out _ (hbz12.mono hw1') | exact SK.out _ (hbz21.mono hw1') | exact SK.out _ (below_three' hb8 hw1' _ _ _)
            clear hK K
            (try simp only [Act.put, List.setIfInBounds_toArray, List.set_cons_zero, List.set_cons_succ])
            refine wpAnyH_done (by kernel_rfl) ?_ _
            clear hHeld
            obtain ⟨⟨q0, q1, q2⟩, _⟩ := (((U8.out.set0 (.slice po d.length pc)).set1 (.slice qo T.length qc)).set2 (.int .i64 0)).cells
            clear k0 k1 k2 f0 f1 f2
            go_wp2_with fail
            refine bodyPost_ret (v := .agg #[.slice po d.length pc, .slice qo T.length qc, .int .i64 0]) (by simp [results, Tryz.results57, go_sem, q0, q1, q2]) rfl ?_
            rw [HOut.out]
            exact fin_out B3.out hb8 hw1 E1.out E2.out _ _ _
        · go_simp
          clear hHeld
          refine hK.out _ _ ?_ (fun hHeld => ?_)
          · (try dsimp only)
            first | exact SK.out _ (Below.mono (by assumption) hw1') | exact SK.out _ (hbz1.mono hw1') | exact SK.out _ (hbz2.mono hw1') | exact SK.out _ (hbz12.mono hw1') | exact SK.out _ (hbz21.mono hw1') | exact SK.out _ (below_three' hb8 hw1' _ _ _)
          clear hK K
          (try simp only [Act.put, List.setIfInBounds_toArray, List.set_cons_zero, List.set_cons_succ])
          refine wpAnyH_ready (rs := [2]) (by kernel_rfl) (by simp) ?_
          refine AllReadyH.cons (o := { dst := some 36, op := Op.buildSlice 36 0 #[], type := 36, pos := "l03_entry.go:148", after := #[], guard := none }) rfl (fun K hK => ?_) (AllReadyH.nil)
          go_simp
          clear hHeld
          refine hK.out _ _ ?_ (fun hHeld => ?_)
          · (try dsimp only)
            first | exact SK.out _ (Below.mono (by assumption) hw1') | exact SK.out _ (hbz1.mono hw1') | exact SK.out _ (hbz2.mono hw1') | exact SK.out _ (hbz12.mono hw1') | exact SK.out _ (hbz21.mono hw1') | exact SK.out _ (below_three' hb8 hw1' _ _ _)
          clear hK K
          (try simp only [Act.put, List.setIfInBounds_toArray, List.set_cons_zero, List.set_cons_succ])
          refine wpAnyH_ready (rs := [4]) (by kernel_rfl) (by simp) ?_
          refine AllReadyH.cons (o := { dst := some 38, op := Op.call { callee := Callee.builtin Builtin.append, args := #[Operand.tmp 36, Operand.tmp 37], argTypes := #[36, 36] }, type := 36, pos := "l03_entry.go:148", after := #[{ on := 2, ground := Ground.data }, { on := 3, ground := Ground.data }], guard := none }) rfl (fun K hK => ?_) (AllReadyH.nil)
          refine step_strs w3.heap.size rfl _ _ rfl (.slice (some ⟨w3.heap.size + 1, 0, none⟩) 0 0) [] rfl OZ21.out lo L lc _ rfl rfl HVc.out hlc hlenL hs21 hbz21 ?_
          intro v4 w4 hown4 hbel4 hgr4
          obtain ⟨xo, xc, rfl⟩ := own_slice hown4
          simp only [List.nil_append] at hown4 ⊢
          have SV := strs_grown HX21.out hgr4 (Nat.ne_of_lt (Nat.lt_succ_self _))
          clear hHeld
          refine hK.out _ _ ?_ (fun hHeld => ?_)
          · (try dsimp only)
            first | exact SK.out _ (Below.mono (by assumption) hw1') | exact SK.out _ (hbz1.mono hw1') | exact SK.out _ (hbz2.mono hw1') | exact SK.out _ (hbz12.mono hw1') | exact SK.out _ (hbz21.mono hw1') | exact SK.out _ (below_three' hb8 hw1' _ _ _)
          clear hK K
          (try simp only [Act.put, List.setIfInBounds_toArray, List.set_cons_zero, List.set_cons_succ])
          refine wpAnyH_ready (rs := [7]) (by kernel_rfl) (by simp) ?_
          refine AllReadyH.cons (o := { dst := some 41, op := Op.call { callee := Callee.builtin Builtin.append, args := #[Operand.tmp 38, Operand.tmp 40], argTypes := #[36, 36] }, type := 36, pos := "l03_entry.go:148", after := #[{ on := 4, ground := Ground.data }, { on := 6, ground := Ground.data }, { on := 4, ground := Ground.chain }], guard := none }) rfl (fun K hK => ?_) (AllReadyH.nil)
          refine step_strs w3.heap.size rfl _ _ rfl (.slice xo L.length xc) L rfl hown4 (some ⟨w3.heap.size, 0, none⟩) [val] 1 _ rfl rfl SV (fun e => by cases e) hlen1 hbel4.size hbel4 ?_
          intro v7 w7 hown7 hbel7 hgr7
          obtain ⟨yo, yc, rfl⟩ := own_slice hown7
          have ST7 := Lib.hid (own_strs hown7)
          clear hown7
          rw [HLs]
          clear hHeld
          refine hK.out _ _ ?_ (fun hHeld => ?_)
          · (try dsimp only)
            first | exact SK.out _ (Below.mono (by assumption) hw1') | exact SK.out _ (hbz1.mono hw1') | exact SK.out _ (hbz2.mono hw1') | exact SK.out _ (hbz12.mono hw1') | exact SK.out _ (hbz21.mono hw1') | exact SK.out _ (below_three' hb8 hw1' _ _ _)
          clear hK K
          (try simp only [Act.put, List.setIfInBounds_toArray, List.set_cons_zero, List.set_cons_succ])
          refine wpAnyH_ready (rs := [8]) (by kernel_rfl) (by simp) ?_
          refine AllReadyH.cons (o := { dst := some 42, op := Op.call { callee := Callee.value (Operand.func 101), args := #[Operand.tmp 34, Operand.tmp 35, Operand.tmp 41], argTypes := #[26, 9, 36] }, type := 26, pos := "l03_entry.go:148", after := #[{ on := 0, ground := Ground.data }, { on := 1, ground := Ground.data }, { on := 7, ground := Ground.data }, { on := 7, ground := Ground.chain }], guard := none }) rfl (fun K hK => ?_) (AllReadyH.nil)
          go_simp
          refine (HSet.out w7 yo yc hbel7 ST7.out).mono ?_
          rintro e w8 ⟨⟨po, pc, qo, qc, rfl, e1, e2⟩, hb8⟩
          have E1 := Lib.hid e1; have E2 := Lib.hid e2; clear e1 e2
          have U8 := Lib.hid (U3.out.below hb8)
          obtain ⟨⟨k0, k1, k2⟩, f0, f1, f2⟩ := U8.out.cells
          clear hHeld
          refine hK.out _ _ ?_ (fun hHeld => ?_)
          · (try dsimp only)
            first | exact SK.out _ (Below.mono (by assumption) hw1') | exact SK.out _ (hbz1.mono hw1') | exact SK.out _ (hbz2.mono hw1') | exact SK.out _ (hbz12.mono hw1') | exact SK.out _ (hbz21.mono hw1') | exact SK.out _ (below_three' hb8 hw1' _ _ _)
          clear hK K
          (try simp only [Act.put, List.setIfInBounds_toArray, List.set_cons_zero, List.set_cons_succ])
          refine wpAnyH_take (i := 9) (oi := { dst := some 43, op := Op.build 30 #[(0, Operand.tmp 42)], type := 30, pos := "l03_entry.go:148", after := #[{ on := 8, ground := Ground.data }], guard := none }) (v := ?_) rfl (by kernel_rfl) (by kernel_rfl) (by kernel_rfl) (fun _ _ _ h => h) (Or.inl ⟨by rfl, ?_⟩) (by assumption) ?_
          rotate_left
          · intro w hSw; (try dsimp only at hSw); go_simp; (try with_reducible rfl)
          (try simp only [Act.put, List.setIfInBounds_toArray, List.set_cons_zero, List.set_cons_succ])
          refine wpAnyH_ready (rs := [10]) (by kernel_rfl) (by simp) ?_
          refine AllReadyH.cons (o := { dst := none, op := Op.store 30 (Operand.tmp 6) (Operand.tmp 43), type := 0, pos := "l03_entry.go:148", after := #[{ on := 9, ground := Ground.data }, { on := 8, ground := Ground.chain }, { on := 0, ground := Ground.phase }, { on := 1, ground := Ground.phase }, { on := 2, ground := Ground.phase }, { on := 3, ground := Ground.phase }, { on := 4, ground := Ground.phase }, { on := 5, ground := Ground.phase }, { on := 6, ground := Ground.phase }, { on := 7, ground := Ground.phase }, { on := 8, ground := Ground.phase }, { on := 9, ground := Ground.phase }], guard := none }) rfl (fun K hK => ?_) (AllReadyH.nil)
          go_simp
          clear hHeld
          refine hK.out _ _ ?_ (fun hHeld => ?_)
          · (try dsimp only)
            first | exact SK.out _ (Below.mono (by assumption) hw1') | exact SK.out _ (hbz1.mono hw1') | exact SK.out _ (hbz2.mono hw1') | exact SK.out _ (hbz12.mono hw1') | exact SK.out _ (hbz21.mono hw1') | exact SK.out _ (below_three' hb8 hw1' _ _ _)
          clear hK K
          (try simp only [Act.put, List.setIfInBounds_toArray, List.set_cons_zero, List.set_cons_succ])
          refine wpAnyH_done (by kernel_rfl) ?_ _
          clear hHeld
          obtain ⟨⟨q0, q1, q2⟩, _⟩ := (((U8.out.set0 (.slice po d.length pc)).set1 (.slice qo T.length qc)).set2 (.int .i64 0)).cells
          clear k0 k1 k2 f0 f1 f2
          go_wp2_with fail
          refine bodyPost_ret (v := .agg #[.slice po d.length pc, .slice qo T.length qc, .int .i64 0]) (by simp [results, Tryz.results57, go_sem, q0, q1, q2]) rfl ?_
          rw [HOut.out]
          exact fin_out B3.out hb8 hw1 E1.out E2.out _ _ _
      · have hl0' : ((L.length : Int) == 0) = false := by rw [hl0]; simpa using hL0
        clear hl0 hl8 hL0 hf
        go_wp2_with fail
        refine wp_region_held_drew (S := (fun Z => Z.cell? ⟨w.heap.size, 0, none⟩ = some (.slice ao d.length ca) ∧ Z.cell? ⟨w.heap.size, 1, none⟩ = some (.slice bo l.length cb))) (by kernel_rfl) ?_ (fun hHeld => ?_)
        · (try dsimp only)
          first | exact SK.out _ (Below.mono (by assumption) hw1') | exact SK.out _ (hbz1.mono hw1') | exact SK.out _ (hbz2.mono hw1') | exact SK.out _ (hbz12.mono hw1') | exact SK.out _ (hbz21.mono hw1') | exact SK.out _ (below_three' hb8 hw1' _ _ _)
        refine wpAnyH_take (i := 0) (oi := { dst := some 34, op := Op.load 26 (Operand.tmp 3), type := 26, pos := "l03_entry.go:148", after := #[], guard := none }) (v := ?_) rfl (by kernel_rfl) (by kernel_rfl) (by kernel_rfl) (fun _ _ _ h => h) (Or.inl ⟨by rfl, ?_⟩) (by assumption) ?_
        rotate_left
        · intro w hSw; (try dsimp only at hSw); go_simp; (try with_reducible rfl)
        (try simp only [Act.put, List.setIfInBounds_toArray, List.set_cons_zero, List.set_cons_succ])
        refine wpAnyH_take (i := 1) (oi := { dst := some 35, op := Op.move (Operand.tmp 1), type := 9, pos := "l03_entry.go:148", after := #[], guard := none }) (v := ?_) rfl (by kernel_rfl) (by kernel_rfl) (by kernel_rfl) (fun _ _ _ h => h) (Or.inl ⟨by rfl, ?_⟩) (by assumption) ?_
        rotate_left
        · intro w hSw; (try dsimp only at hSw); go_simp; (try with_reducible rfl)
        (try simp only [Act.put, List.setIfInBounds_toArray, List.set_cons_zero, List.set_cons_succ])
        refine wpAnyH_take (i := 3) (oi := { dst := some 37, op := Op.move (Operand.tmp 7), type := 36, pos := "l03_entry.go:148", after := #[], guard := none }) (v := ?_) rfl (by kernel_rfl) (by kernel_rfl) (by kernel_rfl) (fun _ _ _ h => h) (Or.inl ⟨by rfl, ?_⟩) (by assumption) ?_
        rotate_left
        · intro w hSw; (try dsimp only at hSw); go_simp; (try with_reducible rfl)
        (try simp only [Act.put, List.setIfInBounds_toArray, List.set_cons_zero, List.set_cons_succ])
        refine wpAnyH_take (i := 5) (oi := { dst := some 39, op := Op.move (Operand.tmp 2), type := 9, pos := "l03_entry.go:148", after := #[], guard := none }) (v := ?_) rfl (by kernel_rfl) (by kernel_rfl) (by kernel_rfl) (fun _ _ _ h => h) (Or.inl ⟨by rfl, ?_⟩) (by assumption) ?_
        rotate_left
        · intro w hSw; (try dsimp only at hSw); go_simp; (try with_reducible rfl)
        (try simp only [Act.put, List.setIfInBounds_toArray, List.set_cons_zero, List.set_cons_succ])
        refine wpAnyH_ready (rs := [2, 6]) (by kernel_rfl) (by simp) ?_
        refine AllReadyH.cons (o := { dst := some 36, op := Op.buildSlice 36 0 #[], type := 36, pos := "l03_entry.go:148", after := #[], guard := none }) rfl (fun K hK => ?_) (AllReadyH.cons (o := { dst := some 40, op := Op.buildSlice 36 1 #[(0, Operand.tmp 39)], type := 36, pos := "l03_entry.go:148", after := #[{ on := 5, ground := Ground.data }], guard := none }) rfl (fun K hK => ?_) (AllReadyH.nil))
        · go_simp
          clear hHeld
          refine hK.out _ _ ?_ (fun hHeld => ?_)
          · (try dsimp only)
            first | exact SK.out _ (Below.mono (by assumption) hw1') | exact SK.out _ (hbz1.mono hw1') | exact SK.out _ (hbz2.mono hw1') | exact SK.out _ (hbz12.mono hw1') | exact SK.out _ (hbz21.mono hw1') | exact SK.out _ (below_three' hb8 hw1' _ _ _)
          clear hK K
          (try simp only [Act.put, List.setIfInBounds_toArray, List.set_cons_zero, List.set_cons_succ])
          refine wpAnyH_ready (rs := [4, 6]) (by kernel_rfl) (by simp) ?_
          refine AllReadyH.cons (o := { dst := some 38, op := Op.call { callee := Callee.builtin Builtin.append, args := #[Operand.tmp 36, Operand.tmp 37], argTypes := #[36, 36] }, type := 36, pos := "l03_entry.go:148", after := #[{ on := 2, ground := Ground.data }, { on := 3, ground := Ground.data }], guard := none }) rfl (fun K hK => ?_) (AllReadyH.cons (o := { dst := some 40, op := Op.buildSlice 36 1 #[(0, Operand.tmp 39)], type := 36, pos := "l03_entry.go:148", after := #[{ on := 5, ground := Ground.data }], guard := none }) rfl (fun K hK => ?_) (AllReadyH.nil))
          · refine step_strs w3.heap.size rfl _ _ rfl (.slice (some ⟨w3.heap.size, 0, none⟩) 0 0) [] rfl OZ1.out lo L lc _ rfl rfl HVa.out hlc hlenL hs1 hbz1 ?_
            intro v4 w4 hown4 hbel4 hgr4
            obtain ⟨xo, xc, rfl⟩ := own_slice hown4
            simp only [List.nil_append] at hown4 ⊢
            have hz4 : Below w3.heap.size w3 (w4.alloc (.cells #[.string val] 9)) := more hbel4 _
            clear hHeld
            refine hK.out _ _ ?_ (fun hHeld => ?_)
            · (try dsimp only)
              first | exact SK.out _ (Below.mono (by assumption) hw1') | exact SK.out _ (hbz1.mono hw1') | exact SK.out _ (hbz2.mono hw1') | exact SK.out _ (hbz12.mono hw1') | exact SK.out _ (hbz21.mono hw1') | exact SK.out _ (below_three' hb8 hw1' _ _ _)
            clear hK K
            (try simp only [Act.put, List.setIfInBounds_toArray, List.set_cons_zero, List.set_cons_succ])
            refine wpAnyH_ready (rs := [6]) (by kernel_rfl) (by simp) ?_
            refine AllReadyH.cons (o := { dst := some 40, op := Op.buildSlice 36 1 #[(0, Operand.tmp 39)], type := 36, pos := "l03_entry.go:148", after := #[{ on := 5, ground := Ground.data }], guard := none }) rfl (fun K hK => ?_) (AllReadyH.nil)
            go_simp
            clear hHeld
            refine hK.out _ _ ?_ (fun hHeld => ?_)
            · (try dsimp only)
              first | exact SK.out _ (Below.mono (by assumption) hw1') | exact SK.out _ (hbz1.mono hw1') | exact SK.out _ (hbz2.mono hw1') | exact SK.out _ (hbz12.mono hw1') | exact SK.out _ (hbz21.mono hw1') | exact SK.out _ (below_three' hb8 hw1' _ _ _)
            clear hK K
            (try simp only [Act.put, List.setIfInBounds_toArray, List.set_cons_zero, List.set_cons_succ])
            refine wpAnyH_ready (rs := [7]) (by kernel_rfl) (by simp) ?_
            refine AllReadyH.cons (o := { dst := some 41, op := Op.call { callee := Callee.builtin Builtin.append, args := #[Operand.tmp 38, Operand.tmp 40], argTypes := #[36, 36] }, type := 36, pos := "l03_entry.go:148", after := #[{ on := 4, ground := Ground.data }, { on := 6, ground := Ground.data }, { on := 4, ground := Ground.chain }], guard := none }) rfl (fun K hK => ?_) (AllReadyH.nil)
            refine step_strs w3.heap.size rfl _ _ rfl (.slice xo L.length xc) L rfl (hown4.alloc _) (some ⟨w4.heap.size, 0, none⟩) [val] 1 _ rfl rfl (strs_one w4 val) (fun e => by cases e) hlen1 (Nat.le_trans hbel4.size (by simp)) hz4 ?_
            intro v7 w7 hown7 hbel7 hgr7
            obtain ⟨yo, yc, rfl⟩ := own_slice hown7
            have ST7 := Lib.hid (own_strs hown7)
            clear hown7
            rw [HLs]
            clear hHeld
            refine hK.out _ _ ?_ (fun hHeld => ?_)
            · (try dsimp only)
              first | exact SK.out _ (Below.mono (by assumption) hw1') | exact SK.out _ (hbz1.mono hw1') | exact SK.out _ (hbz2.mono hw1') | exact SK.out _ (hbz12.mono hw1') | exact SK.out _ (hbz21.mono hw1') | exact SK.out _ (below_three' hb8 hw1' _ _ _)
            clear hK K
            (try simp only [Act.put, List.setIfInBounds_toArray, List.set_cons_zero, List.set_cons_succ])
            refine wpAnyH_ready (rs := [8]) (by kernel_rfl) (by simp) ?_
            refine AllReadyH.cons (o := { dst := some 42, op := Op.call { callee := Callee.value (Operand.func 101), args := #[Operand.tmp 34, Operand.tmp 35, Operand.tmp 41], argTypes := #[26, 9, 36] }, type := 26, pos := "l03_entry.go:148", after := #[{ on := 0, ground := Ground.data }, { on := 1, ground := Ground.data }, { on := 7, ground := Ground.data }, { on := 7, ground := Ground.chain }], guard := none }) rfl (fun K hK => ?_) (AllReadyH.nil)
            go_simp
            refine (HSet.out w7 yo yc hbel7 ST7.out).mono ?_
            rintro e w8 ⟨⟨po, pc, qo, qc, rfl, e1, e2⟩, hb8⟩
            have E1 := Lib.hid e1; have E2 := Lib.hid e2; clear e1 e2
            have U8 := Lib.hid (U3.out.below hb8)
            obtain ⟨⟨k0, k1, k2⟩, f0, f1, f2⟩ := U8.out.cells
            clear hHeld
            refine hK.out _ _ ?_ (fun hHeld => ?_)
            · (try dsimp only)
              first | exact SK.out _ (Below.mono (by assumption) hw1') | exact SK.out _ (hbz1.mono hw1') | exact SK.out _ (hbz2.mono hw1') | exact SK.out _ (hbz12.mono hw1') | exact SK.out _ (hbz21.mono hw1') | exact SK.out _ (below_three' hb8 hw1' _ _ _)
            clear hK K
            (try simp only [Act.put, List.setIfInBounds_toArray, List.set_cons_zero, List.set_cons_succ])
            refine wpAnyH_take (i := 9) (oi := { dst := some 43, op := Op.build 30 #[(0, Operand.tmp 42)], type := 30, pos := "l03_entry.go:148", after := #[{ on := 8, ground := Ground.data }], guard := none }) (v := ?_) rfl (by kernel_rfl) (by kernel_rfl) (by kernel_rfl) (fun _ _ _ h => h) (Or.inl ⟨by rfl, ?_⟩) (by assumption) ?_
            rotate_left
            · intro w hSw; (try dsimp only at hSw); go_simp; (try with_reducible rfl)
            (try simp only [Act.put, List.setIfInBounds_toArray, List.set_cons_zero, List.set_cons_succ])
            refine wpAnyH_ready (rs := [10]) (by kernel_rfl) (by simp) ?_
            refine AllReadyH.cons (o := { dst := none, op := Op.store 30 (Operand.tmp 6) (Operand.tmp 43), type := 0, pos := "l03_entry.go:148", after := #[{ on := 9, ground := Ground.data }, { on := 8, ground := Ground.chain }, { on := 0, ground := Ground.phase }, { on := 1, ground := Ground.phase }, { on := 2, ground := Ground.phase }, { on := 3, ground := Ground.phase }, { on := 4, ground := Ground.phase }, { on := 5, ground := Ground.phase }, { on := 6, ground := Ground.phase }, { on := 7, ground := Ground.phase }, { on := 8, ground := Ground.phase }, { on := 9, ground := Ground.phase }], guard := none }) rfl (fun K hK => ?_) (AllReadyH.nil)
            go_simp
            clear hHeld
            refine hK.out _ _ ?_ (fun hHeld => ?_)
            · (try dsimp only)
              first | exact SK.out _ (Below.mono (by assumption) hw1') | exact SK.out _ (hbz1.mono hw1') | exact SK.out _ (hbz2.mono hw1') | exact SK.out _ (hbz12.mono hw1') | exact SK.out _ (hbz21.mono hw1') | exact SK.out _ (below_three' hb8 hw1' _ _ _)
            clear hK K
            (try simp only [Act.put, List.setIfInBounds_toArray, List.set_cons_zero, List.set_cons_succ])
            refine wpAnyH_done (by kernel_rfl) ?_ _
            clear hHeld
            obtain ⟨⟨q0, q1, q2⟩, _⟩ := (((U8.out.set0 (.slice po d.length pc)).set1 (.slice qo T.length qc)).set2 (.int .i64 0)).cells
            clear k0 k1 k2 f0 f1 f2
            go_wp2_with fail
            refine bodyPost_ret (v := .agg #[.slice po d.length pc, .slice qo T.length qc, .int .i64 0]) (by simp [results, Tryz.results57, go_sem, q0, q1, q2]) rfl ?_
            rw [HOut.out]
            exact fin_out B3.out hb8 hw1 E1.out E2.out _ _ _
          · go_simp
            clear hHeld
            refine hK.out _ _ ?_ (fun hHeld => ?_)
            · (try dsimp only)
              first | exact SK.out _ (Below.mono (by assumption) hw1') | exact SK.out _ (hbz1.mono hw1') | exact SK.out _ (hbz2.mono hw1') | exact SK.out _ (hbz12.mono hw1') | exact SK.out _ (hbz21.mono hw1') | exact SK.out _ (below_three' hb8 hw1' _ _ _)
            clear hK K
            (try simp only [Act.put, List.setIfInBounds_toArray, List.set_cons_zero, List.set_cons_succ])
            refine wpAnyH_ready (rs := [4]) (by kernel_rfl) (by simp) ?_
            refine AllReadyH.cons (o := { dst := some 38, op := Op.call { callee := Callee.builtin Builtin.append, args := #[Operand.tmp 36, Operand.tmp 37], argTypes := #[36, 36] }, type := 36, pos := "l03_entry.go:148", after := #[{ on := 2, ground := Ground.data }, { on := 3, ground := Ground.data }], guard := none }) rfl (fun K hK => ?_) (AllReadyH.nil)
            refine step_strs w3.heap.size rfl _ _ rfl (.slice (some ⟨w3.heap.size, 0, none⟩) 0 0) [] rfl OZ12.out lo L lc _ rfl rfl HVb.out hlc hlenL hs12 hbz12 ?_
            intro v4 w4 hown4 hbel4 hgr4
            obtain ⟨xo, xc, rfl⟩ := own_slice hown4
            simp only [List.nil_append] at hown4 ⊢
            have SV := strs_grown HX12.out hgr4 (Nat.succ_ne_self _)
            clear hHeld
            refine hK.out _ _ ?_ (fun hHeld => ?_)
            · (try dsimp only)
              first | exact SK.out _ (Below.mono (by assumption) hw1') | exact SK.out _ (hbz1.mono hw1') | exact SK.out _ (hbz2.mono hw1') | exact SK.out _ (hbz12.mono hw1') | exact SK.out _ (hbz21.mono hw1') | exact SK.out _ (below_three' hb8 hw1' _ _ _)
            clear hK K
            (try simp only [Act.put, List.setIfInBounds_toArray, List.set_cons_zero, List.set_cons_succ])
            refine wpAnyH_ready (rs := [7]) (by kernel_rfl) (by simp) ?_
            refine AllReadyH.cons (o := { dst := some 41, op := Op.call { callee := Callee.builtin Builtin.append, args := #[Operand.tmp 38, Operand.tmp 40], argTypes := #[36, 36] }, type := 36, pos := "l03_entry.go:148", after := #[{ on := 4, ground := Ground.data }, { on := 6, ground := Ground.data }, { on := 4, ground := Ground.chain }], guard := none }) rfl (fun K hK => ?_) (AllReadyH.nil)
            refine step_strs w3.heap.size rfl _ _ rfl (.slice xo L.length xc) L rfl hown4 (some ⟨w3.heap.size + 1, 0, none⟩) [val] 1 _ rfl rfl SV (fun e => by cases e) hlen1 hbel4.size hbel4 ?_
            intro v7 w7 hown7 hbel7 hgr7
            obtain ⟨yo, yc, rfl⟩ := own_slice hown7
            have ST7 := Lib.hid (own_strs hown7)
            clear hown7
            rw [HLs]
            clear hHeld
            refine hK.out _ _ ?_ (fun hHeld => ?_)
            · (try dsimp only)
              first | exact SK.out _ (Below.mono (by assumption) hw1') | exact SK.out _ (hbz1.mono hw1') | exact SK.out _ (hbz2.mono hw1') | exact SK.out _ (hbz12.mono hw1') | exact SK.out _ (hbz21.mono hw1') | exact SK.out _ (below_three' hb8 hw1' _ _ _)
            clear hK K
            (try simp only [Act.put, List.setIfInBounds_toArray, List.set_cons_zero, List.set_cons_succ])
            refine wpAnyH_ready (rs := [8]) (by kernel_rfl) (by simp) ?_
            refine AllReadyH.cons (o := { dst := some 42, op := Op.call { callee := Callee.value (Operand.func 101), args := #[Operand.tmp 34, Operand.tmp 35, Operand.tmp 41], argTypes := #[26, 9, 36] }, type := 26, pos := "l03_entry.go:148", after := #[{ on := 0, ground := Ground.data }, { on := 1, ground := Ground.data }, { on := 7, ground := Ground.data }, { on := 7, ground := Ground.chain }], guard := none }) rfl (fun K hK => ?_) (AllReadyH.nil)
            go_simp
            refine (HSet.out w7 yo yc hbel7 ST7.out).mono ?_
            rintro e w8 ⟨⟨po, pc, qo, qc, rfl, e1, e2⟩, hb8⟩
            have E1 := Lib.hid e1; have E2 := Lib.hid e2; clear e1 e2
            have U8 := Lib.hid (U3.out.below hb8)
            obtain ⟨⟨k0, k1, k2⟩, f0, f1, f2⟩ := U8.out.cells
            clear hHeld
            refine hK.out _ _ ?_ (fun hHeld => ?_)
            · (try dsimp only)
              first | exact SK.out _ (Below.mono (by assumption) hw1') | exact SK.out _ (hbz1.mono hw1') | exact SK.out _ (hbz2.mono hw1') | exact SK.out _ (hbz12.mono hw1') | exact SK.out _ (hbz21.mono hw1') | exact SK.out _ (below_three' hb8 hw1' _ _ _)
            clear hK K
            (try simp only [Act.put, List.setIfInBounds_toArray, List.set_cons_zero, List.set_cons_succ])
            refine wpAnyH_take (i := 9) (oi := { dst := some 43, op := Op.build 30 #[(0, Operand.tmp 42)], type := 30, pos := "l03_entry.go:148", after := #[{ on := 8, ground := Ground.data }], guard := none }) (v := ?_) rfl (by kernel_rfl) (by kernel_rfl) (by kernel_rfl) (fun _ _ _ h => h) (Or.inl ⟨by rfl, ?_⟩) (by assumption) ?_
            rotate_left
            · intro w hSw; (try dsimp only at hSw); go_simp; (try with_reducible rfl)
            (try simp only [Act.put, List.setIfInBounds_toArray, List.set_cons_zero, List.set_cons_succ])
            refine wpAnyH_ready (rs := [10]) (by kernel_rfl) (by simp) ?_
            refine AllReadyH.cons (o := { dst := none, op := Op.store 30 (Operand.tmp 6) (Operand.tmp 43), type := 0, pos := "l03_entry.go:148", after := #[{ on := 9, ground := Ground.data }, { on := 8, ground := Ground.chain }, { on := 0, ground := Ground.phase }, { on := 1, ground := Ground.phase }, { on := 2, ground := Ground.phase }, { on := 3, ground := Ground.phase }, { on := 4, ground := Ground.phase }, { on := 5, ground := Ground.phase }, { on := 6, ground := Ground.phase }, { on := 7, ground := Ground.phase }, { on := 8, ground := Ground.phase }, { on := 9, ground := Ground.phase }], guard := none }) rfl (fun K hK => ?_) (AllReadyH.nil)
            go_simp
            clear hHeld
            refine hK.out _ _ ?_ (fun hHeld => ?_)
            · (try dsimp only)
              first | exact SK.out _ (Below.mono (by assumption) hw1') | exact SK.out _ (hbz1.mono hw1') | exact SK.out _ (hbz2.mono hw1') | exact SK.out _ (hbz12.mono hw1') | exact SK.out _ (hbz21.mono hw1') | exact SK.out _ (below_three' hb8 hw1' _ _ _)
            clear hK K
            (try simp only [Act.put, List.setIfInBounds_toArray, List.set_cons_zero, List.set_cons_succ])
            refine wpAnyH_done (by kernel_rfl) ?_ _
            clear hHeld
            obtain ⟨⟨q0, q1, q2⟩, _⟩ := (((U8.out.set0 (.slice po d.length pc)).set1 (.slice qo T.length qc)).set2 (.int .i64 0)).cells
            clear k0 k1 k2 f0 f1 f2
            go_wp2_with fail
            refine bodyPost_ret (v := .agg #[.slice po d.length pc, .slice qo T.length qc, .int .i64 0]) (by simp [results, Tryz.results57, go_sem, q0, q1, q2]) rfl ?_
            rw [HOut.out]
            exact fin_out B3.out hb8 hw1 E1.out E2.out _ _ _
        · go_simp
          clear hHeld
          refine hK.out _ _ ?_ (fun hHeld => ?_)
          · (try dsimp only)
            first | exact SK.out _ (Below.mono (by assumption) hw1') | exact SK.out _ (hbz1.mono hw1') | exact SK.out _ (hbz2.mono hw1') | exact SK.out _ (hbz12.mono hw1') | exact SK.out _ (hbz21.mono hw1') | exact SK.out _ (below_three' hb8 hw1' _ _ _)
          clear hK K
          (try simp only [Act.put, List.setIfInBounds_toArray, List.set_cons_zero, List.set_cons_succ])
          refine wpAnyH_ready (rs := [2]) (by kernel_rfl) (by simp) ?_
          refine AllReadyH.cons (o := { dst := some 36, op := Op.buildSlice 36 0 #[], type := 36, pos := "l03_entry.go:148", after := #[], guard := none }) rfl (fun K hK => ?_) (AllReadyH.nil)
          go_simp
          clear hHeld
          refine hK.out _ _ ?_ (fun hHeld => ?_)
          · (try dsimp only)
            first | exact SK.out _ (Below.mono (by assumption) hw1') | exact SK.out _ (hbz1.mono hw1') | exact SK.out _ (hbz2.mono hw1') | exact SK.out _ (hbz12.mono hw1') | exact SK.out _ (hbz21.mono hw1') | exact SK.out _ (below_three' hb8 hw1' _ _ _)
          clear hK K
          (try simp only [Act.put, List.setIfInBounds_toArray, List.set_cons_zero, List.set_cons_succ])
          refine wpAnyH_ready (rs := [4]) (by kernel_rfl) (by simp) ?_
          refine AllReadyH.cons (o := { dst := some 38, op := Op.call { callee := Callee.builtin Builtin.append, args := #[Operand.tmp 36, Operand.tmp 37], argTypes := #[36, 36] }, type := 36, pos := "l03_entry.go:148", after := #[{ on := 2, ground := Ground.data }, { on := 3, ground := Ground.data }], guard := none }) rfl (fun K hK => ?_) (AllReadyH.nil)
          refine step_strs w3.heap.size rfl _ _ rfl (.slice (some ⟨w3.heap.size + 1, 0, none⟩) 0 0) [] rfl OZ21.out lo L lc _ rfl rfl HVc.out hlc hlenL hs21 hbz21 ?_
          intro v4 w4 hown4 hbel4 hgr4
          obtain ⟨xo, xc, rfl⟩ := own_slice hown4
          simp only [List.nil_append] at hown4 ⊢
          have SV := strs_grown HX21.out hgr4 (Nat.ne_of_lt (Nat.lt_succ_self _))
          clear hHeld
          refine hK.out _ _ ?_ (fun hHeld => ?_)
          · (try dsimp only)
            first | exact SK.out _ (Below.mono (by assumption) hw1') | exact SK.out _ (hbz1.mono hw1') | exact SK.out _ (hbz2.mono hw1') | exact SK.out _ (hbz12.mono hw1') | exact SK.out _ (hbz21.mono hw1') | exact SK.out _ (below_three' hb8 hw1' _ _ _)
          clear hK K
          (try simp only [Act.put, List.setIfInBounds_toArray, List.set_cons_zero, List.set_cons_succ])
          refine wpAnyH_ready (rs := [7]) (by kernel_rfl) (by simp) ?_
          refine AllReadyH.cons (o := { dst := some 41, op := Op.call { callee := Callee.builtin Builtin.append, args := #[Operand.tmp 38, Operand.tmp 40], argTypes := #[36, 36] }, type := 36, pos := "l03_entry.go:148", after := #[{ on := 4, ground := Ground.data }, { on := 6, ground := Ground.data }, { on := 4, ground := Ground.chain }], guard := none }) rfl (fun K hK => ?_) (AllReadyH.nil)
          refine step_strs w3.heap.size rfl _ _ rfl (.slice xo L.length xc) L rfl hown4 (some ⟨w3.heap.size, 0, none⟩) [val] 1 _ rfl rfl SV (fun e => by cases e) hlen1 hbel4.size hbel4 ?_
          intro v7 w7 hown7 hbel7 hgr7
          obtain ⟨yo, yc, rfl⟩ := own_slice hown7
          have ST7 := Lib.hid (own_strs hown7)
          clear hown7
          rw [HLs]
          clear hHeld
          refine hK.out _ _ ?_ (fun hHeld => ?_)
          · (try dsimp only)
            first | exact SK.out _ (Below.mono (by assumption) hw1') | exact SK.out _ (hbz1.mono hw1') | exact SK.out _ (hbz2.mono hw1') | exact SK.out _ (hbz12.mono hw1') | exact SK.out _ (hbz21.mono hw1') | exact SK.out _ (below_three' hb8 hw1' _ _ _)
          clear hK K
          (try simp only [Act.put, List.setIfInBounds_toArray, List.set_cons_zero, List.set_cons_succ])
          refine wpAnyH_ready (rs := [8]) (by kernel_rfl) (by simp) ?_
          refine AllReadyH.cons (o := { dst := some 42, op := Op.call { callee := Callee.value (Operand.func 101), args := #[Operand.tmp 34, Operand.tmp 35, Operand.tmp 41], argTypes := #[26, 9, 36] }, type := 26, pos := "l03_entry.go:148", after := #[{ on := 0, ground := Ground.data }, { on := 1, ground := Ground.data }, { on := 7, ground := Ground.data }, { on := 7, ground := Ground.chain }], guard := none }) rfl (fun K hK => ?_) (AllReadyH.nil)
          go_simp
          refine (HSet.out w7 yo yc hbel7 ST7.out).mono ?_
          rintro e w8 ⟨⟨po, pc, qo, qc, rfl, e1, e2⟩, hb8⟩
          have E1 := Lib.hid e1; have E2 := Lib.hid e2; clear e1 e2
          have U8 := Lib.hid (U3.out.below hb8)
          obtain ⟨⟨k0, k1, k2⟩, f0, f1, f2⟩ := U8.out.cells
          clear hHeld
          refine hK.out _ _ ?_ (fun hHeld => ?_)
          · (try dsimp only)
            first | exact SK.out _ (Below.mono (by assumption) hw1') | exact SK.out _ (hbz1.mono hw1') | exact SK.out _ (hbz2.mono hw1') | exact SK.out _ (hbz12.mono hw1') | exact SK.out _ (hbz21.mono hw1') | exact SK.out _ (below_three' hb8 hw1' _ _ _)
          clear hK K
          (try simp only [Act.put, List.setIfInBounds_toArray, List.set_cons_zero, List.set_cons_succ])
          refine wpAnyH_take (i := 9) (oi := { dst := some 43, op := Op.build 30 #[(0, Operand.tmp 42)], type := 30, pos := "l03_entry.go:148", after := #[{ on := 8, ground := Ground.data }], guard := none }) (v := ?_) rfl (by kernel_rfl) (by kernel_rfl) (by kernel_rfl) (fun _ _ _ h => h) (Or.inl ⟨by rfl, ?_⟩) (by assumption) ?_
          rotate_left
          · intro w hSw; (try dsimp only at hSw); go_simp; (try with_reducible rfl)
          (try simp only [Act.put, List.setIfInBounds_toArray, List.set_cons_zero, List.set_cons_succ])
          refine wpAnyH_ready (rs := [10]) (by kernel_rfl) (by simp) ?_
          refine AllReadyH.cons (o := { dst := none, op := Op.store 30 (Operand.tmp 6) (Operand.tmp 43), type := 0, pos := "l03_entry.go:148", after := #[{ on := 9, ground := Ground.data }, { on := 8, ground := Ground.chain }, { on := 0, ground := Ground.phase }, { on := 1, ground := Ground.phase }, { on := 2, ground := Ground.phase }, { on := 3, ground := Ground.phase }, { on := 4, ground := Ground.phase }, { on := 5, ground := Ground.phase }, { on := 6, ground := Ground.phase }, { on := 7, ground := Ground.phase }, { on := 8, ground := Ground.phase }, { on := 9, ground := Ground.phase }], guard := none }) rfl (fun K hK => ?_) (AllReadyH.nil)
          go_simp
          clear hHeld
          refine hK.out _ _ ?_ (fun hHeld => ?_)
          · (try dsimp only)
            first | exact SK.out _ (Below.mono (by assumption) hw1') | exact SK.out _ (hbz1.mono hw1') | exact SK.out _ (hbz2.mono hw1') | exact SK.out _ (hbz12.mono hw1') | exact SK.out _ (hbz21.mono hw1') | exact SK.out _ (below_three' hb8 hw1' _ _ _)
          clear hK K
          (try simp only [Act.put, List.setIfInBounds_toArray, List.set_cons_zero, List.set_cons_succ])
          refine wpAnyH_done (by kernel_rfl) ?_ _
          clear hHeld
          obtain ⟨⟨q0, q1, q2⟩, _⟩ := (((U8.out.set0 (.slice po d.length pc)).set1 (.slice qo T.length qc)).set2 (.int .i64 0)).cells
          clear k0 k1 k2 f0 f1 f2
          go_wp2_with fail
          refine bodyPost_ret (v := .agg #[.slice po d.length pc, .slice qo T.length qc, .int .i64 0]) (by simp [results, Tryz.results57, go_sem, q0, q1, q2]) rfl ?_
          rw [HOut.out]
          exact fin_out B3.out hb8 hw1 E1.out E2.out _ _ _
end Go.Proofs.YtjajpdghamecoaaGreat
/- AttrSet: the whole of the program's text. -/
namespace Go.Proofs.YtjajpdghamecoaaGreat
open Go.RowKit
attribute [local go_sem ↓] Go.wp_at_zero Go.wp_at_succ

/-- values may be set -/
noncomputable def canB (V : List ByteArray) : Bool := decide (V.length ≤ 4) && V.all valB && @decide (Diff V) (Classical.propDecidable _)
theorem inc_iff {V L : List ByteArray} (hp : L.Perm V) (ha : Asc normLt L L.length) : incB normLt L = @decide (Diff V) (Classical.propDecidable _) := by
  by_cases h : Diff V
  · rw [asc_inc ha (h.perm hp)]; exact (@decide_eq_true _ (Classical.propDecidable _) h).symm
  · rw [@decide_eq_false _ (Classical.propDecidable _) h]
    cases hi : incB normLt L with
    | false => rfl
    | true => exact absurd ((inc_diff hi).perm hp.symm) h
theorem canB_parts {V : List ByteArray} (h : canB V = true) : V.length ≤ 4 ∧ Diff V := by
  unfold canB at h
  simp only [Bool.and_eq_true, decide_eq_true_eq] at h
  exact ⟨h.1.1, h.2⟩
noncomputable def setR (d : RdnL) (l : List AttrV) (nm : ByteArray) (V : List ByteArray) : OutR :=
  if 8000 < nm.size ∨ 400 < V.length then (2, [], [])
  else if (rightB d l && nmL nm && canB V) = false then (1, [], [])
  else if V ≠ [] ∧ lackB d l nm = true then (9, [], [])
  else (0, d, setL l nm (sortN V))
theorem setR_small {d : RdnL} {l : List AttrV} {nm : ByteArray} {V : List ByteArray} (hf : FitsA l) (hV : FitsV V) : Small (setR d l nm V) := by
  unfold setR
  split
  · exact small_fail _
  · split
    · exact small_fail _
    · rename_i h1 h2
      split
      · exact small_fail _
      · simp only [Bool.not_eq_false, Bool.and_eq_true] at h2
        have h4 := (canB_parts h2.2).1
        exact small_set h2.1.1 hf (by omega) (sortN_fits hV) (by rw [sortN_len]; omega)
set_option maxRecDepth 100000 in
set_option maxHeartbeats 1000000 in
theorem canBeSet_any (vo : Option Addr) (V : List ByteArray) (vc : Nat) (w : World) (hv : ValsAt w vo vc V) (hf : FitsV V) :
    Calls Tryz.prog 66 #[.slice vo V.length vc] w fun e w' => e = .returned (.bool (canB V)) ∧ Below w.heap.size w w' := by
  have hl := hf.1
  have HV := Lib.hid hv; have HF := Lib.hid hf; clear hv hf
  by_cases h4 : 4 < V.length
  · have HE : Hid (canB V = false) := Lib.hid (by unfold canB; rw [decide_eq_false (by omega)]; rfl)
    have g : 4 < (V.length : Int) := by omega
    go_enter Tryz.func66, Tryz.ntmps66
    go_wp2
    go_ret
    exact ⟨ret_bool HE.out.symm, Below.refl _ _⟩
  have g : ¬ 4 < (V.length : Int) := by omega
  have HE0 : Hid (V.all valB = false → canB V = false) := Lib.hid (fun h => by unfold canB; rw [h]; simp)
  have HE1 : Hid (V.all valB = true → canB V = @decide (Diff V) (Classical.propDecidable _)) := Lib.hid (fun h => by unfold canB; rw [h, decide_eq_true (by omega)]; rfl)
  go_enter Tryz.func66, Tryz.ntmps66
  go_wp2_with fail
  refine (areProper_any vo V vc w HV.out.1 HF.out).mono ?_
  rintro e w1 ⟨rfl, b1⟩
  have B1 := Lib.hid b1
  clear b1
  cases hp : V.all valB
  · have HE := Lib.hid (HE0.out hp)
    go_wp2
    go_ret
    exact ⟨ret_bool HE.out.symm, B1.out⟩
  · have HE := Lib.hid (HE1.out hp)
    clear HE0 HE1
    go_wp2_with fail
    refine (sortedS_any vo V vc w1 (HV.out.below B1.out) HF.out (by omega)).mono ?_
    rintro e w2 ⟨⟨v2, L, rfl, hpm, has, o2⟩, b2⟩
    obtain ⟨so, sc, rfl⟩ := own_slice o2
    have hLl := hpm.length_eq
    have FL : Hid (FitsV L) := Lib.hid ⟨by omega, fun s hs => HF.out.2 s (hpm.mem_iff.1 hs)⟩
    have B2 := Lib.hid (B1.out.trans (b2.mono B1.out.size)); have S2 := Lib.hid (own_strs o2)
    have HI := Lib.hid (inc_iff hpm has)
    clear b2 o2 hpm has hLl
    go_wp2_with fail
    refine (incStr_any so L sc w2 S2.out FL.out).mono ?_
    rintro e w3 ⟨rfl, b3⟩
    have B3 := Lib.hid (B2.out.trans (b3.mono B2.out.size))
    clear b3
    rw [HI.out, ← HE.out]
    go_wp2
    go_ret
    exact ⟨rfl, B3.out⟩
set_option maxRecDepth 100000 in
set_option maxHeartbeats 1000000 in
theorem AttrSet_out (ao bo vo : Option Addr) (d : RdnL) (l : List AttrV) (V : List ByteArray) (ca cb vc : Nat) (nm : ByteArray) (w : World) (hd : DnAt w ao d) (hl : AttrsAt w bo l) (hfd : Fits d) (hfl : FitsA l) (hn : nm.size ≤ maxLen) (hv : ValsAt w vo vc V) (hfv : FitsV V) :
    Calls Tryz.prog 21 #[.agg #[.slice ao d.length ca, .slice bo l.length cb], .string nm, .slice vo V.length vc] w (ImplOut w (setR d l nm V)) := by
  have hVl := hfv.1
  have HD := Lib.hid hd; have HL := Lib.hid hl; have FD := Lib.hid hfd; have FL := Lib.hid hfl; have Hn := Lib.hid hn; have HV := Lib.hid hv; have FV := Lib.hid hfv; clear hd hl hfd hfl hv hfv
  unfold maxLen at hn
  have HX0 : Hid (Below w.heap.size w ((w.alloc (.cells #[.slice ao d.length ca, .slice bo l.length cb] 26)).alloc (.cells #[.slice none 0 0, .slice none 0 0, .int .i64 0] 30)) ∧ Two ((w.alloc (.cells #[.slice ao d.length ca, .slice bo l.length cb] 26)).alloc (.cells #[.slice none 0 0, .slice none 0 0, .int .i64 0] 30)) w.heap.size 26 (.slice ao d.length ca) (.slice bo l.length cb) ∧ Three ((w.alloc (.cells #[.slice ao d.length ca, .slice bo l.length cb] 26)).alloc (.cells #[.slice none 0 0, .slice none 0 0, .int .i64 0] 30)) (w.heap.size + 1) 30 (.slice none 0 0) (.slice none 0 0) (.int .i64 0)) :=
    Lib.hid ⟨more (more (Below.refl _ _) _) _, (twoNew w 26 _ _).alloc _, threeNext w _ 30 _ _ _⟩
  by_cases hbig : 8000 < nm.size ∨ 400 < V.length
  · have HO : Hid (setR d l nm V = (2, [], [])) := Lib.hid (by unfold setR; rw [if_pos hbig])
    obtain ⟨⟨k0, k1, k2⟩, f0, f1, f2⟩ := HX0.out.2.2.cells
    obtain ⟨⟨q0, q1, q2⟩, _⟩ := (((HX0.out.2.2.set0 (.slice none 0 0)).set1 (.slice none 0 0)).set2 (.int .i64 2)).cells
    by_cases h1 : 8000 < nm.size
    · have g : 8000 < (nm.size : Int) := by omega
      go_enter Tryz.func21, Tryz.ntmps21
      go_wp2_with fail
      refine bodyPost_ret (v := failV 2) (by simp [results, Tryz.results21, go_sem, q0, q1, q2, failV]) rfl ?_
      rw [HO.out]
      exact implOut_fail (more (more (Below.refl _ _) _) _)
    · have g : ¬ 8000 < (nm.size : Int) := by omega
      have g' : 400 < (V.length : Int) := by omega
      go_enter Tryz.func21, Tryz.ntmps21
      go_wp2_with fail
      refine bodyPost_ret (v := failV 2) (by simp [results, Tryz.results21, go_sem, q0, q1, q2, failV]) rfl ?_
      rw [HO.out]
      exact implOut_fail (more (more (Below.refl _ _) _) _)
  have g : ¬ 8000 < (nm.size : Int) := by omega
  have g' : ¬ 400 < (V.length : Int) := by omega
  have HOb : Hid ((rightB d l && nmL nm && canB V) = false → setR d l nm V = (1, [], [])) := Lib.hid (fun h => by unfold setR; rw [if_neg hbig, if_pos h])
  have HO9 : Hid ((rightB d l && nmL nm && canB V) = true → V ≠ [] → lackB d l nm = true → setR d l nm V = (9, [], [])) := Lib.hid (fun h h1 h2 => by unfold setR; rw [if_neg hbig, if_neg (by rw [h]; simp), if_pos ⟨h1, h2⟩])
  have HO0 : Hid ((rightB d l && nmL nm && canB V) = true → ¬ (V ≠ [] ∧ lackB d l nm = true) → setR d l nm V = (0, d, setL l nm (sortN V))) := Lib.hid (fun h h1 => by unfold setR; rw [if_neg hbig, if_neg (by rw [h]; simp), if_neg h1])
  clear hbig
  go_enter Tryz.func21, Tryz.ntmps21
  go_wp2_with fail
  refine calls_any' (fun W => Below w.heap.size w W ∧ Two W w.heap.size 26 (.slice ao d.length ca) (.slice bo l.length cb) ∧ Three W (w.heap.size + 1) 30 (.slice none 0 0) (.slice none 0 0) (.int .i64 0)) HX0.out ?_
  clear HX0
  rintro W ⟨hbW, t0, t1⟩
  refine (EntryRight_any ao bo d l ca cb W (HD.out.below hbW) (HL.out.below hbW) FD.out FL.out).mono ?_
  rintro e w1 ⟨rfl, hb1⟩
  have B1 := Lib.hid (hbW.trans (hb1.mono hbW.size)); have T1 := Lib.hid (t0.below hb1); have U1 := Lib.hid (t1.below hb1)
  clear hbW t0 t1 hb1
  cases hr : rightB d l
  · have HO := Lib.hid (HOb.out (by rw [hr]; rfl))
    clear HOb HO9 HO0
    obtain ⟨⟨k0, k1, k2⟩, f0, f1, f2⟩ := U1.out.cells
    obtain ⟨⟨q0, q1, q2⟩, _⟩ := (((U1.out.set0 (.slice none 0 0)).set1 (.slice none 0 0)).set2 (.int .i64 1)).cells
    go_wp2_with fail
    refine bodyPost_ret (v := failV 1) (by simp [results, Tryz.results21, go_sem, q0, q1, q2, failV]) rfl ?_
    rw [HO.out]
    exact implOut_fail (below_three B1.out _ _ _)
  · go_wp2_with fail
    refine (NameRight_any nm w1 Hn.out).mono ?_
    rintro e w2 ⟨rfl, rfl⟩
    cases hm : nmL nm
    · have HO := Lib.hid (HOb.out (by rw [hr, hm]; rfl))
      clear HOb HO9 HO0
      obtain ⟨⟨k0, k1, k2⟩, f0, f1, f2⟩ := U1.out.cells
      obtain ⟨⟨q0, q1, q2⟩, _⟩ := (((U1.out.set0 (.slice none 0 0)).set1 (.slice none 0 0)).set2 (.int .i64 1)).cells
      go_wp2_with fail
      refine bodyPost_ret (v := failV 1) (by simp [results, Tryz.results21, go_sem, q0, q1, q2, failV]) rfl ?_
      rw [HO.out]
      exact implOut_fail (below_three B1.out _ _ _)
    · go_wp2_with fail
      refine (canBeSet_any vo V vc w1 (HV.out.below B1.out) FV.out).mono ?_
      rintro e w3 ⟨rfl, hb3⟩
      have B3 := Lib.hid (B1.out.trans (hb3.mono B1.out.size)); have T3 := Lib.hid (T1.out.below hb3); have U3 := Lib.hid (U1.out.below hb3)
      clear hb3 B1 T1 U1
      cases hcn : canB V
      · have HO := Lib.hid (HOb.out (by rw [hr, hm, hcn]; rfl))
        clear HOb HO9 HO0
        obtain ⟨⟨k0, k1, k2⟩, f0, f1, f2⟩ := U3.out.cells
        obtain ⟨⟨q0, q1, q2⟩, _⟩ := (((U3.out.set0 (.slice none 0 0)).set1 (.slice none 0 0)).set2 (.int .i64 1)).cells
        go_wp2_with fail
        refine bodyPost_ret (v := failV 1) (by simp [results, Tryz.results21, go_sem, q0, q1, q2, failV]) rfl ?_
        rw [HO.out]
        exact implOut_fail (below_three B3.out _ _ _)
      · have hall : (rightB d l && nmL nm && canB V) = true := by rw [hr, hm, hcn]; rfl
        have HO9' := Lib.hid (HO9.out hall); have HO0' := Lib.hid (HO0.out hall)
        have HR := Lib.hid hr; have HCn := Lib.hid hcn
        have h8 := (right_eight hr).1
        have hv4 := (canB_parts hcn).1
        clear HOb HO9 HO0 hall
        obtain ⟨⟨p0, p1⟩, _⟩ := T3.out.cells
        by_cases hV0 : V = []
        · have HO := Lib.hid (HO0'.out (fun h => h.1 hV0))
          have g0 : ¬ 0 < (V.length : Int) := by rw [hV0]; simp
          clear HO9' HO0' hV0
          have B4 := Lib.hid B3.out; have T4 := Lib.hid T3.out; have U4 := Lib.hid U3.out
          obtain ⟨w4, hw4⟩ : ∃ w4, w4 = w3 := ⟨_, rfl⟩
          subst hw4
          clear p0 p1
          have hw1 := T4.out.lt
          have hw1' := U4.out.lt
          have SK : Hid (∀ Z : World, Below (w.heap.size + 1) w4 Z → (Z.cell? ⟨w.heap.size, 0, none⟩ = some (.slice ao d.length ca) ∧ Z.cell? ⟨w.heap.size, 1, none⟩ = some (.slice bo l.length cb))) :=
            Lib.hid (fun Z h => ⟨(h.cell (p := ⟨w.heap.size, 0, none⟩) (Nat.lt_succ_self _)).trans T4.out.cells.1.1, (h.cell (p := ⟨w.heap.size, 1, none⟩) (Nat.lt_succ_self _)).trans T4.out.cells.1.2⟩)
          have hbd : Below (w.heap.size + 1) w4 w4.drew := (Below.refl _ _).drew
          have HWV : Hid (Calls Tryz.prog 50 #[.agg #[.slice ao d.length ca, .slice bo l.length cb], .string nm, .slice vo V.length vc] w4 fun e w' => ∃ v u, e = .returned (.agg #[v, u]) ∧ w'.ownsRow w4.heap.size 97 2 v d.length (rs d) ∧ AttrsOwn w' w4.heap.size u (setL l nm (sortN V)) ∧ Below w4.heap.size w4 w') :=
            Lib.hid ((withV_any ao bo vo d l V ca cb vc nm w4 (HD.out.below B4.out) (HL.out.below B4.out) FD.out FL.out HR.out h8 (by omega) (HV.out.below B4.out) FV.out (by omega) (canB_parts HCn.out).2).mono fun e w' ⟨⟨v, u, h3, h4, h5⟩, h6⟩ => ⟨v, u, h3, h4, h5, h6⟩)
          have HWV' := Lib.hid HWV.out
          clear HWV
          obtain ⟨⟨p0, p1⟩, _⟩ := T4.out.cells
          generalize setL l nm (sortN V) = T at *
          go_wp2_with fail
          clear p0 p1
          refine HWV'.out.mono ?_
          rintro e w6 ⟨v6, u6, rfl, ho6, ha6, hb6⟩
          obtain ⟨d0, dc, rfl⟩ := own_slice ho6
          obtain ⟨a0, ac, rfl⟩ : ∃ a0 ac, u6 = .slice a0 T.length ac := (by obtain ⟨P, _, h2, _⟩ := ha6; exact own_slice h2)
          have O6 := Lib.hid ho6; have A6 := Lib.hid ha6
          have U6 := Lib.hid (U4.out.below hb6)
          clear ho6 ha6
          obtain ⟨⟨k0, k1, k2⟩, f0, f1, f2⟩ := U6.out.cells
          obtain ⟨⟨q0, q1, q2⟩, _⟩ := (((U6.out.set0 (.slice d0 d.length dc)).set1 (.slice a0 T.length ac)).set2 (.int .i64 0)).cells
          have B6 := Lib.hid (B4.out.trans (hb6.mono B4.out.size))
          clear SK hbd hb6
          go_wp2_with fail
          refine bodyPost_ret (v := .agg #[.slice d0 d.length dc, .slice a0 T.length ac, .int .i64 0]) (by simp [results, Tryz.results21, go_sem, q0, q1, q2]) rfl ?_
          rw [HO.out]
          refine ⟨⟨d0, dc, a0, ac, rfl, ?_, ?_⟩, below_three B6.out _ _ _⟩
          · exact own_mono (own_cellOut (own_cellOut (own_cellOut O6.out (by omega)) (by omega)) (by omega)) B4.out.size
          · exact (((A6.out.cellOut (by omega)).cellOut (by omega)).cellOut (by omega)).mono B4.out.size
        · have hpos : 0 < V.length := List.length_pos_iff.2 hV0
          have g0 : 0 < (V.length : Int) := by omega
          go_wp2_with fail
          refine (lacksRoom_any ao bo d l ca cb nm w3 (HD.out.below B3.out) (HL.out.below B3.out) FD.out FL.out Hn.out).mono ?_
          rintro e w4 ⟨rfl, b4⟩
          have B4 := Lib.hid (B3.out.trans (b4.mono B3.out.size)); have T4 := Lib.hid (T3.out.below b4); have U4 := Lib.hid (U3.out.below b4)
          clear b4 p0 p1
          cases hk : lackB d l nm
          · have HO := Lib.hid (HO0'.out (fun h => by rw [hk] at h; cases h.2))
            clear HO9' HO0'
            have hw1 := T4.out.lt
            have hw1' := U4.out.lt
            have SK : Hid (∀ Z : World, Below (w.heap.size + 1) w4 Z → (Z.cell? ⟨w.heap.size, 0, none⟩ = some (.slice ao d.length ca) ∧ Z.cell? ⟨w.heap.size, 1, none⟩ = some (.slice bo l.length cb))) :=
              Lib.hid (fun Z h => ⟨(h.cell (p := ⟨w.heap.size, 0, none⟩) (Nat.lt_succ_self _)).trans T4.out.cells.1.1, (h.cell (p := ⟨w.heap.size, 1, none⟩) (Nat.lt_succ_self _)).trans T4.out.cells.1.2⟩)
            have hbd : Below (w.heap.size + 1) w4 w4.drew := (Below.refl _ _).drew
            have HWV : Hid (Calls Tryz.prog 50 #[.agg #[.slice ao d.length ca, .slice bo l.length cb], .string nm, .slice vo V.length vc] w4 fun e w' => ∃ v u, e = .returned (.agg #[v, u]) ∧ w'.ownsRow w4.heap.size 97 2 v d.length (rs d) ∧ AttrsOwn w' w4.heap.size u (setL l nm (sortN V)) ∧ Below w4.heap.size w4 w') :=
              Lib.hid ((withV_any ao bo vo d l V ca cb vc nm w4 (HD.out.below B4.out) (HL.out.below B4.out) FD.out FL.out HR.out h8 (by omega) (HV.out.below B4.out) FV.out (by omega) (canB_parts HCn.out).2).mono fun e w' ⟨⟨v, u, h3, h4, h5⟩, h6⟩ => ⟨v, u, h3, h4, h5, h6⟩)
            have HWV' := Lib.hid HWV.out
            clear HWV
            obtain ⟨⟨p0, p1⟩, _⟩ := T4.out.cells
            generalize setL l nm (sortN V) = T at *
            go_wp2_with fail
            clear p0 p1
            refine HWV'.out.mono ?_
            rintro e w6 ⟨v6, u6, rfl, ho6, ha6, hb6⟩
            obtain ⟨d0, dc, rfl⟩ := own_slice ho6
            obtain ⟨a0, ac, rfl⟩ : ∃ a0 ac, u6 = .slice a0 T.length ac := (by obtain ⟨P, _, h2, _⟩ := ha6; exact own_slice h2)
            have O6 := Lib.hid ho6; have A6 := Lib.hid ha6
            have U6 := Lib.hid (U4.out.below hb6)
            clear ho6 ha6
            obtain ⟨⟨k0, k1, k2⟩, f0, f1, f2⟩ := U6.out.cells
            obtain ⟨⟨q0, q1, q2⟩, _⟩ := (((U6.out.set0 (.slice d0 d.length dc)).set1 (.slice a0 T.length ac)).set2 (.int .i64 0)).cells
            have B6 := Lib.hid (B4.out.trans (hb6.mono B4.out.size))
            clear SK hbd hb6
            go_wp2_with fail
            refine bodyPost_ret (v := .agg #[.slice d0 d.length dc, .slice a0 T.length ac, .int .i64 0]) (by simp [results, Tryz.results21, go_sem, q0, q1, q2]) rfl ?_
            rw [HO.out]
            refine ⟨⟨d0, dc, a0, ac, rfl, ?_, ?_⟩, below_three B6.out _ _ _⟩
            · exact own_mono (own_cellOut (own_cellOut (own_cellOut O6.out (by omega)) (by omega)) (by omega)) B4.out.size
            · exact (((A6.out.cellOut (by omega)).cellOut (by omega)).cellOut (by omega)).mono B4.out.size
          · have HO := Lib.hid (HO9'.out hV0 hk)
            clear HO9' HO0'
            obtain ⟨⟨k0, k1, k2⟩, f0, f1, f2⟩ := U4.out.cells
            obtain ⟨⟨q0, q1, q2⟩, _⟩ := (((U4.out.set0 (.slice none 0 0)).set1 (.slice none 0 0)).set2 (.int .i64 9)).cells
            go_wp2_with fail
            refine bodyPost_ret (v := failV 9) (by simp [results, Tryz.results21, go_sem, q0, q1, q2, failV]) rfl ?_
            rw [HO.out]
            exact implOut_fail (below_three B4.out _ _ _)
end Go.Proofs.YtjajpdghamecoaaGreat
