/- Merged texts: DDraw2, SpDrop, SpDrop3. -/
import Derived.Test.YtjajpdghamecoaaGreatM17
import Derived.Test.YtjajpdghamecoaaGreatM14
import Derived.Test.YtjajpdghamecoaaGreatM12
/- The draws of the law FnEntry: the other two. -/
namespace Go.Proofs.YtjajpdghamecoaaGreat
open Go.RowKit
attribute [local go_sem ↓] Go.wp_at_zero Go.wp_at_succ

set_option maxRecDepth 100000 in
set_option maxHeartbeats 4000000 in
theorem DrawHasValue_any (ao : Option Addr) (len cap : Nat) (w : World) (hR : Row w w.heap.size ao len) (hl : len ≤ 1048576) :
    Calls Tryz.prog 12 #[.slice ao len cap] w fun e w' => SomeThree w e w' ∧ Below w.heap.size w w' := by
  have HR : Hid (Row (w.alloc (.cells #[.slice none 0 0, .slice none 0 0] 26)) (w.alloc (.cells #[.slice none 0 0, .slice none 0 0] 26)).heap.size ao len) := Lib.hid (row_more hR (by simp) (fun k hk => Below.heap_alloc _ _ _ hk))
  clear hR
  go_enter Tryz.func12, Tryz.ntmps12
  go_wp2_with fail
  refine (l01Source_any ao len cap _ HR.out hl).mono ?_
  rintro e w1 ⟨rfl, hg1, hw1⟩
  have T1 : Hid (Two w1 w.heap.size 26 (.slice none 0 0) (.slice none 0 0)) := Lib.hid ((hw1.block w.heap.size (by simp) (by simp)).trans (twoNew w 26 _ _))
  have B1 : Hid (Below w.heap.size w w1) := Lib.hid ((more (Below.refl _ _) _).trans ((below_of_grown hw1).mono (by simp)))
  rw [size_up] at hg1 ⊢
  have hq : w.heap.size < w.heap.size + 1 := Nat.lt_succ_self _
  have HG1 := Lib.hid hg1
  clear hg1 hw1 HR
  generalize w.heap.size + 1 = q at *
  have hq1 : q < w1.heap.size := HG1.out.lt
  go_wp2_with fail
  refine (l03Entry_any q w1 HG1.out).mono ?_
  rintro e w2 ⟨⟨d, l, vo, ao1, vc, ac, rfl, o2, a2, hd, hsh, hsm⟩, s2⟩
  have T2 := Lib.hid ((two_still T1.out s2 (by omega)).alloc (.cells #[.slice vo d.length vc, .slice ao1 l.length ac] 26))
  have B2 := Lib.hid (more (B1.out.grown s2.2 B1.out.size (fun k hk => by injection hk with hk; omega)) (.cells #[.slice vo d.length vc, .slice ao1 l.length ac] 26))
  have hal := more (Below.refl w2.heap.size w2) (.cells #[.slice vo d.length vc, .slice ao1 l.length ac] 26)
  have O2 := Lib.hid (own_below (own_mono o2 (show q + 1 ≤ _ by omega)) hal); have A2 := Lib.hid ((a2.mono (show q + 1 ≤ _ by omega)).below hal)
  have G2 := Lib.hid (((Still.refl s2.1).alloc s2.1.lt #[.slice vo d.length vc, .slice ao1 l.length ac] 26).1)
  have E2 := Lib.hid (twoNew w2 26 (.slice vo d.length vc) (.slice ao1 l.length ac))
  have hE : q < w2.heap.size := s2.1.lt
  have HSh := Lib.hid hsh; have HSm := Lib.hid hsm
  clear o2 a2 hsh hsm s2 hal T1 B1 HG1
  go_wp2_with fail
  refine calls_any' (fun W => Good W q ∧ Two W w.heap.size 26 (.slice none 0 0) (.slice none 0 0) ∧ Below w.heap.size w W ∧ W.ownsRow (q + 1) 97 2 (.slice vo d.length vc) d.length (rs d) ∧ AttrsRow W (q + 1) (.slice ao1 l.length ac) l ∧ Two W w2.heap.size 26 (.slice vo d.length vc) (.slice ao1 l.length ac)) ⟨G2.out, T2.out, B2.out, O2.out, A2.out, E2.out⟩ ?_
  clear G2 T2 B2 O2 A2 E2
  generalize w2.heap.size = E at *
  rintro w3 ⟨hgW, tW, hbase, oW, aW, eW⟩
  have G3 := Lib.hid hgW; have T3 := Lib.hid tW; have HE := Lib.hid eW; have O3 := Lib.hid oW; have A3 := Lib.hid aW
  clear hgW tW oW aW eW
  have hq3 : q < w3.heap.size := G3.out.lt
  have sd : Still q w3 w3.drew := still_drew G3.out
  refine (l03Name_any q w3 G3.out).mono ?_
  rintro e w4 ⟨⟨A, rfl, zA0⟩, s4⟩
  have zA : A.size ≤ 41 := by omega
  have T4 := Lib.hid (two_still T3.out s4 (by omega)); have HE4 := Lib.hid (two_still HE.out s4 (by omega))
  have O4 := Lib.hid (O3.out.kept s4.2 (own_not O3.out (Nat.lt_succ_self q))); have A4 := Lib.hid (A3.out.kept s4.2 (Nat.lt_succ_self q))
  have hbase4 : Below w.heap.size w w4 := hbase.grown s4.2 hbase.size (fun k hk => by injection hk with hk; omega)
  have G4 := Lib.hid s4.1
  clear s4 T3 HE O3 A3 hbase G3 sd hq3
  have sd4 : Still q w4 w4.drew := still_drew G4.out
  have SK4 : Hid (∀ Z : World, Still q w4 Z → (Z.cell? ⟨E, 0, none⟩ = some (.slice vo d.length vc) ∧ Z.cell? ⟨E, 1, none⟩ = some (.slice ao1 l.length ac))) := Lib.hid (fun Z h => (two_still HE4.out h (by omega)).cells.1)
  have HVl : Hid (Calls Tryz.prog 46 #[.pointer (some ⟨q, 0, none⟩)] w4.drew fun e w' => TextTo 40 e ∧ Still q w4 w') := Lib.hid ((l03Value_any q w4.drew sd4.1).mono fun e w' ⟨a, b⟩ => ⟨a, sd4.trans b⟩)
  go_wp2_with fail
  refine wp_region_held_drew (S := (fun Z => Z.cell? ⟨E, 0, none⟩ = some (.slice vo d.length vc) ∧ Z.cell? ⟨E, 1, none⟩ = some (.slice ao1 l.length ac))) (by kernel_rfl) ?_ (fun hHeld => ?_)
  · (try dsimp only)
    first | exact SK4.out _ (by assumption) | exact SK4.out _ sd4 | exact hSf _ _
  refine wpAnyH_take (i := 0) (oi := { dst := some 14, op := Op.load 26 (Operand.tmp 6), type := 26, pos := "l03_entry.go:348", after := #[], guard := none }) (v := ?_) rfl (by kernel_rfl) (by kernel_rfl) (by kernel_rfl) (fun _ _ _ h => h) (Or.inl ⟨by rfl, ?_⟩) (by assumption) ?_
  rotate_left
  · intro w hSw; (try dsimp only at hSw); go_simp; (try with_reducible rfl)
  (try simp only [Act.put, List.setIfInBounds_toArray, List.set_cons_zero, List.set_cons_succ])
  refine wpAnyH_take (i := 1) (oi := { dst := some 15, op := Op.move (Operand.tmp 7), type := 9, pos := "l03_entry.go:348", after := #[{ on := 4, ground := Ground.gcOnly Departure.lateStores }], guard := none }) (v := ?_) rfl (by kernel_rfl) (by kernel_rfl) (by kernel_rfl) (fun _ _ _ h => h) (Or.inl ⟨by rfl, ?_⟩) (by assumption) ?_
  rotate_left
  · intro w hSw; (try dsimp only at hSw); go_simp; (try with_reducible rfl)
  (try simp only [Act.put, List.setIfInBounds_toArray, List.set_cons_zero, List.set_cons_succ])
  refine wpAnyH_take (i := 2) (oi := { dst := some 16, op := Op.move (Operand.tmp 5), type := 61, pos := "l03_entry.go:348", after := #[], guard := none }) (v := ?_) rfl (by kernel_rfl) (by kernel_rfl) (by kernel_rfl) (fun _ _ _ h => h) (Or.inl ⟨by rfl, ?_⟩) (by assumption) ?_
  rotate_left
  · intro w hSw; (try dsimp only at hSw); go_simp; (try with_reducible rfl)
  (try simp only [Act.put, List.setIfInBounds_toArray, List.set_cons_zero, List.set_cons_succ])
  refine wpAnyH_ready (rs := [3]) (by kernel_rfl) (by simp) ?_
  refine AllReadyH.cons (o := { dst := some 17, op := Op.call { callee := Callee.value (Operand.func 46), args := #[Operand.tmp 16], argTypes := #[61] }, type := 9, pos := "l03_entry.go:348", after := #[{ on := 2, ground := Ground.data }], guard := none }) rfl (fun K hK => ?_) (AllReadyH.nil)
  go_simp
  refine (HVl.out).mono ?_
  rintro e w5 ⟨⟨B, rfl, zB0⟩, s5⟩
  have zB : B.size ≤ 41 := by omega
  clear hHeld
  refine hK.out _ _ ?_ (fun hHeld => ?_)
  · (try dsimp only)
    first | exact SK4.out _ (by assumption) | exact SK4.out _ sd4 | exact hSf _ _
  clear hK K
  (try simp only [Act.put, List.setIfInBounds_toArray, List.set_cons_zero, List.set_cons_succ])
  refine wpAnyH_ready (rs := [4]) (by kernel_rfl) (by simp) ?_
  refine AllReadyH.cons (o := { dst := none, op := Op.store 26 (Operand.tmp 2) (Operand.tmp 14), type := 0, pos := "l03_entry.go:348", after := #[{ on := 0, ground := Ground.data }, { on := 3, ground := Ground.chain }, { on := 0, ground := Ground.phase }, { on := 1, ground := Ground.textOnly Departure.lateStores }, { on := 2, ground := Ground.textOnly Departure.lateStores }, { on := 3, ground := Ground.textOnly Departure.lateStoresUnsure }], guard := none }) rfl (fun K hK => ?_) (AllReadyH.nil)
  have T9 := two_still T4.out s5 (by omega)
  obtain ⟨⟨r0, r1⟩, rf0, rf1⟩ := T9.cells
  have E9 := two_still HE4.out s5 (by omega)
  have hSf : ∀ x y : Value, ((w5.setCell ⟨w.heap.size, 0, none⟩ x).setCell ⟨w.heap.size, 1, none⟩ y).cell? ⟨E, 0, none⟩ = some (.slice vo d.length vc) ∧ ((w5.setCell ⟨w.heap.size, 0, none⟩ x).setCell ⟨w.heap.size, 1, none⟩ y).cell? ⟨E, 1, none⟩ = some (.slice ao1 l.length ac) := fun x y => ((E9.far (by omega) x).far (by omega) y).cells.1
  go_simp
  clear hHeld
  refine hK.out _ _ ?_ (fun hHeld => ?_)
  · (try dsimp only)
    first | exact SK4.out _ (by assumption) | exact SK4.out _ sd4 | exact hSf _ _
  clear hK K
  (try simp only [Act.put, List.setIfInBounds_toArray, List.set_cons_zero, List.set_cons_succ])
  refine wpAnyH_take (i := 5) (oi := { dst := some 3, op := Op.assign (Operand.tmp 15), type := 9, pos := "l03_entry.go:348", after := #[{ on := 1, ground := Ground.data }, { on := 4, ground := Ground.chain }, { on := 0, ground := Ground.phase }, { on := 1, ground := Ground.phase }, { on := 2, ground := Ground.textOnly Departure.lateStores }, { on := 3, ground := Ground.textOnly Departure.lateStoresUnsure }, { on := 4, ground := Ground.phase }], guard := none }) (v := ?_) rfl (by kernel_rfl) (by kernel_rfl) (by kernel_rfl) (fun _ _ _ h => h) (Or.inl ⟨by rfl, ?_⟩) (by assumption) ?_
  rotate_left
  · intro w hSw; (try dsimp only at hSw); go_simp; (try with_reducible rfl)
  (try simp only [Act.put, List.setIfInBounds_toArray, List.set_cons_zero, List.set_cons_succ])
  refine wpAnyH_take (i := 6) (oi := { dst := some 4, op := Op.assign (Operand.tmp 17), type := 9, pos := "l03_entry.go:348", after := #[{ on := 3, ground := Ground.data }, { on := 5, ground := Ground.chain }, { on := 0, ground := Ground.phase }, { on := 1, ground := Ground.phase }, { on := 2, ground := Ground.phase }, { on := 3, ground := Ground.phase }, { on := 4, ground := Ground.phase }, { on := 5, ground := Ground.phase }], guard := none }) (v := ?_) rfl (by kernel_rfl) (by kernel_rfl) (by kernel_rfl) (fun _ _ _ h => h) (Or.inl ⟨by rfl, ?_⟩) (by assumption) ?_
  rotate_left
  · intro w hSw; (try dsimp only at hSw); go_simp; (try with_reducible rfl)
  (try simp only [Act.put, List.setIfInBounds_toArray, List.set_cons_zero, List.set_cons_succ])
  refine wpAnyH_done (by kernel_rfl) ?_ _
  clear hHeld hSf
  obtain ⟨⟨z0, z1⟩, _⟩ := ((T9.set0 (.slice vo d.length vc)).set1 (.slice ao1 l.length ac)).cells
  have HF := Lib.hid (fin3 (nm := A) (val := B) hbase4 hq T4.out T9 s5 O4.out A4.out hd HSh.out HSm.out zA zB)
  go_wp2_with fail
  exact bodyPost_ret (v := .tuple #[.agg #[.slice vo d.length vc, .slice ao1 l.length ac], .string A, .string B]) (by simp [results, Tryz.results12, go_sem, z0, z1]) rfl HF.out
set_option maxRecDepth 100000 in
set_option maxHeartbeats 1000000 in
theorem DrawValueDrop_any (ao : Option Addr) (len cap : Nat) (w : World) (hR : Row w w.heap.size ao len) (hl : len ≤ 1048576) :
    Calls Tryz.prog 10 #[.slice ao len cap] w fun e w' => SomeThree w e w' ∧ Below w.heap.size w w' := by
  have HR : Hid (Row (w.alloc (.cells #[.slice none 0 0, .slice none 0 0] 26)) (w.alloc (.cells #[.slice none 0 0, .slice none 0 0] 26)).heap.size ao len) := Lib.hid (row_more hR (by simp) (fun k hk => Below.heap_alloc _ _ _ hk))
  clear hR
  go_enter Tryz.func10, Tryz.ntmps10
  go_wp2_with fail
  refine (DrawValueAdd_any ao len cap _ HR.out hl).mono ?_
  rintro e w1 ⟨⟨d, l, vo, ao1, vc, ac, nm, val, rfl, o1, a1, hd, hsh, hsm, hn, hv⟩, b1⟩
  have T1 := Lib.hid ((twoNew w 26 (.slice none 0 0) (.slice none 0 0)).below b1)
  have B1 := Lib.hid ((more (Below.refl _ _) _).trans (b1.mono (by simp)))
  rw [size_up] at o1 a1
  have O1 := Lib.hid o1; have A1 := Lib.hid a1; have HSh := Lib.hid hsh; have HSm := Lib.hid hsm
  clear o1 a1 b1 hsh hsm HR
  obtain ⟨⟨r0, r1⟩, rf0, rf1⟩ := T1.out.cells
  obtain ⟨⟨z0, z1⟩, _⟩ := ((T1.out.set0 (.slice vo d.length vc)).set1 (.slice ao1 l.length ac)).cells
  go_wp2_with fail
  refine bodyPost_ret (v := .tuple #[.agg #[.slice vo d.length vc, .slice ao1 l.length ac], .string nm, .string val]) (by simp [results, Tryz.results10, go_sem, z0, z1]) rfl ⟨⟨d, l, vo, ao1, vc, ac, nm, val, rfl, ?_, ?_, hd, HSh.out, HSm.out, hn, hv⟩, ?_⟩
  · exact own_mono (own_cellOut (own_cellOut O1.out (Nat.lt_succ_self _)) (Nat.lt_succ_self _)) (Nat.le_succ _)
  · exact ((A1.out.cellOut (Nat.lt_succ_self _)).cellOut (Nat.lt_succ_self _)).mono (Nat.le_succ _)
  · exact (B1.out.setCell (p := ⟨w.heap.size, 0, none⟩) (Nat.le_refl _) _).setCell (p := ⟨w.heap.size, 1, none⟩) (Nat.le_refl _) _
end Go.Proofs.YtjajpdghamecoaaGreat
/- l03Drop: what the specification's text returns. -/
namespace Go.Proofs.YtjajpdghamecoaaGreat
open Go.RowKit
attribute [local go_sem ↓] Go.wp_at_zero Go.wp_at_succ

set_option maxRecDepth 100000 in
set_option maxHeartbeats 1000000 in
theorem l03Drop_any (ao bo : Option Addr) (d : RdnL) (l : List AttrV) (ca cb : Nat) (nm val : ByteArray) (w : World) (hd : DnAt w ao d) (hl : AttrsAt w bo l) (hfd : Fits d) (hfl : FitsA l) (hn : nm.size ≤ 8000) (hv : val.size ≤ 8000) (hc : vcode (rightB d l) nm val = 0) :
    Calls Tryz.prog 58 #[.agg #[.slice ao d.length ca, .slice bo l.length cb], .string nm, .string val] w (SpecOut w (dropR d l nm val)) := by
  obtain ⟨z1, _, _, _, _⟩ := vcode_zero hc
  have h8 := right_eight z1
  have hin := right_inc z1
  have hdp : 0 < d.length := by unfold rightB at z1; simp only [Bool.and_eq_true, decide_eq_true_eq] at z1; exact z1.1.2
  have hac : ao = none → ca = 0 := fun e => by
    subst e
    rcases hd with h | ⟨b, off, e, _⟩
    · rw [h] at hdp; simp at hdp
    · cases e
  have HA : Hid (attrOfL d l nm = valsOf l nm) := Lib.hid (attrOf_yes z1 nm)
  have h4 : (valsOf l nm).length ≤ 4 := by rw [← HA.out]; exact attrOf_four nm
  have HO6 : Hid (findI (likeV val) (valsOf l nm) < 0 → dropR d l nm val = (6, [], [])) := Lib.hid (fun h => by unfold dropR; rw [if_neg (by simpa using hc), if_pos (by rw [HA.out]; exact h)])
  have HO0 : Hid (∀ k : Nat, findI (likeV val) (valsOf l nm) = (k : Int) → dropR d l nm val = (0, d, setL l nm (sortN (eraseV (valsOf l nm) k)))) := Lib.hid (fun k h => by
    unfold dropR; rw [if_neg (by simpa using hc), HA.out, if_neg (by omega), h]; rfl)
  have HV1 := Lib.hid (valsOf_fits hfl nm)
  have HD := Lib.hid hd; have HL := Lib.hid hl; have FD := Lib.hid hfd; have FL := Lib.hid hfl; have HI := Lib.hid hin; clear hd hl hfd hfl hc z1 hin HA
  go_enter Tryz.func58, Tryz.ntmps58
  go_wp2_with fail
  refine calls_any' (fun W => Below w.heap.size w W ∧ Two W w.heap.size 26 (.slice ao d.length ca) (.slice bo l.length cb) ∧ Three W (w.heap.size + 1) 30 (.slice none 0 0) (.slice none 0 0) (.int .i64 0)) ⟨more (more (Below.refl _ _) _) _, (twoNew w 26 _ _).alloc _, threeNext w _ 30 _ _ _⟩ ?_
  rintro W ⟨hbW, t0, t1⟩
  refine (l03Of_any ao bo d l ca cb nm W (HL.out.below hbW) FL.out).mono ?_
  rintro e w1 ⟨⟨lo, lc, rfl, hva⟩, hb1⟩
  have B1 := Lib.hid (hbW.trans (hb1.mono hbW.size)); have T1 := Lib.hid (t0.below hb1); have U1 := Lib.hid (t1.below hb1); have VA := Lib.hid hva
  clear hbW t0 t1 hb1 hva
  generalize valsOf l nm = L at *
  go_wp2_with fail
  refine (SpecNorm_any val w1 (by unfold maxLen; omega)).mono ?_
  rintro e w2 ⟨rfl, hb2⟩
  have B2 := Lib.hid (B1.out.trans (hb2.mono B1.out.size)); have T2 := Lib.hid (T1.out.below hb2); have U2 := Lib.hid (U1.out.below hb2); have VA2 := Lib.hid (VA.out.below hb2)
  clear hb2 B1 T1 U1 VA
  go_wp2_with fail
  refine (l03In_any lo L lc val w2 VA2.out.1 HV1.out).mono ?_
  rintro e w3 ⟨rfl, hb3⟩
  have B3 := Lib.hid (B2.out.trans (hb3.mono B2.out.size)); have T3 := Lib.hid (T2.out.below hb3); have U3 := Lib.hid (U2.out.below hb3); have VA3 := Lib.hid (VA2.out.below hb3)
  clear hb3 B2 T2 U2 VA2
  have hw1 : w.heap.size + 1 < w3.heap.size := U3.out.lt
  by_cases hi : findI (likeV val) L < 0
  · have HO := Lib.hid (HO6.out hi)
    clear HO6 HO0
    generalize findI (likeV val) L = q at *
    go_wp2_with fail
    refine (l03Ill_any 6 w3).mono ?_
    rintro e w4 ⟨rfl, hb4⟩
    have U4 := Lib.hid (U3.out.below hb4); have B4 := Lib.hid (B3.out.trans (hb4.mono B3.out.size))
    clear hb4
    obtain ⟨⟨k0, k1, k2⟩, f0, f1, f2⟩ := U4.out.cells
    obtain ⟨⟨q0, q1, q2⟩, _⟩ := (((U4.out.set0 (.slice none 0 0)).set1 (.slice none 0 0)).set2 (.int .i64 6)).cells
    unfold failV
    go_wp2_with fail
    refine bodyPost_ret (v := failV 6) (by simp [results, Tryz.results58, go_sem, q0, q1, q2, failV]) rfl ?_
    rw [HO.out]
    exact specOut_fail (below_three B4.out _ _ _)
  · obtain ⟨k, hk, hke⟩ := findI_at hi
    have HOut := Lib.hid (HO0.out k hke)
    clear HO6 HO0
    rw [hke]
    clear hi hke
    obtain ⟨b0, o0, rfl, _, _⟩ := VA3.out.1.at hk
    have hlcap := VA3.out.2.1
    have hcut1 := head36 ⟨b0, o0, none⟩ L.length k lc (by omega)
    obtain ⟨a2, hcut2, hcs2⟩ := tail36 w3 ⟨b0, o0, none⟩ L (k + 1) lc (by omega) hlcap VA3.out.1
    rw [show (((k + 1 : Nat)) : Int) = (k : Int) + 1 by omega] at hcut2
    have HTk : Hid (StrsAt w3 (some ⟨b0, o0, none⟩) (L.take k)) := Lib.hid (VA3.out.1.take k)
    have HTd := Lib.hid hcs2
    clear hcs2
    have hwr : IntKind.i64.wrap ((k : Int) + 1) = (k : Int) + 1 := IntWalk.i64_in _ (by omega)
    have g0 : ¬ (k : Int) < 0 := by omega
    have HLs : (L.take k ++ L.drop (k + 1)).length = L.length - 1 := eraseV_len hk
    have hLk : Hid (k = (L.take k).length) := Lib.hid (by rw [List.length_take]; omega)
    have hLd : Hid (L.length - (k + 1) = (L.drop (k + 1)).length) := Lib.hid (by rw [List.length_drop])
    have hlenL : ([] : List ByteArray).length + (L.take k).length ≤ 1000000000 := by simp; omega
    have hlen1 : (L.take k).length + (L.drop (k + 1)).length ≤ 1000000000 := by simp; omega
    have HEl := Lib.hid (eraseV_len hk)
    have HSet0 : Hid (∀ (X : World) (yo : Option Addr) (yc : Nat), Below w3.heap.size w3 X → StrsAt X yo (eraseV L k) → Calls Tryz.prog 101 #[.agg #[.slice ao d.length ca, .slice bo l.length cb], .string nm, .slice yo (L.length - 1) yc] X fun e w' => (∃ po pc qo qc, e = .returned (.agg #[.slice po d.length pc, .slice qo (setL l nm (sortN (eraseV L k))).length qc]) ∧ w'.ownsRow w3.heap.size 97 2 (.slice po d.length pc) d.length (rs d) ∧ AttrsRow w' w3.heap.size (.slice qo (setL l nm (sortN (eraseV L k))).length qc) (setL l nm (sortN (eraseV L k)))) ∧ Below w3.heap.size w3 w') :=
      Lib.hid (fun X yo yc hX hy => by
        have := l03Set_any ao bo yo d l (eraseV L k) ca cb yc nm X (HD.out.below (B3.out.trans (hX.mono B3.out.size))) (HL.out.below (B3.out.trans (hX.mono B3.out.size))) hy FD.out FL.out (erase_fits HV1.out k) (by omega) (by rw [HEl.out]; omega) hac HI.out
        rw [HEl.out] at this
        exact this.mono fun e w' ⟨⟨po, pc, qo, qc, e1, e2, e3⟩, e4⟩ => ⟨⟨po, pc, qo, qc, e1, own_mono e2 hX.size, e3.mono hX.size⟩, hX.trans (e4.mono hX.size)⟩)
    have HSet := Lib.hid HSet0.out
    clear HSet0
    generalize setL l nm (sortN (eraseV L k)) = T at *
    have SK : Hid (∀ Z : World, Below (w.heap.size + 1) w3 Z → (Z.cell? ⟨w.heap.size, 0, none⟩ = some (.slice ao d.length ca) ∧ Z.cell? ⟨w.heap.size, 1, none⟩ = some (.slice bo l.length cb))) :=
      Lib.hid (fun Z h => ⟨(h.cell (p := ⟨w.heap.size, 0, none⟩) (Nat.lt_succ_self _)).trans T3.out.cells.1.1, (h.cell (p := ⟨w.heap.size, 1, none⟩) (Nat.lt_succ_self _)).trans T3.out.cells.1.2⟩)
    have hw1' : w.heap.size + 1 ≤ w3.heap.size := Nat.le_of_lt hw1
    have hbd0 : Below w3.heap.size w3 w3.drew := (Below.refl _ _).drew
    have hbz1 : Below w3.heap.size w3 (w3.drew.alloc (.cells #[] 9)) := more hbd0 _
    have OZ1 : Hid ((w3.drew.alloc (.cells #[] 9)).ownsRow w3.heap.size 9 1 (.slice (some ⟨w3.heap.size, 0, none⟩) 0 0) ([] : List ByteArray).length (ss [])) := Lib.hid (own_zero w3.drew rfl (Nat.le_refl _))
    have HVa : Hid (StrsAt (w3.drew.alloc (.cells #[] 9)) (some ⟨b0, o0, none⟩) (L.take k)) := Lib.hid (HTk.out.below hbz1)
    have hs1 : w3.heap.size ≤ (w3.drew.alloc (.cells #[] 9)).heap.size := hbz1.size
    go_wp2_with fail
    refine wp_region_held_drew (S := (fun Z => Z.cell? ⟨w.heap.size, 0, none⟩ = some (.slice ao d.length ca) ∧ Z.cell? ⟨w.heap.size, 1, none⟩ = some (.slice bo l.length cb))) (by kernel_rfl) ?_ (fun hHeld => ?_)
    · (try dsimp only)
      first | exact SK.out _ (Below.mono (by assumption) hw1') | exact SK.out _ (hbz1.mono hw1') | exact SK.out _ (below_three' hb8 hw1' _ _ _)
    refine wpAnyH_take (i := 0) (oi := { dst := some 19, op := Op.load 26 (Operand.tmp 3), type := 26, pos := "l03_entry.go:158", after := #[], guard := none }) (v := ?_) rfl (by kernel_rfl) (by kernel_rfl) (by kernel_rfl) (fun _ _ _ h => h) (Or.inl ⟨by rfl, ?_⟩) (by assumption) ?_
    rotate_left
    · intro w hSw; (try dsimp only at hSw); go_simp; (try with_reducible rfl)
    (try simp only [Act.put, List.setIfInBounds_toArray, List.set_cons_zero, List.set_cons_succ])
    refine wpAnyH_take (i := 1) (oi := { dst := some 20, op := Op.move (Operand.tmp 1), type := 9, pos := "l03_entry.go:158", after := #[], guard := none }) (v := ?_) rfl (by kernel_rfl) (by kernel_rfl) (by kernel_rfl) (fun _ _ _ h => h) (Or.inl ⟨by rfl, ?_⟩) (by assumption) ?_
    rotate_left
    · intro w hSw; (try dsimp only at hSw); go_simp; (try with_reducible rfl)
    (try simp only [Act.put, List.setIfInBounds_toArray, List.set_cons_zero, List.set_cons_succ])
    refine wpAnyH_take (i := 3) (oi := { dst := some 22, op := Op.move (Operand.tmp 7), type := 36, pos := "l03_entry.go:158", after := #[], guard := none }) (v := ?_) rfl (by kernel_rfl) (by kernel_rfl) (by kernel_rfl) (fun _ _ _ h => h) (Or.inl ⟨by rfl, ?_⟩) (by assumption) ?_
    rotate_left
    · intro w hSw; (try dsimp only at hSw); go_simp; (try with_reducible rfl)
    (try simp only [Act.put, List.setIfInBounds_toArray, List.set_cons_zero, List.set_cons_succ])
    refine wpAnyH_take (i := 4) (oi := { dst := some 23, op := Op.move (Operand.tmp 8), type := 3, pos := "l03_entry.go:158", after := #[], guard := none }) (v := ?_) rfl (by kernel_rfl) (by kernel_rfl) (by kernel_rfl) (fun _ _ _ h => h) (Or.inl ⟨by rfl, ?_⟩) (by assumption) ?_
    rotate_left
    · intro w hSw; (try dsimp only at hSw); go_simp; (try with_reducible rfl)
    (try simp only [Act.put, List.setIfInBounds_toArray, List.set_cons_zero, List.set_cons_succ])
    refine wpAnyH_take (i := 5) (oi := { dst := some 24, op := Op.slice 36 (Operand.tmp 22) none (some (Operand.tmp 23)) none, type := 36, pos := "l03_entry.go:158", after := #[{ on := 3, ground := Ground.data }, { on := 4, ground := Ground.data }], guard := none }) (v := ?_) rfl (by kernel_rfl) (by kernel_rfl) (by kernel_rfl) (fun _ _ _ h => h) (Or.inl ⟨by rfl, ?_⟩) (by assumption) ?_
    rotate_left
    · intro w hSw; (try dsimp only at hSw); go_simp; (try with_reducible rfl)
    (try simp only [Act.put, List.setIfInBounds_toArray, List.set_cons_zero, List.set_cons_succ])
    refine wpAnyH_take (i := 7) (oi := { dst := some 26, op := Op.move (Operand.tmp 7), type := 36, pos := "l03_entry.go:158", after := #[], guard := none }) (v := ?_) rfl (by kernel_rfl) (by kernel_rfl) (by kernel_rfl) (fun _ _ _ h => h) (Or.inl ⟨by rfl, ?_⟩) (by assumption) ?_
    rotate_left
    · intro w hSw; (try dsimp only at hSw); go_simp; (try with_reducible rfl)
    (try simp only [Act.put, List.setIfInBounds_toArray, List.set_cons_zero, List.set_cons_succ])
    refine wpAnyH_take (i := 8) (oi := { dst := some 27, op := Op.move (Operand.tmp 8), type := 3, pos := "l03_entry.go:158", after := #[], guard := none }) (v := ?_) rfl (by kernel_rfl) (by kernel_rfl) (by kernel_rfl) (fun _ _ _ h => h) (Or.inl ⟨by rfl, ?_⟩) (by assumption) ?_
    rotate_left
    · intro w hSw; (try dsimp only at hSw); go_simp; (try with_reducible rfl)
    (try simp only [Act.put, List.setIfInBounds_toArray, List.set_cons_zero, List.set_cons_succ])
    refine wpAnyH_take (i := 9) (oi := { dst := some 28, op := Op.binOp BinOp.add 3 (Operand.tmp 27) (Operand.const (Value.int IntKind.i64 1)) 3, type := 3, pos := "l03_entry.go:158", after := #[{ on := 8, ground := Ground.data }], guard := none }) (v := ?_) rfl (by kernel_rfl) (by kernel_rfl) (by kernel_rfl) (fun _ _ _ h => h) (Or.inl ⟨by rfl, ?_⟩) (by assumption) ?_
    rotate_left
    · intro w hSw; (try dsimp only at hSw); go_simp; (try with_reducible rfl)
    (try simp only [Act.put, List.setIfInBounds_toArray, List.set_cons_zero, List.set_cons_succ])
    refine wpAnyH_take (i := 10) (oi := { dst := some 29, op := Op.slice 36 (Operand.tmp 26) (some (Operand.tmp 28)) none none, type := 36, pos := "l03_entry.go:158", after := #[{ on := 7, ground := Ground.data }, { on := 9, ground := Ground.data }], guard := none }) (v := ?_) rfl (by kernel_rfl) (by kernel_rfl) (by kernel_rfl) (fun _ _ _ h => h) (Or.inl ⟨by rfl, ?_⟩) (by assumption) ?_
    rotate_left
    · intro w hSw; (try dsimp only at hSw); go_simp; (try with_reducible rfl)
    (try simp only [Act.put, List.setIfInBounds_toArray, List.set_cons_zero, List.set_cons_succ])
    refine wpAnyH_ready (rs := [2]) (by kernel_rfl) (by simp) ?_
    refine AllReadyH.cons (o := { dst := some 21, op := Op.buildSlice 36 0 #[], type := 36, pos := "l03_entry.go:158", after := #[], guard := none }) rfl (fun K hK => ?_) (AllReadyH.nil)
    go_simp
    clear hHeld
    refine hK.out _ _ ?_ (fun hHeld => ?_)
    · (try dsimp only)
      first | exact SK.out _ (Below.mono (by assumption) hw1') | exact SK.out _ (hbz1.mono hw1') | exact SK.out _ (below_three' hb8 hw1' _ _ _)
    clear hK K
    (try simp only [Act.put, List.setIfInBounds_toArray, List.set_cons_zero, List.set_cons_succ])
    refine wpAnyH_ready (rs := [6]) (by kernel_rfl) (by simp) ?_
    refine AllReadyH.cons (o := { dst := some 25, op := Op.call { callee := Callee.builtin Builtin.append, args := #[Operand.tmp 21, Operand.tmp 24], argTypes := #[36, 36] }, type := 36, pos := "l03_entry.go:158", after := #[{ on := 2, ground := Ground.data }, { on := 5, ground := Ground.data }], guard := none }) rfl (fun K hK => ?_) (AllReadyH.nil)
    refine step_strs w3.heap.size rfl _ _ rfl (.slice (some ⟨w3.heap.size, 0, none⟩) 0 0) [] rfl OZ1.out (some ⟨b0, o0, none⟩) (L.take k) lc _ hLk.out rfl HVa.out (fun e => by cases e) hlenL hs1 hbz1 ?_
    intro v4 w4 hown4 hbel4 hgr4
    obtain ⟨xo, xc, rfl⟩ := own_slice hown4
    simp only [List.nil_append] at hown4 ⊢
    have SD := HTd.out.below hbel4
    clear hHeld
    refine hK.out _ _ ?_ (fun hHeld => ?_)
    · (try dsimp only)
      first | exact SK.out _ (Below.mono (by assumption) hw1') | exact SK.out _ (hbz1.mono hw1') | exact SK.out _ (below_three' hb8 hw1' _ _ _)
    clear hK K
    (try simp only [Act.put, List.setIfInBounds_toArray, List.set_cons_zero, List.set_cons_succ])
    refine wpAnyH_ready (rs := [11]) (by kernel_rfl) (by simp) ?_
    refine AllReadyH.cons (o := { dst := some 30, op := Op.call { callee := Callee.builtin Builtin.append, args := #[Operand.tmp 25, Operand.tmp 29], argTypes := #[36, 36] }, type := 36, pos := "l03_entry.go:158", after := #[{ on := 6, ground := Ground.data }, { on := 10, ground := Ground.data }, { on := 6, ground := Ground.chain }], guard := none }) rfl (fun K hK => ?_) (AllReadyH.nil)
    refine step_strs w3.heap.size rfl _ _ rfl (.slice xo (L.take k).length xc) (L.take k) rfl hown4 (some a2) (L.drop (k + 1)) (lc - (k + 1)) _ hLd.out rfl SD (fun e => by cases e) hlen1 hbel4.size hbel4 ?_
    intro v7 w7 hown7 hbel7 hgr7
    obtain ⟨yo, yc, rfl⟩ := own_slice hown7
    have ST7 : Hid (StrsAt w7 yo (eraseV L k)) := Lib.hid (own_strs hown7)
    clear hown7
    rw [HLs]
    clear hHeld
    refine hK.out _ _ ?_ (fun hHeld => ?_)
    · (try dsimp only)
      first | exact SK.out _ (Below.mono (by assumption) hw1') | exact SK.out _ (hbz1.mono hw1') | exact SK.out _ (below_three' hb8 hw1' _ _ _)
    clear hK K
    (try simp only [Act.put, List.setIfInBounds_toArray, List.set_cons_zero, List.set_cons_succ])
    refine wpAnyH_ready (rs := [12]) (by kernel_rfl) (by simp) ?_
    refine AllReadyH.cons (o := { dst := some 31, op := Op.call { callee := Callee.value (Operand.func 101), args := #[Operand.tmp 19, Operand.tmp 20, Operand.tmp 30], argTypes := #[26, 9, 36] }, type := 26, pos := "l03_entry.go:158", after := #[{ on := 0, ground := Ground.data }, { on := 1, ground := Ground.data }, { on := 11, ground := Ground.data }, { on := 11, ground := Ground.chain }], guard := none }) rfl (fun K hK => ?_) (AllReadyH.nil)
    go_simp
    refine (HSet.out w7 yo yc hbel7 ST7.out).mono ?_
    rintro e w8 ⟨⟨po, pc, qo, qc, rfl, e1, e2⟩, hb8⟩
    have E1 := Lib.hid e1; have E2 := Lib.hid e2; clear e1 e2
    have U8 := Lib.hid (U3.out.below hb8)
    obtain ⟨⟨k0, k1, k2⟩, f0, f1, f2⟩ := U8.out.cells
    clear hHeld
    refine hK.out _ _ ?_ (fun hHeld => ?_)
    · (try dsimp only)
      first | exact SK.out _ (Below.mono (by assumption) hw1') | exact SK.out _ (hbz1.mono hw1') | exact SK.out _ (below_three' hb8 hw1' _ _ _)
    clear hK K
    (try simp only [Act.put, List.setIfInBounds_toArray, List.set_cons_zero, List.set_cons_succ])
    refine wpAnyH_take (i := 13) (oi := { dst := some 32, op := Op.build 30 #[(0, Operand.tmp 31)], type := 30, pos := "l03_entry.go:158", after := #[{ on := 12, ground := Ground.data }], guard := none }) (v := ?_) rfl (by kernel_rfl) (by kernel_rfl) (by kernel_rfl) (fun _ _ _ h => h) (Or.inl ⟨by rfl, ?_⟩) (by assumption) ?_
    rotate_left
    · intro w hSw; (try dsimp only at hSw); go_simp; (try with_reducible rfl)
    (try simp only [Act.put, List.setIfInBounds_toArray, List.set_cons_zero, List.set_cons_succ])
    refine wpAnyH_ready (rs := [14]) (by kernel_rfl) (by simp) ?_
    refine AllReadyH.cons (o := { dst := none, op := Op.store 30 (Operand.tmp 6) (Operand.tmp 32), type := 0, pos := "l03_entry.go:158", after := #[{ on := 13, ground := Ground.data }, { on := 12, ground := Ground.chain }, { on := 0, ground := Ground.phase }, { on := 1, ground := Ground.phase }, { on := 2, ground := Ground.phase }, { on := 3, ground := Ground.phase }, { on := 4, ground := Ground.phase }, { on := 5, ground := Ground.phase }, { on := 6, ground := Ground.phase }, { on := 7, ground := Ground.phase }, { on := 8, ground := Ground.phase }, { on := 9, ground := Ground.phase }, { on := 10, ground := Ground.phase }, { on := 11, ground := Ground.phase }, { on := 12, ground := Ground.phase }, { on := 13, ground := Ground.phase }], guard := none }) rfl (fun K hK => ?_) (AllReadyH.nil)
    go_simp
    clear hHeld
    refine hK.out _ _ ?_ (fun hHeld => ?_)
    · (try dsimp only)
      first | exact SK.out _ (Below.mono (by assumption) hw1') | exact SK.out _ (hbz1.mono hw1') | exact SK.out _ (below_three' hb8 hw1' _ _ _)
    clear hK K
    (try simp only [Act.put, List.setIfInBounds_toArray, List.set_cons_zero, List.set_cons_succ])
    refine wpAnyH_done (by kernel_rfl) ?_ _
    clear hHeld
    obtain ⟨⟨q0, q1, q2⟩, _⟩ := (((U8.out.set0 (.slice po d.length pc)).set1 (.slice qo T.length qc)).set2 (.int .i64 0)).cells
    clear k0 k1 k2 f0 f1 f2
    go_wp2_with fail
    refine bodyPost_ret (v := .agg #[.slice po d.length pc, .slice qo T.length qc, .int .i64 0]) (by simp [results, Tryz.results58, go_sem, q0, q1, q2]) rfl ?_
    rw [HOut.out]
    exact fin_out B3.out hb8 hw1 E1.out E2.out _ _ _
end Go.Proofs.YtjajpdghamecoaaGreat
/- ValueDrop: what the specification's text returns. -/
namespace Go.Proofs.YtjajpdghamecoaaGreat
open Go.RowKit
attribute [local go_sem ↓] Go.wp_at_zero Go.wp_at_succ

theorem dropR_code {d : RdnL} {l : List AttrV} {nm val : ByteArray} {c : Int} (h : vcode (rightB d l) nm val = c) (hc : c ≠ 0) : dropR d l nm val = (c, [], []) := by
  unfold dropR; rw [h, if_pos hc]
set_option maxRecDepth 100000 in
set_option maxHeartbeats 1000000 in
theorem SpecValueDrop_any (ao bo : Option Addr) (d : RdnL) (l : List AttrV) (ca cb : Nat) (nm val : ByteArray) (w : World) (hd : DnAt w ao d) (hl : AttrsAt w bo l) (hfd : Fits d) (hfl : FitsA l) (hn : nm.size ≤ maxLen) (hv : val.size ≤ maxLen) :
    Calls Tryz.prog 15 #[.agg #[.slice ao d.length ca, .slice bo l.length cb], .string nm, .string val] w (SpecOut w (dropR d l nm val)) := by
  have HD := Lib.hid hd; have HL := Lib.hid hl; have FD := Lib.hid hfd; have FL := Lib.hid hfl; have Hn := Lib.hid hn; have Hv := Lib.hid hv; clear hd hl hfd hfl
  go_enter Tryz.func15, Tryz.ntmps15
  go_wp2_with fail
  refine calls_any' (fun W => Below w.heap.size w W ∧ Two W w.heap.size 26 (.slice ao d.length ca) (.slice bo l.length cb) ∧ Three W (w.heap.size + 1) 30 (.slice none 0 0) (.slice none 0 0) (.int .i64 0)) ⟨more (more (Below.refl _ _) _) _, (twoNew w 26 _ _).alloc _, threeNext w _ 30 _ _ _⟩ ?_
  rintro W ⟨hbW, t0, t1⟩
  refine (l03Long_any nm val W hn hv).mono ?_
  rintro e w1 ⟨rfl, rfl⟩
  have B1 := Lib.hid hbW; have T1 := Lib.hid t0; have U1 := Lib.hid t1
  clear hbW t0 t1
  by_cases hbig : 8000 < nm.size ∨ 8000 < val.size
  · have hq : (decide (8000 < nm.size) || decide (8000 < val.size)) = true := by simpa using hbig
    rw [hq]
    have HO := Lib.hid (dropR_code (d := d) (l := l) (vcode_big (r := rightB d l) hbig) (by decide))
    clear hbig hq
    go_wp2_with fail
    refine (l03Ill_any 2 W).mono ?_
    rintro e w4 ⟨rfl, hb4⟩
    have U4 := Lib.hid (U1.out.below hb4); have B4 := Lib.hid (B1.out.trans (hb4.mono B1.out.size))
    clear hb4
    obtain ⟨⟨k0, k1, k2⟩, f0, f1, f2⟩ := U4.out.cells
    obtain ⟨⟨q0, q1, q2⟩, _⟩ := (((U4.out.set0 (.slice none 0 0)).set1 (.slice none 0 0)).set2 (.int .i64 2)).cells
    unfold failV
    go_wp2_with fail
    refine bodyPost_ret (v := failV 2) (by simp [results, Tryz.results15, go_sem, q0, q1, q2, failV]) rfl ?_
    rw [HO.out]
    exact specOut_fail (below_three B4.out _ _ _)
  · have hn8 : ¬ 8000 < nm.size := fun h => hbig (.inl h)
    have hv8 : ¬ 8000 < val.size := fun h => hbig (.inr h)
    have hq : (decide (8000 < nm.size) || decide (8000 < val.size)) = false := by simp; omega
    rw [hq]
    have HOb : Hid ((rightB d l && nmL nm && valB val) = false → dropR d l nm val = (1, [], [])) := Lib.hid (fun h => dropR_code (vcode_one hn8 hv8 h) (by decide))
    have HOk : Hid ((rightB d l && nmL nm && valB val) = true → vcode (rightB d l) nm val = 0) := Lib.hid (fun h => vcode_ok hn8 hv8 h)
    clear hbig hq
    obtain ⟨⟨p0, p1⟩, _⟩ := T1.out.cells
    go_wp2_with fail
    clear p0 p1
    refine (SpecEntryRight_any ao bo d l ca cb W (HD.out.below B1.out) (HL.out.below B1.out) FD.out FL.out).mono ?_
    rintro e w2 ⟨rfl, hb2⟩
    have B2 := Lib.hid (B1.out.trans (hb2.mono B1.out.size)); have T2 := Lib.hid (T1.out.below hb2); have U2 := Lib.hid (U1.out.below hb2)
    clear hb2 B1 T1 U1
    have HIll : Hid (∀ w3, Below w.heap.size w w3 → Three w3 (w.heap.size + 1) 30 (.slice none 0 0) (.slice none 0 0) (.int .i64 0) → Calls Tryz.prog 54 #[.int .i64 1] w3 fun e w4 => e = .returned (failV 1) ∧ Below w.heap.size w w4 ∧ Three w4 (w.heap.size + 1) 30 (.slice none 0 0) (.slice none 0 0) (.int .i64 0)) :=
      Lib.hid (fun w3 h1 h2 => (l03Ill_any 1 w3).mono fun e w4 ⟨a, b⟩ => ⟨a, h1.trans (b.mono h1.size), h2.below b⟩)
    cases hr : rightB d l
    · have HO := Lib.hid (HOb.out (by rw [hr]; rfl))
      clear HOb HOk
      go_wp2_with fail
      refine (HIll.out w2 B2.out U2.out).mono ?_
      rintro e w4 ⟨rfl, b4, u4⟩
      have U4 := Lib.hid u4; have B4 := Lib.hid b4
      clear b4 u4
      obtain ⟨⟨k0, k1, k2⟩, f0, f1, f2⟩ := U4.out.cells
      obtain ⟨⟨q0, q1, q2⟩, _⟩ := (((U4.out.set0 (.slice none 0 0)).set1 (.slice none 0 0)).set2 (.int .i64 1)).cells
      unfold failV
      go_wp2_with fail
      refine bodyPost_ret (v := failV 1) (by simp [results, Tryz.results15, go_sem, q0, q1, q2, failV]) rfl ?_
      rw [HO.out]
      exact specOut_fail (below_three B4.out _ _ _)
    · go_wp2_with fail
      refine (SpecNameRight_any nm w2 Hn.out).mono ?_
      rintro e w3 ⟨rfl, rfl⟩
      cases hm : nmL nm
      · have HO := Lib.hid (HOb.out (by rw [hr, hm]; rfl))
        clear HOb HOk
        go_wp2_with fail
        refine (HIll.out w2 B2.out U2.out).mono ?_
        rintro e w4 ⟨rfl, b4, u4⟩
        have U4 := Lib.hid u4; have B4 := Lib.hid b4
        clear b4 u4
        obtain ⟨⟨k0, k1, k2⟩, f0, f1, f2⟩ := U4.out.cells
        obtain ⟨⟨q0, q1, q2⟩, _⟩ := (((U4.out.set0 (.slice none 0 0)).set1 (.slice none 0 0)).set2 (.int .i64 1)).cells
        unfold failV
        go_wp2_with fail
        refine bodyPost_ret (v := failV 1) (by simp [results, Tryz.results15, go_sem, q0, q1, q2, failV]) rfl ?_
        rw [HO.out]
        exact specOut_fail (below_three B4.out _ _ _)
      · go_wp2_with fail
        refine (l02Value_any val w2 Hv.out).mono ?_
        rintro e w3 ⟨rfl, hb3⟩
        have B3 := Lib.hid (B2.out.trans (hb3.mono B2.out.size)); have T3 := Lib.hid (T2.out.below hb3); have U3 := Lib.hid (U2.out.below hb3)
        clear hb3 B2 T2 U2
        cases hp : valB val
        · have HO := Lib.hid (HOb.out (by rw [hr, hm, hp]; rfl))
          clear HOb HOk
          go_wp2_with fail
          refine (HIll.out w3 B3.out U3.out).mono ?_
          rintro e w4 ⟨rfl, b4, u4⟩
          have U4 := Lib.hid u4; have B4 := Lib.hid b4
          clear b4 u4
          obtain ⟨⟨k0, k1, k2⟩, f0, f1, f2⟩ := U4.out.cells
          obtain ⟨⟨q0, q1, q2⟩, _⟩ := (((U4.out.set0 (.slice none 0 0)).set1 (.slice none 0 0)).set2 (.int .i64 1)).cells
          unfold failV
          go_wp2_with fail
          refine bodyPost_ret (v := failV 1) (by simp [results, Tryz.results15, go_sem, q0, q1, q2, failV]) rfl ?_
          rw [HO.out]
          exact specOut_fail (below_three B4.out _ _ _)
        · have HC := Lib.hid (HOk.out (by rw [hr, hm, hp]; rfl))
          clear HOb HOk HIll
          obtain ⟨⟨p0, p1⟩, _⟩ := T3.out.cells
          have HAdd := Lib.hid (l03Drop_any ao bo d l ca cb nm val w3 (HD.out.below B3.out) (HL.out.below B3.out) FD.out FL.out (by omega) (by omega) HC.out)
          generalize hre : dropR d l nm val = r at *
          have HRe := Lib.hid hre; clear hre
          obtain ⟨c, D, T⟩ := r
          have hw1 : w.heap.size + 1 < w3.heap.size := U3.out.lt
          go_wp2_with fail
          refine HAdd.out.mono ?_
          rintro e w4 ⟨⟨vo, vc, uo, uc, rfl, x4, y4⟩, hb4⟩
          dsimp only at x4 y4 ⊢
          have U4 := Lib.hid (U3.out.below hb4); have B4 := Lib.hid (B3.out.trans (hb4.mono B3.out.size)); have X4 := Lib.hid x4; have Y4 := Lib.hid y4
          clear hb4 x4 y4 p0 p1
          obtain ⟨⟨k0, k1, k2⟩, f0, f1, f2⟩ := U4.out.cells
          obtain ⟨⟨q0, q1, q2⟩, _⟩ := (((U4.out.set0 (.slice vo D.length vc)).set1 (.slice uo T.length uc)).set2 (.int .i64 c)).cells
          go_wp2_with fail
          refine bodyPost_ret (v := .agg #[.slice vo D.length vc, .slice uo T.length uc, .int .i64 c]) (by simp [results, Tryz.results15, go_sem, q0, q1, q2]) rfl ?_
          exact ⟨⟨vo, vc, uo, uc, rfl, own_mono (own_cellOut (own_cellOut (own_cellOut X4.out hw1) hw1) hw1) B3.out.size, (((Y4.out.cellOut hw1).cellOut hw1).cellOut hw1).mono B3.out.size⟩, below_three B4.out _ _ _⟩
end Go.Proofs.YtjajpdghamecoaaGreat
