/- Merged texts: DDraw. -/
import Derived.Test.YtjajpdghamecoaaGreatM16
/- The draws of the laws FnEntry and FnAttr. -/
namespace Go.Proofs.YtjajpdghamecoaaGreat
open Go.RowKit
attribute [local go_sem ↓] Go.wp_at_zero Go.wp_at_succ

/-- a small entry and two texts -/
def SomeThree (w : World) (e : Ending) (w' : World) : Prop := ∃ (d : RdnL) (l : List AttrV) (vo ao : Option Addr) (vc ac : Nat) (nm val : ByteArray), e = .returned (.tuple #[.agg #[.slice vo d.length vc, .slice ao l.length ac], .string nm, .string val]) ∧
  w'.ownsRow w.heap.size 97 2 (.slice vo d.length vc) d.length (rs d) ∧ AttrsRow w' w.heap.size (.slice ao l.length ac) l ∧ d.length ≤ 7 ∧ Short d ∧ SmallA 9 l ∧ nm.size ≤ 41 ∧ val.size ≤ 41
theorem fin3 {q : Nat} {w w3 W : World} {d : RdnL} {l : List AttrV} {vo ao : Option Addr} {vc ac : Nat} {nm val : ByteArray} (hb : Below w.heap.size w w3) (hq : w.heap.size < q) (h3 : Two w3 w.heap.size 26 (.slice none 0 0) (.slice none 0 0)) (hW : Two W w.heap.size 26 (.slice none 0 0) (.slice none 0 0)) (hs : Still q w3 W)
    (o : w3.ownsRow (q + 1) 97 2 (.slice vo d.length vc) d.length (rs d)) (a : AttrsRow w3 (q + 1) (.slice ao l.length ac) l) (hd : d.length ≤ 7) (hsh : Short d) (hsm : SmallA 9 l) (hn : nm.size ≤ 41) (hv : val.size ≤ 41) :
    SomeThree w (.returned (.tuple #[.agg #[.slice vo d.length vc, .slice ao l.length ac], .string nm, .string val])) ((W.setCell ⟨w.heap.size, 0, none⟩ (.slice vo d.length vc)).setCell ⟨w.heap.size, 1, none⟩ (.slice ao l.length ac)) ∧ Below w.heap.size w ((W.setCell ⟨w.heap.size, 0, none⟩ (.slice vo d.length vc)).setCell ⟨w.heap.size, 1, none⟩ (.slice ao l.length ac)) := by
  have t1 := hW.set0 (.slice vo d.length vc)
  have o' := o.kept hs.2 (own_not o (Nat.lt_succ_self q))
  have a' := a.kept hs.2 (Nat.lt_succ_self q)
  refine ⟨⟨d, l, vo, ao, vc, ac, nm, val, rfl, own_mono (own_cellTy (own_cellTy o' hW (by decide)) t1 (by decide)) (by omega), ((a'.cellTy hW (by decide) (by decide)).cellTy t1 (by decide) (by decide)).mono (by omega), hd, hsh, hsm, hn, hv⟩, ?_⟩
  have hbW : Below w.heap.size w W := hb.grown hs.2 hb.size (fun k hk => by injection hk with hk; omega)
  exact (hbW.setCell (p := ⟨w.heap.size, 0, none⟩) (Nat.le_refl _) _).setCell (p := ⟨w.heap.size, 1, none⟩) (Nat.le_refl _) _
theorem row_more {w w' : World} {q q' : Nat} {ao : Option Addr} {len : Nat} (h : Row w q ao len) (hq : q ≤ q') (hb : ∀ k, k < q → w'.heap[k]? = w.heap[k]?) : Row w' q' ao len := by
  have h1 := h.same hb
  rcases h1 with h1 | ⟨b, off, e, hlt, hc⟩
  · exact .inl h1
  · exact .inr ⟨b, off, e, Nat.lt_of_lt_of_le hlt hq, hc⟩
set_option maxRecDepth 100000 in
set_option maxHeartbeats 4000000 in
theorem DrawValueAdd_any (ao : Option Addr) (len cap : Nat) (w : World) (hR : Row w w.heap.size ao len) (hl : len ≤ 1048576) :
    Calls Tryz.prog 8 #[.slice ao len cap] w fun e w' => SomeThree w e w' ∧ Below w.heap.size w w' := by
  have HR : Hid (Row (w.alloc (.cells #[.slice none 0 0, .slice none 0 0] 26)) (w.alloc (.cells #[.slice none 0 0, .slice none 0 0] 26)).heap.size ao len) := Lib.hid (row_more hR (by simp) (fun k hk => Below.heap_alloc _ _ _ hk))
  clear hR
  go_enter Tryz.func8, Tryz.ntmps8
  go_wp2_with fail
  refine (l01Source_any ao len cap _ HR.out hl).mono ?_
  rintro e w1 ⟨rfl, hg1, hw1⟩
  have T1 : Hid (Two w1 w.heap.size 26 (.slice none 0 0) (.slice none 0 0)) := Lib.hid ((hw1.block w.heap.size (by simp) (by simp)).trans (twoNew w 26 _ _))
  have B1 : Hid (Below w.heap.size w w1) := Lib.hid ((more (Below.refl _ _) _).trans ((below_of_grown hw1).mono (by simp)))
  rw [size_up] at hg1 ⊢
  have hq : w.heap.size < w.heap.size + 1 := Nat.lt_succ_self _
  have HG1 := Lib.hid hg1
  clear hg1 hw1 HR
  generalize w.heap.size + 1 = q at *
  have hq1 : q < w1.heap.size := HG1.out.lt
  go_wp2_with fail
  refine (l03Entry_any q w1 HG1.out).mono ?_
  rintro e w2 ⟨⟨d, l, vo, ao1, vc, ac, rfl, o2, a2, hd, hsh, hsm⟩, s2⟩
  have T2 := Lib.hid ((two_still T1.out s2 (by omega)).alloc (.cells #[.slice vo d.length vc, .slice ao1 l.length ac] 26))
  have B2 := Lib.hid (more (B1.out.grown s2.2 B1.out.size (fun k hk => by injection hk with hk; omega)) (.cells #[.slice vo d.length vc, .slice ao1 l.length ac] 26))
  have hal := more (Below.refl w2.heap.size w2) (.cells #[.slice vo d.length vc, .slice ao1 l.length ac] 26)
  have O2 := Lib.hid (own_below (own_mono o2 (show q + 1 ≤ _ by omega)) hal); have A2 := Lib.hid ((a2.mono (show q + 1 ≤ _ by omega)).below hal)
  have G2 := Lib.hid (((Still.refl s2.1).alloc s2.1.lt #[.slice vo d.length vc, .slice ao1 l.length ac] 26).1)
  have E2 := Lib.hid (twoNew w2 26 (.slice vo d.length vc) (.slice ao1 l.length ac))
  have hE : q < w2.heap.size := s2.1.lt
  have HSh := Lib.hid hsh; have HSm := Lib.hid hsm
  clear o2 a2 hsh hsm s2 hal T1 B1 HG1
  go_wp2_with fail
  refine calls_any' (fun W => Good W q ∧ Two W w.heap.size 26 (.slice none 0 0) (.slice none 0 0) ∧ Below w.heap.size w W ∧ W.ownsRow (q + 1) 97 2 (.slice vo d.length vc) d.length (rs d) ∧ AttrsRow W (q + 1) (.slice ao1 l.length ac) l ∧ Two W w2.heap.size 26 (.slice vo d.length vc) (.slice ao1 l.length ac)) ⟨G2.out, T2.out, B2.out, O2.out, A2.out, E2.out⟩ ?_
  clear G2 T2 B2 O2 A2 E2
  generalize w2.heap.size = E at *
  rintro W ⟨hgW, tW, bW, oW, aW, eW⟩
  refine (one_any q 10 W hgW (by decide) (by decide)).mono ?_
  rintro e w3 ⟨⟨b, rfl⟩, s3⟩
  have G3 := Lib.hid s3.1; have T3 := Lib.hid (two_still tW s3 (by omega)); have HE := Lib.hid (two_still eW s3 (by omega))
  have O3 := Lib.hid (oW.kept s3.2 (own_not oW (Nat.lt_succ_self q))); have A3 := Lib.hid (aW.kept s3.2 (Nat.lt_succ_self q))
  have hbase : Below w.heap.size w w3 := bW.grown s3.2 bW.size (fun k hk => by injection hk with hk; omega)
  clear hgW tW bW oW aW eW s3
  have hq3 : q < w3.heap.size := G3.out.lt
  have sd : Still q w3 w3.drew := still_drew G3.out
  cases b
  · go_wp2_with fail
    refine (l03Name_any q w3 G3.out).mono ?_
    rintro e w4 ⟨⟨A, rfl, zA0⟩, s4⟩
    have zA : A.size ≤ 41 := by omega
    have T4 := Lib.hid (two_still T3.out s4 (by omega)); have HE4 := Lib.hid (two_still HE.out s4 (by omega))
    have O4 := Lib.hid (O3.out.kept s4.2 (own_not O3.out (Nat.lt_succ_self q))); have A4 := Lib.hid (A3.out.kept s4.2 (Nat.lt_succ_self q))
    have hbase4 : Below w.heap.size w w4 := hbase.grown s4.2 hbase.size (fun k hk => by injection hk with hk; omega)
    have G4 := Lib.hid s4.1
    clear s4 T3 HE O3 A3 hbase G3 sd hq3
    have sd4 : Still q w4 w4.drew := still_drew G4.out
    have SK4 : Hid (∀ Z : World, Still q w4 Z → (Z.cell? ⟨E, 0, none⟩ = some (.slice vo d.length vc) ∧ Z.cell? ⟨E, 1, none⟩ = some (.slice ao1 l.length ac))) := Lib.hid (fun Z h => (two_still HE4.out h (by omega)).cells.1)
    have HVl : Hid (Calls Tryz.prog 46 #[.pointer (some ⟨q, 0, none⟩)] w4.drew fun e w' => TextTo 40 e ∧ Still q w4 w') := Lib.hid ((l03Value_any q w4.drew sd4.1).mono fun e w' ⟨a, b⟩ => ⟨a, sd4.trans b⟩)
    go_wp2_with fail
    refine wp_region_held_drew (S := (fun Z => Z.cell? ⟨E, 0, none⟩ = some (.slice vo d.length vc) ∧ Z.cell? ⟨E, 1, none⟩ = some (.slice ao1 l.length ac))) (by kernel_rfl) ?_ (fun hHeld => ?_)
    · (try dsimp only)
      first | exact SK4.out _ (by assumption) | exact SK4.out _ sd4 | exact hSf _ _
    refine wpAnyH_take (i := 0) (oi := ⟨some 25, .load 26 (.tmp 6), 26, "l03_entry.go:358", #[], none⟩) (v := ?_) rfl (by kernel_rfl) (by kernel_rfl) (by kernel_rfl) (fun _ _ _ h => h) (Or.inl ⟨by rfl, ?_⟩) (by assumption) ?_
    rotate_left
    · intro w hSw; (try dsimp only at hSw); go_simp; (try with_reducible rfl)
    (try simp only [Act.put, List.setIfInBounds_toArray, List.set_cons_zero, List.set_cons_succ])
    refine wpAnyH_take (i := 1) (oi := ⟨some 26, .move (.tmp 7), 9, "l03_entry.go:358", #[⟨4, .gcOnly .lateStores⟩], none⟩) (v := ?_) rfl (by kernel_rfl) (by kernel_rfl) (by kernel_rfl) (fun _ _ _ h => h) (Or.inl ⟨by rfl, ?_⟩) (by assumption) ?_
    rotate_left
    · intro w hSw; (try dsimp only at hSw); go_simp; (try with_reducible rfl)
    (try simp only [Act.put, List.setIfInBounds_toArray, List.set_cons_zero, List.set_cons_succ])
    refine wpAnyH_take (i := 2) (oi := ⟨some 27, .move (.tmp 5), 61, "l03_entry.go:358", #[], none⟩) (v := ?_) rfl (by kernel_rfl) (by kernel_rfl) (by kernel_rfl) (fun _ _ _ h => h) (Or.inl ⟨by rfl, ?_⟩) (by assumption) ?_
    rotate_left
    · intro w hSw; (try dsimp only at hSw); go_simp; (try with_reducible rfl)
    (try simp only [Act.put, List.setIfInBounds_toArray, List.set_cons_zero, List.set_cons_succ])
    refine wpAnyH_ready (rs := [3]) (by kernel_rfl) (by simp) ?_
    refine AllReadyH.cons (o := ⟨some 28, .call { callee := Callee.value (.func 46), args := #[.tmp 27], argTypes := #[61] }, 9, "l03_entry.go:358", #[⟨2, .data⟩], none⟩) rfl (fun K hK => ?_) (AllReadyH.nil)
    go_simp
    refine (HVl.out).mono ?_
    rintro e w5 ⟨⟨B, rfl, zB0⟩, s5⟩
    have zB : B.size ≤ 41 := by omega
    clear hHeld
    refine hK.out _ _ ?_ (fun hHeld => ?_)
    · (try dsimp only)
      first | exact SK4.out _ (by assumption) | exact SK4.out _ sd4 | exact hSf _ _
    clear hK K
    (try simp only [Act.put, List.setIfInBounds_toArray, List.set_cons_zero, List.set_cons_succ])
    refine wpAnyH_ready (rs := [4]) (by kernel_rfl) (by simp) ?_
    refine AllReadyH.cons (o := ⟨none, .store 26 (.tmp 2) (.tmp 25), 0, "l03_entry.go:358", #[⟨0, .data⟩, ⟨3, .chain⟩, ⟨0, .phase⟩, ⟨1, .textOnly .lateStores⟩, ⟨2, .textOnly .lateStores⟩, ⟨3, .textOnly .lateStoresUnsure⟩], none⟩) rfl (fun K hK => ?_) (AllReadyH.nil)
    have T9 := two_still T4.out s5 (by omega)
    obtain ⟨⟨r0, r1⟩, rf0, rf1⟩ := T9.cells
    have E9 := two_still HE4.out s5 (by omega)
    have hSf : ∀ x y : Value, ((w5.setCell ⟨w.heap.size, 0, none⟩ x).setCell ⟨w.heap.size, 1, none⟩ y).cell? ⟨E, 0, none⟩ = some (.slice vo d.length vc) ∧ ((w5.setCell ⟨w.heap.size, 0, none⟩ x).setCell ⟨w.heap.size, 1, none⟩ y).cell? ⟨E, 1, none⟩ = some (.slice ao1 l.length ac) := fun x y => ((E9.far (by omega) x).far (by omega) y).cells.1
    go_simp
    clear hHeld
    refine hK.out _ _ ?_ (fun hHeld => ?_)
    · (try dsimp only)
      first | exact SK4.out _ (by assumption) | exact SK4.out _ sd4 | exact hSf _ _
    clear hK K
    (try simp only [Act.put, List.setIfInBounds_toArray, List.set_cons_zero, List.set_cons_succ])
    refine wpAnyH_take (i := 5) (oi := ⟨some 3, .assign (.tmp 26), 9, "l03_entry.go:358", #[⟨1, .data⟩, ⟨4, .chain⟩, ⟨0, .phase⟩, ⟨1, .phase⟩, ⟨2, .textOnly .lateStores⟩, ⟨3, .textOnly .lateStoresUnsure⟩, ⟨4, .phase⟩], none⟩) (v := ?_) rfl (by kernel_rfl) (by kernel_rfl) (by kernel_rfl) (fun _ _ _ h => h) (Or.inl ⟨by rfl, ?_⟩) (by assumption) ?_
    rotate_left
    · intro w hSw; (try dsimp only at hSw); go_simp; (try with_reducible rfl)
    (try simp only [Act.put, List.setIfInBounds_toArray, List.set_cons_zero, List.set_cons_succ])
    refine wpAnyH_take (i := 6) (oi := ⟨some 4, .assign (.tmp 28), 9, "l03_entry.go:358", #[⟨3, .data⟩, ⟨5, .chain⟩, ⟨0, .phase⟩, ⟨1, .phase⟩, ⟨2, .phase⟩, ⟨3, .phase⟩, ⟨4, .phase⟩, ⟨5, .phase⟩], none⟩) (v := ?_) rfl (by kernel_rfl) (by kernel_rfl) (by kernel_rfl) (fun _ _ _ h => h) (Or.inl ⟨by rfl, ?_⟩) (by assumption) ?_
    rotate_left
    · intro w hSw; (try dsimp only at hSw); go_simp; (try with_reducible rfl)
    (try simp only [Act.put, List.setIfInBounds_toArray, List.set_cons_zero, List.set_cons_succ])
    refine wpAnyH_done (by kernel_rfl) ?_ _
    clear hHeld hSf
    obtain ⟨⟨z0, z1⟩, _⟩ := ((T9.set0 (.slice vo d.length vc)).set1 (.slice ao1 l.length ac)).cells
    have HF := Lib.hid (fin3 (nm := A) (val := B) hbase4 hq T4.out T9 s5 O4.out A4.out hd HSh.out HSm.out zA zB)
    go_wp2_with fail
    exact bodyPost_ret (v := .tuple #[.agg #[.slice vo d.length vc, .slice ao1 l.length ac], .string A, .string B]) (by simp [results, Tryz.results8, go_sem, z0, z1]) rfl HF.out
  · obtain ⟨Z, hZ, hZs⟩ : ∃ Z : ByteArray, Z = ⟨(List.replicate 41 (0 : UInt8)).toArray⟩ ∧ Z.size = 41 := ⟨_, rfl, rfl⟩
    have HZ := Lib.hid hZ; clear hZ
    have hmk : ∀ W : World, (Instr.makeSlice 22 (.int .i64 41) (.int .i64 41)).run Tryz.prog W = .ok (.slice (some ⟨W.heap.size, 0, none⟩) 41 41) (W.alloc (.cells (madeCells #[.int .u8 0] 41) 5)) := fun W => zero_make 41 (by decide) W
    have SK : Hid (∀ Z : World, Still q w3 Z → (Z.cell? ⟨E, 0, none⟩ = some (.slice vo d.length vc) ∧ Z.cell? ⟨E, 1, none⟩ = some (.slice ao1 l.length ac))) := Lib.hid (fun Z h => (two_still HE.out h (by omega)).cells.1)
    go_wp2_with fail
    refine wp_region_held_drew (S := (fun Z => Z.cell? ⟨E, 0, none⟩ = some (.slice vo d.length vc) ∧ Z.cell? ⟨E, 1, none⟩ = some (.slice ao1 l.length ac))) (by kernel_rfl) ?_ (fun hHeld => ?_)
    · (try dsimp only)
      first | exact SK.out _ (by assumption) | exact SK.out _ sd | exact SK.out _ sN | exact hSf _ _
    refine wpAnyH_take (i := 0) (oi := ⟨some 14, .load 26 (.tmp 6), 26, "l03_entry.go:355", #[], none⟩) (v := ?_) rfl (by kernel_rfl) (by kernel_rfl) (by kernel_rfl) (fun _ _ _ h => h) (Or.inl ⟨by rfl, ?_⟩) (by assumption) ?_
    rotate_left
    · intro w hSw; (try dsimp only at hSw); go_simp; (try with_reducible rfl)
    (try simp only [Act.put, List.setIfInBounds_toArray, List.set_cons_zero, List.set_cons_succ])
    refine wpAnyH_take (i := 1) (oi := ⟨some 15, .move (.tmp 5), 61, "l03_entry.go:355", #[], none⟩) (v := ?_) rfl (by kernel_rfl) (by kernel_rfl) (by kernel_rfl) (fun _ _ _ h => h) (Or.inl ⟨by rfl, ?_⟩) (by assumption) ?_
    rotate_left
    · intro w hSw; (try dsimp only at hSw); go_simp; (try with_reducible rfl)
    (try simp only [Act.put, List.setIfInBounds_toArray, List.set_cons_zero, List.set_cons_succ])
    refine wpAnyH_take (i := 4) (oi := ⟨some 18, .move (.tmp 5), 61, "l03_entry.go:355", #[], none⟩) (v := ?_) rfl (by kernel_rfl) (by kernel_rfl) (by kernel_rfl) (fun _ _ _ h => h) (Or.inl ⟨by rfl, ?_⟩) (by assumption) ?_
    rotate_left
    · intro w hSw; (try dsimp only at hSw); go_simp; (try with_reducible rfl)
    (try simp only [Act.put, List.setIfInBounds_toArray, List.set_cons_zero, List.set_cons_succ])
    refine wpAnyH_ready (rs := [2, 5]) (by kernel_rfl) (by simp) ?_
    refine AllReadyH.cons (o := ⟨some 16, .buildSlice 36 2 #[(0, .const (Value.string { data := #[65] })), (1, .const (Value.string { data := #[99, 110] }))], 36, "l03_entry.go:355", #[], none⟩) rfl (fun K hK => ?_) (AllReadyH.cons (o := ⟨some 19, .makeSlice 22 (.const (Value.int IntKind.i64 41)) (.const (Value.int IntKind.i64 41)), 22, "l03_entry.go:355", #[], none⟩) rfl (fun K hK => ?_) (AllReadyH.nil))
    · go_simp
      obtain ⟨x1, h_x1⟩ : ∃ X, X = (w3.alloc (.cells #[.string ⟨#[65]⟩, .string ⟨#[99, 110]⟩] 9)).drew := ⟨_, rfl⟩
      have s_x1 : Still q w3 x1 := by rw [h_x1]; exact sd.alloc hq3 _ _
      have fA_x1 : x1.heap[w3.heap.size]? = some (.cells #[.string ⟨#[65]⟩, .string ⟨#[99, 110]⟩] 9) := by rw [h_x1]; exact look_z1 w3 _
      have gA_x1 : q < w3.heap.size := hq3
      have sN := s_x1
      rw [← h_x1]
      clear h_x1
      clear hHeld
      refine hK.out _ _ ?_ (fun hHeld => ?_)
      · (try dsimp only)
        first | exact SK.out _ (by assumption) | exact SK.out _ sd | exact SK.out _ sN | exact hSf _ _
      clear hK K
      (try simp only [Act.put, List.setIfInBounds_toArray, List.set_cons_zero, List.set_cons_succ])
      refine wpAnyH_ready (rs := [3, 5]) (by kernel_rfl) (by simp) ?_
      refine AllReadyH.cons (o := ⟨some 17, .call { callee := Callee.value (.func 44), args := #[.tmp 15, .tmp 16], argTypes := #[61, 36] }, 9, "l03_entry.go:355", #[⟨1, .data⟩, ⟨2, .data⟩], none⟩) rfl (fun K hK => ?_) (AllReadyH.cons (o := ⟨some 19, .makeSlice 22 (.const (Value.int IntKind.i64 41)) (.const (Value.int IntKind.i64 41)), 22, "l03_entry.go:355", #[], none⟩) rfl (fun K hK => ?_) (AllReadyH.nil))
      · go_simp
        refine (pick_any q w3.heap.size 2 [⟨#[65]⟩, ⟨#[99, 110]⟩] _ 9 (0, 0) x1 s_x1.1 (by omega) fA_x1 rfl rfl (by decide) (by decide)).mono ?_
        rintro e x2 ⟨⟨A, hA, rfl⟩, k_x2⟩
        have zA : A.size ≤ 41 := (by simp at hA; rcases hA with rfl | rfl <;> first | decide | omega)
        have s_x2 := s_x1.trans k_x2
        clear hA
        clear hHeld
        refine hK.out _ _ ?_ (fun hHeld => ?_)
        · (try dsimp only)
          first | exact SK.out _ (by assumption) | exact SK.out _ sd | exact SK.out _ sN | exact hSf _ _
        clear hK K
        (try simp only [Act.put, List.setIfInBounds_toArray, List.set_cons_zero, List.set_cons_succ])
        refine wpAnyH_ready (rs := [5]) (by kernel_rfl) (by simp) ?_
        refine AllReadyH.cons (o := ⟨some 19, .makeSlice 22 (.const (Value.int IntKind.i64 41)) (.const (Value.int IntKind.i64 41)), 22, "l03_entry.go:355", #[], none⟩) rfl (fun K hK => ?_) (AllReadyH.nil)
        go_simp
        obtain ⟨x3, h_x3⟩ : ∃ X, X = x2.alloc (.cells (madeCells #[.int .u8 0] 41) 5) := ⟨_, rfl⟩
        have s_x3 : Still q w3 x3 := by rw [h_x3]; exact s_x2.alloc hq3 _ _
        have fM_x3 : x3.heap[x2.heap.size]? = some (.cells (madeCells #[.int .u8 0] 41) 5) := by rw [h_x3]; exact look_z1 x2 _
        have gM_x3 : q < x2.heap.size := s_x2.1.lt
        have sN := s_x3
        rw [← h_x3]
        clear h_x3
        clear hHeld
        refine hK.out _ _ ?_ (fun hHeld => ?_)
        · (try dsimp only)
          first | exact SK.out _ (by assumption) | exact SK.out _ sd | exact SK.out _ sN | exact hSf _ _
        clear hK K
        (try simp only [Act.put, List.setIfInBounds_toArray, List.set_cons_zero, List.set_cons_succ])
        refine wpAnyH_ready (rs := [6]) (by kernel_rfl) (by simp) ?_
        refine AllReadyH.cons (o := ⟨some 20, .convert 22 9 (.tmp 19), 9, "l03_entry.go:355", #[⟨5, .data⟩], none⟩) rfl (fun K hK => ?_) (AllReadyH.nil)
        have hcv := zero_at fM_x3
        rw [← HZ.out] at hcv
        go_simp
        clear hHeld
        refine hK.out _ _ ?_ (fun hHeld => ?_)
        · (try dsimp only)
          first | exact SK.out _ (by assumption) | exact SK.out _ sd | exact SK.out _ sN | exact hSf _ _
        clear hK K
        (try simp only [Act.put, List.setIfInBounds_toArray, List.set_cons_zero, List.set_cons_succ])
        refine wpAnyH_ready (rs := [7]) (by kernel_rfl) (by simp) ?_
        refine AllReadyH.cons (o := ⟨some 21, .buildSlice 36 3 #[(0, .const (Value.string { data := #[] })), (1, .const (Value.string { data := #[32] })), (2, .tmp 20)], 36, "l03_entry.go:355", #[⟨6, .data⟩], none⟩) rfl (fun K hK => ?_) (AllReadyH.nil)
        go_simp
        obtain ⟨x4, h_x4⟩ : ∃ X, X = x3.alloc (.cells #[.string ⟨#[]⟩, .string ⟨#[32]⟩, .string Z] 9) := ⟨_, rfl⟩
        have s_x4 : Still q w3 x4 := by rw [h_x4]; exact s_x3.alloc hq3 _ _
        have fB_x4 : x4.heap[x3.heap.size]? = some (.cells #[.string ⟨#[]⟩, .string ⟨#[32]⟩, .string Z] 9) := by rw [h_x4]; exact look_z1 x3 _
        have gB_x4 : q < x3.heap.size := s_x3.1.lt
        have sN := s_x4
        rw [← h_x4]
        clear h_x4
        clear hHeld
        refine hK.out _ _ ?_ (fun hHeld => ?_)
        · (try dsimp only)
          first | exact SK.out _ (by assumption) | exact SK.out _ sd | exact SK.out _ sN | exact hSf _ _
        clear hK K
        (try simp only [Act.put, List.setIfInBounds_toArray, List.set_cons_zero, List.set_cons_succ])
        refine wpAnyH_ready (rs := [8]) (by kernel_rfl) (by simp) ?_
        refine AllReadyH.cons (o := ⟨some 22, .call { callee := Callee.value (.func 44), args := #[.tmp 18, .tmp 21], argTypes := #[61, 36] }, 9, "l03_entry.go:355", #[⟨4, .data⟩, ⟨7, .data⟩, ⟨3, .chain⟩], none⟩) rfl (fun K hK => ?_) (AllReadyH.nil)
        go_simp
        refine (pick_any q x3.heap.size 3 [⟨#[]⟩, ⟨#[32]⟩, Z] _ 9 (0, 0) x4 s_x4.1 (by omega) fB_x4 rfl rfl (by decide) (by decide)).mono ?_
        rintro e x5 ⟨⟨B, hB, rfl⟩, k_x5⟩
        have zB : B.size ≤ 41 := (by simp at hB; rcases hB with rfl | rfl | rfl <;> first | decide | omega)
        have s_x5 := s_x4.trans k_x5
        clear hB
        clear hHeld
        refine hK.out _ _ ?_ (fun hHeld => ?_)
        · (try dsimp only)
          first | exact SK.out _ (by assumption) | exact SK.out _ sd | exact SK.out _ sN | exact hSf _ _
        clear hK K
        (try simp only [Act.put, List.setIfInBounds_toArray, List.set_cons_zero, List.set_cons_succ])
        refine wpAnyH_ready (rs := [9]) (by kernel_rfl) (by simp) ?_
        refine AllReadyH.cons (o := ⟨none, .store 26 (.tmp 2) (.tmp 14), 0, "l03_entry.go:355", #[⟨0, .data⟩, ⟨8, .chain⟩, ⟨0, .phase⟩, ⟨1, .textOnly .lateStores⟩, ⟨2, .textOnly .lateStores⟩, ⟨3, .textOnly .lateStoresUnsure⟩, ⟨4, .textOnly .lateStores⟩, ⟨5, .textOnly .lateStoresUnsure⟩, ⟨6, .textOnly .lateStores⟩, ⟨7, .textOnly .lateStores⟩, ⟨8, .textOnly .lateStoresUnsure⟩], none⟩) rfl (fun K hK => ?_) (AllReadyH.nil)
        have T9 := two_still T3.out s_x5 (by omega)
        obtain ⟨⟨r0, r1⟩, rf0, rf1⟩ := T9.cells
        have E9 := two_still HE.out s_x5 (by omega)
        have hSf : ∀ x y : Value, ((x5.setCell ⟨w.heap.size, 0, none⟩ x).setCell ⟨w.heap.size, 1, none⟩ y).cell? ⟨E, 0, none⟩ = some (.slice vo d.length vc) ∧ ((x5.setCell ⟨w.heap.size, 0, none⟩ x).setCell ⟨w.heap.size, 1, none⟩ y).cell? ⟨E, 1, none⟩ = some (.slice ao1 l.length ac) := fun x y => ((E9.far (by omega) x).far (by omega) y).cells.1
        go_simp
        clear hHeld
        refine hK.out _ _ ?_ (fun hHeld => ?_)
        · (try dsimp only)
          first | exact SK.out _ (by assumption) | exact SK.out _ sd | exact SK.out _ sN | exact hSf _ _
        clear hK K
        (try simp only [Act.put, List.setIfInBounds_toArray, List.set_cons_zero, List.set_cons_succ])
        refine wpAnyH_take (i := 10) (oi := ⟨some 3, .assign (.tmp 17), 9, "l03_entry.go:355", #[⟨3, .data⟩, ⟨9, .chain⟩, ⟨0, .phase⟩, ⟨1, .phase⟩, ⟨2, .phase⟩, ⟨3, .phase⟩, ⟨4, .textOnly .lateStores⟩, ⟨5, .textOnly .lateStoresUnsure⟩, ⟨6, .textOnly .lateStores⟩, ⟨7, .textOnly .lateStores⟩, ⟨8, .textOnly .lateStoresUnsure⟩, ⟨9, .phase⟩], none⟩) (v := ?_) rfl (by kernel_rfl) (by kernel_rfl) (by kernel_rfl) (fun _ _ _ h => h) (Or.inl ⟨by rfl, ?_⟩) (by assumption) ?_
        rotate_left
        · intro w hSw; (try dsimp only at hSw); go_simp; (try with_reducible rfl)
        (try simp only [Act.put, List.setIfInBounds_toArray, List.set_cons_zero, List.set_cons_succ])
        refine wpAnyH_take (i := 11) (oi := ⟨some 4, .assign (.tmp 22), 9, "l03_entry.go:355", #[⟨8, .data⟩, ⟨10, .chain⟩, ⟨0, .phase⟩, ⟨1, .phase⟩, ⟨2, .phase⟩, ⟨3, .phase⟩, ⟨4, .phase⟩, ⟨5, .phase⟩, ⟨6, .phase⟩, ⟨7, .phase⟩, ⟨8, .phase⟩, ⟨9, .phase⟩, ⟨10, .phase⟩], none⟩) (v := ?_) rfl (by kernel_rfl) (by kernel_rfl) (by kernel_rfl) (fun _ _ _ h => h) (Or.inl ⟨by rfl, ?_⟩) (by assumption) ?_
        rotate_left
        · intro w hSw; (try dsimp only at hSw); go_simp; (try with_reducible rfl)
        (try simp only [Act.put, List.setIfInBounds_toArray, List.set_cons_zero, List.set_cons_succ])
        refine wpAnyH_done (by kernel_rfl) ?_ _
        clear hHeld hSf
        obtain ⟨⟨z0, z1⟩, _⟩ := ((T9.set0 (.slice vo d.length vc)).set1 (.slice ao1 l.length ac)).cells
        have HF := Lib.hid (fin3 (nm := A) (val := B) hbase hq T3.out T9 s_x5 O3.out A3.out hd HSh.out HSm.out zA zB)
        go_wp2_with fail
        exact bodyPost_ret (v := .tuple #[.agg #[.slice vo d.length vc, .slice ao1 l.length ac], .string A, .string B]) (by simp [results, Tryz.results8, go_sem, z0, z1]) rfl HF.out
      · go_simp
        obtain ⟨x6, h_x6⟩ : ∃ X, X = x1.alloc (.cells (madeCells #[.int .u8 0] 41) 5) := ⟨_, rfl⟩
        have s_x6 : Still q w3 x6 := by rw [h_x6]; exact s_x1.alloc hq3 _ _
        have fM_x6 : x6.heap[x1.heap.size]? = some (.cells (madeCells #[.int .u8 0] 41) 5) := by rw [h_x6]; exact look_z1 x1 _
        have fA_x6 : x6.heap[w3.heap.size]? = some (.cells #[.string ⟨#[65]⟩, .string ⟨#[99, 110]⟩] 9) := by rw [h_x6]; exact look_old _ _ _ _ fA_x1
        have gM_x6 : q < x1.heap.size := s_x1.1.lt
        have sN := s_x6
        rw [← h_x6]
        clear h_x6
        clear hHeld
        refine hK.out _ _ ?_ (fun hHeld => ?_)
        · (try dsimp only)
          first | exact SK.out _ (by assumption) | exact SK.out _ sd | exact SK.out _ sN | exact hSf _ _
        clear hK K
        (try simp only [Act.put, List.setIfInBounds_toArray, List.set_cons_zero, List.set_cons_succ])
        refine wpAnyH_ready (rs := [3, 6]) (by kernel_rfl) (by simp) ?_
        refine AllReadyH.cons (o := ⟨some 17, .call { callee := Callee.value (.func 44), args := #[.tmp 15, .tmp 16], argTypes := #[61, 36] }, 9, "l03_entry.go:355", #[⟨1, .data⟩, ⟨2, .data⟩], none⟩) rfl (fun K hK => ?_) (AllReadyH.cons (o := ⟨some 20, .convert 22 9 (.tmp 19), 9, "l03_entry.go:355", #[⟨5, .data⟩], none⟩) rfl (fun K hK => ?_) (AllReadyH.nil))
        · go_simp
          refine (pick_any q w3.heap.size 2 [⟨#[65]⟩, ⟨#[99, 110]⟩] _ 9 (0, 0) x6 s_x6.1 (by omega) fA_x6 rfl rfl (by decide) (by decide)).mono ?_
          rintro e x7 ⟨⟨A, hA, rfl⟩, k_x7⟩
          have zA : A.size ≤ 41 := (by simp at hA; rcases hA with rfl | rfl <;> first | decide | omega)
          have s_x7 := s_x6.trans k_x7
          have fM_x7 := (k_x7.2.block _ (Array.getElem?_eq_some_iff.1 fM_x6).1 (fun e => by have := Option.some.inj e; omega)).trans fM_x6
          clear hA
          clear hHeld
          refine hK.out _ _ ?_ (fun hHeld => ?_)
          · (try dsimp only)
            first | exact SK.out _ (by assumption) | exact SK.out _ sd | exact SK.out _ sN | exact hSf _ _
          clear hK K
          (try simp only [Act.put, List.setIfInBounds_toArray, List.set_cons_zero, List.set_cons_succ])
          refine wpAnyH_ready (rs := [6]) (by kernel_rfl) (by simp) ?_
          refine AllReadyH.cons (o := ⟨some 20, .convert 22 9 (.tmp 19), 9, "l03_entry.go:355", #[⟨5, .data⟩], none⟩) rfl (fun K hK => ?_) (AllReadyH.nil)
          have hcv := zero_at fM_x7
          rw [← HZ.out] at hcv
          go_simp
          clear hHeld
          refine hK.out _ _ ?_ (fun hHeld => ?_)
          · (try dsimp only)
            first | exact SK.out _ (by assumption) | exact SK.out _ sd | exact SK.out _ sN | exact hSf _ _
          clear hK K
          (try simp only [Act.put, List.setIfInBounds_toArray, List.set_cons_zero, List.set_cons_succ])
          refine wpAnyH_ready (rs := [7]) (by kernel_rfl) (by simp) ?_
          refine AllReadyH.cons (o := ⟨some 21, .buildSlice 36 3 #[(0, .const (Value.string { data := #[] })), (1, .const (Value.string { data := #[32] })), (2, .tmp 20)], 36, "l03_entry.go:355", #[⟨6, .data⟩], none⟩) rfl (fun K hK => ?_) (AllReadyH.nil)
          go_simp
          obtain ⟨x8, h_x8⟩ : ∃ X, X = x7.alloc (.cells #[.string ⟨#[]⟩, .string ⟨#[32]⟩, .string Z] 9) := ⟨_, rfl⟩
          have s_x8 : Still q w3 x8 := by rw [h_x8]; exact s_x7.alloc hq3 _ _
          have fB_x8 : x8.heap[x7.heap.size]? = some (.cells #[.string ⟨#[]⟩, .string ⟨#[32]⟩, .string Z] 9) := by rw [h_x8]; exact look_z1 x7 _
          have gB_x8 : q < x7.heap.size := s_x7.1.lt
          have sN := s_x8
          rw [← h_x8]
          clear h_x8
          clear hHeld
          refine hK.out _ _ ?_ (fun hHeld => ?_)
          · (try dsimp only)
            first | exact SK.out _ (by assumption) | exact SK.out _ sd | exact SK.out _ sN | exact hSf _ _
          clear hK K
          (try simp only [Act.put, List.setIfInBounds_toArray, List.set_cons_zero, List.set_cons_succ])
          refine wpAnyH_ready (rs := [8]) (by kernel_rfl) (by simp) ?_
          refine AllReadyH.cons (o := ⟨some 22, .call { callee := Callee.value (.func 44), args := #[.tmp 18, .tmp 21], argTypes := #[61, 36] }, 9, "l03_entry.go:355", #[⟨4, .data⟩, ⟨7, .data⟩, ⟨3, .chain⟩], none⟩) rfl (fun K hK => ?_) (AllReadyH.nil)
          go_simp
          refine (pick_any q x7.heap.size 3 [⟨#[]⟩, ⟨#[32]⟩, Z] _ 9 (0, 0) x8 s_x8.1 (by omega) fB_x8 rfl rfl (by decide) (by decide)).mono ?_
          rintro e x9 ⟨⟨B, hB, rfl⟩, k_x9⟩
          have zB : B.size ≤ 41 := (by simp at hB; rcases hB with rfl | rfl | rfl <;> first | decide | omega)
          have s_x9 := s_x8.trans k_x9
          clear hB
          clear hHeld
          refine hK.out _ _ ?_ (fun hHeld => ?_)
          · (try dsimp only)
            first | exact SK.out _ (by assumption) | exact SK.out _ sd | exact SK.out _ sN | exact hSf _ _
          clear hK K
          (try simp only [Act.put, List.setIfInBounds_toArray, List.set_cons_zero, List.set_cons_succ])
          refine wpAnyH_ready (rs := [9]) (by kernel_rfl) (by simp) ?_
          refine AllReadyH.cons (o := ⟨none, .store 26 (.tmp 2) (.tmp 14), 0, "l03_entry.go:355", #[⟨0, .data⟩, ⟨8, .chain⟩, ⟨0, .phase⟩, ⟨1, .textOnly .lateStores⟩, ⟨2, .textOnly .lateStores⟩, ⟨3, .textOnly .lateStoresUnsure⟩, ⟨4, .textOnly .lateStores⟩, ⟨5, .textOnly .lateStoresUnsure⟩, ⟨6, .textOnly .lateStores⟩, ⟨7, .textOnly .lateStores⟩, ⟨8, .textOnly .lateStoresUnsure⟩], none⟩) rfl (fun K hK => ?_) (AllReadyH.nil)
          have T9 := two_still T3.out s_x9 (by omega)
          obtain ⟨⟨r0, r1⟩, rf0, rf1⟩ := T9.cells
          have E9 := two_still HE.out s_x9 (by omega)
          have hSf : ∀ x y : Value, ((x9.setCell ⟨w.heap.size, 0, none⟩ x).setCell ⟨w.heap.size, 1, none⟩ y).cell? ⟨E, 0, none⟩ = some (.slice vo d.length vc) ∧ ((x9.setCell ⟨w.heap.size, 0, none⟩ x).setCell ⟨w.heap.size, 1, none⟩ y).cell? ⟨E, 1, none⟩ = some (.slice ao1 l.length ac) := fun x y => ((E9.far (by omega) x).far (by omega) y).cells.1
          go_simp
          clear hHeld
          refine hK.out _ _ ?_ (fun hHeld => ?_)
          · (try dsimp only)
            first | exact SK.out _ (by assumption) | exact SK.out _ sd | exact SK.out _ sN | exact hSf _ _
          clear hK K
          (try simp only [Act.put, List.setIfInBounds_toArray, List.set_cons_zero, List.set_cons_succ])
          refine wpAnyH_take (i := 10) (oi := ⟨some 3, .assign (.tmp 17), 9, "l03_entry.go:355", #[⟨3, .data⟩, ⟨9, .chain⟩, ⟨0, .phase⟩, ⟨1, .phase⟩, ⟨2, .phase⟩, ⟨3, .phase⟩, ⟨4, .textOnly .lateStores⟩, ⟨5, .textOnly .lateStoresUnsure⟩, ⟨6, .textOnly .lateStores⟩, ⟨7, .textOnly .lateStores⟩, ⟨8, .textOnly .lateStoresUnsure⟩, ⟨9, .phase⟩], none⟩) (v := ?_) rfl (by kernel_rfl) (by kernel_rfl) (by kernel_rfl) (fun _ _ _ h => h) (Or.inl ⟨by rfl, ?_⟩) (by assumption) ?_
          rotate_left
          · intro w hSw; (try dsimp only at hSw); go_simp; (try with_reducible rfl)
          (try simp only [Act.put, List.setIfInBounds_toArray, List.set_cons_zero, List.set_cons_succ])
          refine wpAnyH_take (i := 11) (oi := ⟨some 4, .assign (.tmp 22), 9, "l03_entry.go:355", #[⟨8, .data⟩, ⟨10, .chain⟩, ⟨0, .phase⟩, ⟨1, .phase⟩, ⟨2, .phase⟩, ⟨3, .phase⟩, ⟨4, .phase⟩, ⟨5, .phase⟩, ⟨6, .phase⟩, ⟨7, .phase⟩, ⟨8, .phase⟩, ⟨9, .phase⟩, ⟨10, .phase⟩], none⟩) (v := ?_) rfl (by kernel_rfl) (by kernel_rfl) (by kernel_rfl) (fun _ _ _ h => h) (Or.inl ⟨by rfl, ?_⟩) (by assumption) ?_
          rotate_left
          · intro w hSw; (try dsimp only at hSw); go_simp; (try with_reducible rfl)
          (try simp only [Act.put, List.setIfInBounds_toArray, List.set_cons_zero, List.set_cons_succ])
          refine wpAnyH_done (by kernel_rfl) ?_ _
          clear hHeld hSf
          obtain ⟨⟨z0, z1⟩, _⟩ := ((T9.set0 (.slice vo d.length vc)).set1 (.slice ao1 l.length ac)).cells
          have HF := Lib.hid (fin3 (nm := A) (val := B) hbase hq T3.out T9 s_x9 O3.out A3.out hd HSh.out HSm.out zA zB)
          go_wp2_with fail
          exact bodyPost_ret (v := .tuple #[.agg #[.slice vo d.length vc, .slice ao1 l.length ac], .string A, .string B]) (by simp [results, Tryz.results8, go_sem, z0, z1]) rfl HF.out
        · have hcv := zero_at fM_x6
          rw [← HZ.out] at hcv
          go_simp
          clear hHeld
          refine hK.out _ _ ?_ (fun hHeld => ?_)
          · (try dsimp only)
            first | exact SK.out _ (by assumption) | exact SK.out _ sd | exact SK.out _ sN | exact hSf _ _
          clear hK K
          (try simp only [Act.put, List.setIfInBounds_toArray, List.set_cons_zero, List.set_cons_succ])
          refine wpAnyH_ready (rs := [3, 7]) (by kernel_rfl) (by simp) ?_
          refine AllReadyH.cons (o := ⟨some 17, .call { callee := Callee.value (.func 44), args := #[.tmp 15, .tmp 16], argTypes := #[61, 36] }, 9, "l03_entry.go:355", #[⟨1, .data⟩, ⟨2, .data⟩], none⟩) rfl (fun K hK => ?_) (AllReadyH.cons (o := ⟨some 21, .buildSlice 36 3 #[(0, .const (Value.string { data := #[] })), (1, .const (Value.string { data := #[32] })), (2, .tmp 20)], 36, "l03_entry.go:355", #[⟨6, .data⟩], none⟩) rfl (fun K hK => ?_) (AllReadyH.nil))
          · go_simp
            refine (pick_any q w3.heap.size 2 [⟨#[65]⟩, ⟨#[99, 110]⟩] _ 9 (0, 0) x6 s_x6.1 (by omega) fA_x6 rfl rfl (by decide) (by decide)).mono ?_
            rintro e x10 ⟨⟨A, hA, rfl⟩, k_x10⟩
            have zA : A.size ≤ 41 := (by simp at hA; rcases hA with rfl | rfl <;> first | decide | omega)
            have s_x10 := s_x6.trans k_x10
            have fM_x10 := (k_x10.2.block _ (Array.getElem?_eq_some_iff.1 fM_x6).1 (fun e => by have := Option.some.inj e; omega)).trans fM_x6
            clear hA
            clear hHeld
            refine hK.out _ _ ?_ (fun hHeld => ?_)
            · (try dsimp only)
              first | exact SK.out _ (by assumption) | exact SK.out _ sd | exact SK.out _ sN | exact hSf _ _
            clear hK K
            (try simp only [Act.put, List.setIfInBounds_toArray, List.set_cons_zero, List.set_cons_succ])
            refine wpAnyH_ready (rs := [7]) (by kernel_rfl) (by simp) ?_
            refine AllReadyH.cons (o := ⟨some 21, .buildSlice 36 3 #[(0, .const (Value.string { data := #[] })), (1, .const (Value.string { data := #[32] })), (2, .tmp 20)], 36, "l03_entry.go:355", #[⟨6, .data⟩], none⟩) rfl (fun K hK => ?_) (AllReadyH.nil)
            go_simp
            obtain ⟨x11, h_x11⟩ : ∃ X, X = x10.alloc (.cells #[.string ⟨#[]⟩, .string ⟨#[32]⟩, .string Z] 9) := ⟨_, rfl⟩
            have s_x11 : Still q w3 x11 := by rw [h_x11]; exact s_x10.alloc hq3 _ _
            have fB_x11 : x11.heap[x10.heap.size]? = some (.cells #[.string ⟨#[]⟩, .string ⟨#[32]⟩, .string Z] 9) := by rw [h_x11]; exact look_z1 x10 _
            have gB_x11 : q < x10.heap.size := s_x10.1.lt
            have sN := s_x11
            rw [← h_x11]
            clear h_x11
            clear hHeld
            refine hK.out _ _ ?_ (fun hHeld => ?_)
            · (try dsimp only)
              first | exact SK.out _ (by assumption) | exact SK.out _ sd | exact SK.out _ sN | exact hSf _ _
            clear hK K
            (try simp only [Act.put, List.setIfInBounds_toArray, List.set_cons_zero, List.set_cons_succ])
            refine wpAnyH_ready (rs := [8]) (by kernel_rfl) (by simp) ?_
            refine AllReadyH.cons (o := ⟨some 22, .call { callee := Callee.value (.func 44), args := #[.tmp 18, .tmp 21], argTypes := #[61, 36] }, 9, "l03_entry.go:355", #[⟨4, .data⟩, ⟨7, .data⟩, ⟨3, .chain⟩], none⟩) rfl (fun K hK => ?_) (AllReadyH.nil)
            go_simp
            refine (pick_any q x10.heap.size 3 [⟨#[]⟩, ⟨#[32]⟩, Z] _ 9 (0, 0) x11 s_x11.1 (by omega) fB_x11 rfl rfl (by decide) (by decide)).mono ?_
            rintro e x12 ⟨⟨B, hB, rfl⟩, k_x12⟩
            have zB : B.size ≤ 41 := (by simp at hB; rcases hB with rfl | rfl | rfl <;> first | decide | omega)
            have s_x12 := s_x11.trans k_x12
            clear hB
            clear hHeld
            refine hK.out _ _ ?_ (fun hHeld => ?_)
            · (try dsimp only)
              first | exact SK.out _ (by assumption) | exact SK.out _ sd | exact SK.out _ sN | exact hSf _ _
            clear hK K
            (try simp only [Act.put, List.setIfInBounds_toArray, List.set_cons_zero, List.set_cons_succ])
            refine wpAnyH_ready (rs := [9]) (by kernel_rfl) (by simp) ?_
            refine AllReadyH.cons (o := ⟨none, .store 26 (.tmp 2) (.tmp 14), 0, "l03_entry.go:355", #[⟨0, .data⟩, ⟨8, .chain⟩, ⟨0, .phase⟩, ⟨1, .textOnly .lateStores⟩, ⟨2, .textOnly .lateStores⟩, ⟨3, .textOnly .lateStoresUnsure⟩, ⟨4, .textOnly .lateStores⟩, ⟨5, .textOnly .lateStoresUnsure⟩, ⟨6, .textOnly .lateStores⟩, ⟨7, .textOnly .lateStores⟩, ⟨8, .textOnly .lateStoresUnsure⟩], none⟩) rfl (fun K hK => ?_) (AllReadyH.nil)
            have T9 := two_still T3.out s_x12 (by omega)
            obtain ⟨⟨r0, r1⟩, rf0, rf1⟩ := T9.cells
            have E9 := two_still HE.out s_x12 (by omega)
            have hSf : ∀ x y : Value, ((x12.setCell ⟨w.heap.size, 0, none⟩ x).setCell ⟨w.heap.size, 1, none⟩ y).cell? ⟨E, 0, none⟩ = some (.slice vo d.length vc) ∧ ((x12.setCell ⟨w.heap.size, 0, none⟩ x).setCell ⟨w.heap.size, 1, none⟩ y).cell? ⟨E, 1, none⟩ = some (.slice ao1 l.length ac) := fun x y => ((E9.far (by omega) x).far (by omega) y).cells.1
            go_simp
            clear hHeld
            refine hK.out _ _ ?_ (fun hHeld => ?_)
            · (try dsimp only)
              first | exact SK.out _ (by assumption) | exact SK.out _ sd | exact SK.out _ sN | exact hSf _ _
            clear hK K
            (try simp only [Act.put, List.setIfInBounds_toArray, List.set_cons_zero, List.set_cons_succ])
            refine wpAnyH_take (i := 10) (oi := ⟨some 3, .assign (.tmp 17), 9, "l03_entry.go:355", #[⟨3, .data⟩, ⟨9, .chain⟩, ⟨0, .phase⟩, ⟨1, .phase⟩, ⟨2, .phase⟩, ⟨3, .phase⟩, ⟨4, .textOnly .lateStores⟩, ⟨5, .textOnly .lateStoresUnsure⟩, ⟨6, .textOnly .lateStores⟩, ⟨7, .textOnly .lateStores⟩, ⟨8, .textOnly .lateStoresUnsure⟩, ⟨9, .phase⟩], none⟩) (v := ?_) rfl (by kernel_rfl) (by kernel_rfl) (by kernel_rfl) (fun _ _ _ h => h) (Or.inl ⟨by rfl, ?_⟩) (by assumption) ?_
            rotate_left
            · intro w hSw; (try dsimp only at hSw); go_simp; (try with_reducible rfl)
            (try simp only [Act.put, List.setIfInBounds_toArray, List.set_cons_zero, List.set_cons_succ])
            refine wpAnyH_take (i := 11) (oi := ⟨some 4, .assign (.tmp 22), 9, "l03_entry.go:355", #[⟨8, .data⟩, ⟨10, .chain⟩, ⟨0, .phase⟩, ⟨1, .phase⟩, ⟨2, .phase⟩, ⟨3, .phase⟩, ⟨4, .phase⟩, ⟨5, .phase⟩, ⟨6, .phase⟩, ⟨7, .phase⟩, ⟨8, .phase⟩, ⟨9, .phase⟩, ⟨10, .phase⟩], none⟩) (v := ?_) rfl (by kernel_rfl) (by kernel_rfl) (by kernel_rfl) (fun _ _ _ h => h) (Or.inl ⟨by rfl, ?_⟩) (by assumption) ?_
            rotate_left
            · intro w hSw; (try dsimp only at hSw); go_simp; (try with_reducible rfl)
            (try simp only [Act.put, List.setIfInBounds_toArray, List.set_cons_zero, List.set_cons_succ])
            refine wpAnyH_done (by kernel_rfl) ?_ _
            clear hHeld hSf
            obtain ⟨⟨z0, z1⟩, _⟩ := ((T9.set0 (.slice vo d.length vc)).set1 (.slice ao1 l.length ac)).cells
            have HF := Lib.hid (fin3 (nm := A) (val := B) hbase hq T3.out T9 s_x12 O3.out A3.out hd HSh.out HSm.out zA zB)
            go_wp2_with fail
            exact bodyPost_ret (v := .tuple #[.agg #[.slice vo d.length vc, .slice ao1 l.length ac], .string A, .string B]) (by simp [results, Tryz.results8, go_sem, z0, z1]) rfl HF.out
          · go_simp
            obtain ⟨x13, h_x13⟩ : ∃ X, X = x6.alloc (.cells #[.string ⟨#[]⟩, .string ⟨#[32]⟩, .string Z] 9) := ⟨_, rfl⟩
            have s_x13 : Still q w3 x13 := by rw [h_x13]; exact s_x6.alloc hq3 _ _
            have fB_x13 : x13.heap[x6.heap.size]? = some (.cells #[.string ⟨#[]⟩, .string ⟨#[32]⟩, .string Z] 9) := by rw [h_x13]; exact look_z1 x6 _
            have fA_x13 : x13.heap[w3.heap.size]? = some (.cells #[.string ⟨#[65]⟩, .string ⟨#[99, 110]⟩] 9) := by rw [h_x13]; exact look_old _ _ _ _ fA_x6
            have gB_x13 : q < x6.heap.size := s_x6.1.lt
            have sN := s_x13
            rw [← h_x13]
            clear h_x13
            clear hHeld
            refine hK.out _ _ ?_ (fun hHeld => ?_)
            · (try dsimp only)
              first | exact SK.out _ (by assumption) | exact SK.out _ sd | exact SK.out _ sN | exact hSf _ _
            clear hK K
            (try simp only [Act.put, List.setIfInBounds_toArray, List.set_cons_zero, List.set_cons_succ])
            refine wpAnyH_ready (rs := [3]) (by kernel_rfl) (by simp) ?_
            refine AllReadyH.cons (o := ⟨some 17, .call { callee := Callee.value (.func 44), args := #[.tmp 15, .tmp 16], argTypes := #[61, 36] }, 9, "l03_entry.go:355", #[⟨1, .data⟩, ⟨2, .data⟩], none⟩) rfl (fun K hK => ?_) (AllReadyH.nil)
            go_simp
            refine (pick_any q w3.heap.size 2 [⟨#[65]⟩, ⟨#[99, 110]⟩] _ 9 (0, 0) x13 s_x13.1 (by omega) fA_x13 rfl rfl (by decide) (by decide)).mono ?_
            rintro e x14 ⟨⟨A, hA, rfl⟩, k_x14⟩
            have zA : A.size ≤ 41 := (by simp at hA; rcases hA with rfl | rfl <;> first | decide | omega)
            have s_x14 := s_x13.trans k_x14
            have fB_x14 := (k_x14.2.block _ (Array.getElem?_eq_some_iff.1 fB_x13).1 (fun e => by have := Option.some.inj e; omega)).trans fB_x13
            clear hA
            clear hHeld
            refine hK.out _ _ ?_ (fun hHeld => ?_)
            · (try dsimp only)
              first | exact SK.out _ (by assumption) | exact SK.out _ sd | exact SK.out _ sN | exact hSf _ _
            clear hK K
            (try simp only [Act.put, List.setIfInBounds_toArray, List.set_cons_zero, List.set_cons_succ])
            refine wpAnyH_ready (rs := [8]) (by kernel_rfl) (by simp) ?_
            refine AllReadyH.cons (o := ⟨some 22, .call { callee := Callee.value (.func 44), args := #[.tmp 18, .tmp 21], argTypes := #[61, 36] }, 9, "l03_entry.go:355", #[⟨4, .data⟩, ⟨7, .data⟩, ⟨3, .chain⟩], none⟩) rfl (fun K hK => ?_) (AllReadyH.nil)
            go_simp
            refine (pick_any q x6.heap.size 3 [⟨#[]⟩, ⟨#[32]⟩, Z] _ 9 (0, 0) x14 s_x14.1 (by omega) fB_x14 rfl rfl (by decide) (by decide)).mono ?_
            rintro e x15 ⟨⟨B, hB, rfl⟩, k_x15⟩
            have zB : B.size ≤ 41 := (by simp at hB; rcases hB with rfl | rfl | rfl <;> first | decide | omega)
            have s_x15 := s_x14.trans k_x15
            clear hB
            clear hHeld
            refine hK.out _ _ ?_ (fun hHeld => ?_)
            · (try dsimp only)
              first | exact SK.out _ (by assumption) | exact SK.out _ sd | exact SK.out _ sN | exact hSf _ _
            clear hK K
            (try simp only [Act.put, List.setIfInBounds_toArray, List.set_cons_zero, List.set_cons_succ])
            refine wpAnyH_ready (rs := [9]) (by kernel_rfl) (by simp) ?_
            refine AllReadyH.cons (o := ⟨none, .store 26 (.tmp 2) (.tmp 14), 0, "l03_entry.go:355", #[⟨0, .data⟩, ⟨8, .chain⟩, ⟨0, .phase⟩, ⟨1, .textOnly .lateStores⟩, ⟨2, .textOnly .lateStores⟩, ⟨3, .textOnly .lateStoresUnsure⟩, ⟨4, .textOnly .lateStores⟩, ⟨5, .textOnly .lateStoresUnsure⟩, ⟨6, .textOnly .lateStores⟩, ⟨7, .textOnly .lateStores⟩, ⟨8, .textOnly .lateStoresUnsure⟩], none⟩) rfl (fun K hK => ?_) (AllReadyH.nil)
            have T9 := two_still T3.out s_x15 (by omega)
            obtain ⟨⟨r0, r1⟩, rf0, rf1⟩ := T9.cells
            have E9 := two_still HE.out s_x15 (by omega)
            have hSf : ∀ x y : Value, ((x15.setCell ⟨w.heap.size, 0, none⟩ x).setCell ⟨w.heap.size, 1, none⟩ y).cell? ⟨E, 0, none⟩ = some (.slice vo d.length vc) ∧ ((x15.setCell ⟨w.heap.size, 0, none⟩ x).setCell ⟨w.heap.size, 1, none⟩ y).cell? ⟨E, 1, none⟩ = some (.slice ao1 l.length ac) := fun x y => ((E9.far (by omega) x).far (by omega) y).cells.1
            go_simp
            clear hHeld
            refine hK.out _ _ ?_ (fun hHeld => ?_)
            · (try dsimp only)
              first | exact SK.out _ (by assumption) | exact SK.out _ sd | exact SK.out _ sN | exact hSf _ _
            clear hK K
            (try simp only [Act.put, List.setIfInBounds_toArray, List.set_cons_zero, List.set_cons_succ])
            refine wpAnyH_take (i := 10) (oi := ⟨some 3, .assign (.tmp 17), 9, "l03_entry.go:355", #[⟨3, .data⟩, ⟨9, .chain⟩, ⟨0, .phase⟩, ⟨1, .phase⟩, ⟨2, .phase⟩, ⟨3, .phase⟩, ⟨4, .textOnly .lateStores⟩, ⟨5, .textOnly .lateStoresUnsure⟩, ⟨6, .textOnly .lateStores⟩, ⟨7, .textOnly .lateStores⟩, ⟨8, .textOnly .lateStoresUnsure⟩, ⟨9, .phase⟩], none⟩) (v := ?_) rfl (by kernel_rfl) (by kernel_rfl) (by kernel_rfl) (fun _ _ _ h => h) (Or.inl ⟨by rfl, ?_⟩) (by assumption) ?_
            rotate_left
            · intro w hSw; (try dsimp only at hSw); go_simp; (try with_reducible rfl)
            (try simp only [Act.put, List.setIfInBounds_toArray, List.set_cons_zero, List.set_cons_succ])
            refine wpAnyH_take (i := 11) (oi := ⟨some 4, .assign (.tmp 22), 9, "l03_entry.go:355", #[⟨8, .data⟩, ⟨10, .chain⟩, ⟨0, .phase⟩, ⟨1, .phase⟩, ⟨2, .phase⟩, ⟨3, .phase⟩, ⟨4, .phase⟩, ⟨5, .phase⟩, ⟨6, .phase⟩, ⟨7, .phase⟩, ⟨8, .phase⟩, ⟨9, .phase⟩, ⟨10, .phase⟩], none⟩) (v := ?_) rfl (by kernel_rfl) (by kernel_rfl) (by kernel_rfl) (fun _ _ _ h => h) (Or.inl ⟨by rfl, ?_⟩) (by assumption) ?_
            rotate_left
            · intro w hSw; (try dsimp only at hSw); go_simp; (try with_reducible rfl)
            (try simp only [Act.put, List.setIfInBounds_toArray, List.set_cons_zero, List.set_cons_succ])
            refine wpAnyH_done (by kernel_rfl) ?_ _
            clear hHeld hSf
            obtain ⟨⟨z0, z1⟩, _⟩ := ((T9.set0 (.slice vo d.length vc)).set1 (.slice ao1 l.length ac)).cells
            have HF := Lib.hid (fin3 (nm := A) (val := B) hbase hq T3.out T9 s_x15 O3.out A3.out hd HSh.out HSm.out zA zB)
            go_wp2_with fail
            exact bodyPost_ret (v := .tuple #[.agg #[.slice vo d.length vc, .slice ao1 l.length ac], .string A, .string B]) (by simp [results, Tryz.results8, go_sem, z0, z1]) rfl HF.out
    · go_simp
      obtain ⟨x16, h_x16⟩ : ∃ X, X = (w3.alloc (.cells (madeCells #[.int .u8 0] 41) 5)).drew := ⟨_, rfl⟩
      have s_x16 : Still q w3 x16 := by rw [h_x16]; exact sd.alloc hq3 _ _
      have fM_x16 : x16.heap[w3.heap.size]? = some (.cells (madeCells #[.int .u8 0] 41) 5) := by rw [h_x16]; exact look_z1 w3 _
      have gM_x16 : q < w3.heap.size := hq3
      have sN := s_x16
      rw [← h_x16]
      clear h_x16
      clear hHeld
      refine hK.out _ _ ?_ (fun hHeld => ?_)
      · (try dsimp only)
        first | exact SK.out _ (by assumption) | exact SK.out _ sd | exact SK.out _ sN | exact hSf _ _
      clear hK K
      (try simp only [Act.put, List.setIfInBounds_toArray, List.set_cons_zero, List.set_cons_succ])
      refine wpAnyH_ready (rs := [2, 6]) (by kernel_rfl) (by simp) ?_
      refine AllReadyH.cons (o := ⟨some 16, .buildSlice 36 2 #[(0, .const (Value.string { data := #[65] })), (1, .const (Value.string { data := #[99, 110] }))], 36, "l03_entry.go:355", #[], none⟩) rfl (fun K hK => ?_) (AllReadyH.cons (o := ⟨some 20, .convert 22 9 (.tmp 19), 9, "l03_entry.go:355", #[⟨5, .data⟩], none⟩) rfl (fun K hK => ?_) (AllReadyH.nil))
      · go_simp
        obtain ⟨x17, h_x17⟩ : ∃ X, X = x16.alloc (.cells #[.string ⟨#[65]⟩, .string ⟨#[99, 110]⟩] 9) := ⟨_, rfl⟩
        have s_x17 : Still q w3 x17 := by rw [h_x17]; exact s_x16.alloc hq3 _ _
        have fA_x17 : x17.heap[x16.heap.size]? = some (.cells #[.string ⟨#[65]⟩, .string ⟨#[99, 110]⟩] 9) := by rw [h_x17]; exact look_z1 x16 _
        have fM_x17 : x17.heap[w3.heap.size]? = some (.cells (madeCells #[.int .u8 0] 41) 5) := by rw [h_x17]; exact look_old _ _ _ _ fM_x16
        have gA_x17 : q < x16.heap.size := s_x16.1.lt
        have sN := s_x17
        rw [← h_x17]
        clear h_x17
        clear hHeld
        refine hK.out _ _ ?_ (fun hHeld => ?_)
        · (try dsimp only)
          first | exact SK.out _ (by assumption) | exact SK.out _ sd | exact SK.out _ sN | exact hSf _ _
        clear hK K
        (try simp only [Act.put, List.setIfInBounds_toArray, List.set_cons_zero, List.set_cons_succ])
        refine wpAnyH_ready (rs := [3, 6]) (by kernel_rfl) (by simp) ?_
        refine AllReadyH.cons (o := ⟨some 17, .call { callee := Callee.value (.func 44), args := #[.tmp 15, .tmp 16], argTypes := #[61, 36] }, 9, "l03_entry.go:355", #[⟨1, .data⟩, ⟨2, .data⟩], none⟩) rfl (fun K hK => ?_) (AllReadyH.cons (o := ⟨some 20, .convert 22 9 (.tmp 19), 9, "l03_entry.go:355", #[⟨5, .data⟩], none⟩) rfl (fun K hK => ?_) (AllReadyH.nil))
        · go_simp
          refine (pick_any q x16.heap.size 2 [⟨#[65]⟩, ⟨#[99, 110]⟩] _ 9 (0, 0) x17 s_x17.1 (by omega) fA_x17 rfl rfl (by decide) (by decide)).mono ?_
          rintro e x18 ⟨⟨A, hA, rfl⟩, k_x18⟩
          have zA : A.size ≤ 41 := (by simp at hA; rcases hA with rfl | rfl <;> first | decide | omega)
          have s_x18 := s_x17.trans k_x18
          have fM_x18 := (k_x18.2.block _ (Array.getElem?_eq_some_iff.1 fM_x17).1 (fun e => by have := Option.some.inj e; omega)).trans fM_x17
          clear hA
          clear hHeld
          refine hK.out _ _ ?_ (fun hHeld => ?_)
          · (try dsimp only)
            first | exact SK.out _ (by assumption) | exact SK.out _ sd | exact SK.out _ sN | exact hSf _ _
          clear hK K
          (try simp only [Act.put, List.setIfInBounds_toArray, List.set_cons_zero, List.set_cons_succ])
          refine wpAnyH_ready (rs := [6]) (by kernel_rfl) (by simp) ?_
          refine AllReadyH.cons (o := ⟨some 20, .convert 22 9 (.tmp 19), 9, "l03_entry.go:355", #[⟨5, .data⟩], none⟩) rfl (fun K hK => ?_) (AllReadyH.nil)
          have hcv := zero_at fM_x18
          rw [← HZ.out] at hcv
          go_simp
          clear hHeld
          refine hK.out _ _ ?_ (fun hHeld => ?_)
          · (try dsimp only)
            first | exact SK.out _ (by assumption) | exact SK.out _ sd | exact SK.out _ sN | exact hSf _ _
          clear hK K
          (try simp only [Act.put, List.setIfInBounds_toArray, List.set_cons_zero, List.set_cons_succ])
          refine wpAnyH_ready (rs := [7]) (by kernel_rfl) (by simp) ?_
          refine AllReadyH.cons (o := ⟨some 21, .buildSlice 36 3 #[(0, .const (Value.string { data := #[] })), (1, .const (Value.string { data := #[32] })), (2, .tmp 20)], 36, "l03_entry.go:355", #[⟨6, .data⟩], none⟩) rfl (fun K hK => ?_) (AllReadyH.nil)
          go_simp
          obtain ⟨x19, h_x19⟩ : ∃ X, X = x18.alloc (.cells #[.string ⟨#[]⟩, .string ⟨#[32]⟩, .string Z] 9) := ⟨_, rfl⟩
          have s_x19 : Still q w3 x19 := by rw [h_x19]; exact s_x18.alloc hq3 _ _
          have fB_x19 : x19.heap[x18.heap.size]? = some (.cells #[.string ⟨#[]⟩, .string ⟨#[32]⟩, .string Z] 9) := by rw [h_x19]; exact look_z1 x18 _
          have gB_x19 : q < x18.heap.size := s_x18.1.lt
          have sN := s_x19
          rw [← h_x19]
          clear h_x19
          clear hHeld
          refine hK.out _ _ ?_ (fun hHeld => ?_)
          · (try dsimp only)
            first | exact SK.out _ (by assumption) | exact SK.out _ sd | exact SK.out _ sN | exact hSf _ _
          clear hK K
          (try simp only [Act.put, List.setIfInBounds_toArray, List.set_cons_zero, List.set_cons_succ])
          refine wpAnyH_ready (rs := [8]) (by kernel_rfl) (by simp) ?_
          refine AllReadyH.cons (o := ⟨some 22, .call { callee := Callee.value (.func 44), args := #[.tmp 18, .tmp 21], argTypes := #[61, 36] }, 9, "l03_entry.go:355", #[⟨4, .data⟩, ⟨7, .data⟩, ⟨3, .chain⟩], none⟩) rfl (fun K hK => ?_) (AllReadyH.nil)
          go_simp
          refine (pick_any q x18.heap.size 3 [⟨#[]⟩, ⟨#[32]⟩, Z] _ 9 (0, 0) x19 s_x19.1 (by omega) fB_x19 rfl rfl (by decide) (by decide)).mono ?_
          rintro e x20 ⟨⟨B, hB, rfl⟩, k_x20⟩
          have zB : B.size ≤ 41 := (by simp at hB; rcases hB with rfl | rfl | rfl <;> first | decide | omega)
          have s_x20 := s_x19.trans k_x20
          clear hB
          clear hHeld
          refine hK.out _ _ ?_ (fun hHeld => ?_)
          · (try dsimp only)
            first | exact SK.out _ (by assumption) | exact SK.out _ sd | exact SK.out _ sN | exact hSf _ _
          clear hK K
          (try simp only [Act.put, List.setIfInBounds_toArray, List.set_cons_zero, List.set_cons_succ])
          refine wpAnyH_ready (rs := [9]) (by kernel_rfl) (by simp) ?_
          refine AllReadyH.cons (o := ⟨none, .store 26 (.tmp 2) (.tmp 14), 0, "l03_entry.go:355", #[⟨0, .data⟩, ⟨8, .chain⟩, ⟨0, .phase⟩, ⟨1, .textOnly .lateStores⟩, ⟨2, .textOnly .lateStores⟩, ⟨3, .textOnly .lateStoresUnsure⟩, ⟨4, .textOnly .lateStores⟩, ⟨5, .textOnly .lateStoresUnsure⟩, ⟨6, .textOnly .lateStores⟩, ⟨7, .textOnly .lateStores⟩, ⟨8, .textOnly .lateStoresUnsure⟩], none⟩) rfl (fun K hK => ?_) (AllReadyH.nil)
          have T9 := two_still T3.out s_x20 (by omega)
          obtain ⟨⟨r0, r1⟩, rf0, rf1⟩ := T9.cells
          have E9 := two_still HE.out s_x20 (by omega)
          have hSf : ∀ x y : Value, ((x20.setCell ⟨w.heap.size, 0, none⟩ x).setCell ⟨w.heap.size, 1, none⟩ y).cell? ⟨E, 0, none⟩ = some (.slice vo d.length vc) ∧ ((x20.setCell ⟨w.heap.size, 0, none⟩ x).setCell ⟨w.heap.size, 1, none⟩ y).cell? ⟨E, 1, none⟩ = some (.slice ao1 l.length ac) := fun x y => ((E9.far (by omega) x).far (by omega) y).cells.1
          go_simp
          clear hHeld
          refine hK.out _ _ ?_ (fun hHeld => ?_)
          · (try dsimp only)
            first | exact SK.out _ (by assumption) | exact SK.out _ sd | exact SK.out _ sN | exact hSf _ _
          clear hK K
          (try simp only [Act.put, List.setIfInBounds_toArray, List.set_cons_zero, List.set_cons_succ])
          refine wpAnyH_take (i := 10) (oi := ⟨some 3, .assign (.tmp 17), 9, "l03_entry.go:355", #[⟨3, .data⟩, ⟨9, .chain⟩, ⟨0, .phase⟩, ⟨1, .phase⟩, ⟨2, .phase⟩, ⟨3, .phase⟩, ⟨4, .textOnly .lateStores⟩, ⟨5, .textOnly .lateStoresUnsure⟩, ⟨6, .textOnly .lateStores⟩, ⟨7, .textOnly .lateStores⟩, ⟨8, .textOnly .lateStoresUnsure⟩, ⟨9, .phase⟩], none⟩) (v := ?_) rfl (by kernel_rfl) (by kernel_rfl) (by kernel_rfl) (fun _ _ _ h => h) (Or.inl ⟨by rfl, ?_⟩) (by assumption) ?_
          rotate_left
          · intro w hSw; (try dsimp only at hSw); go_simp; (try with_reducible rfl)
          (try simp only [Act.put, List.setIfInBounds_toArray, List.set_cons_zero, List.set_cons_succ])
          refine wpAnyH_take (i := 11) (oi := ⟨some 4, .assign (.tmp 22), 9, "l03_entry.go:355", #[⟨8, .data⟩, ⟨10, .chain⟩, ⟨0, .phase⟩, ⟨1, .phase⟩, ⟨2, .phase⟩, ⟨3, .phase⟩, ⟨4, .phase⟩, ⟨5, .phase⟩, ⟨6, .phase⟩, ⟨7, .phase⟩, ⟨8, .phase⟩, ⟨9, .phase⟩, ⟨10, .phase⟩], none⟩) (v := ?_) rfl (by kernel_rfl) (by kernel_rfl) (by kernel_rfl) (fun _ _ _ h => h) (Or.inl ⟨by rfl, ?_⟩) (by assumption) ?_
          rotate_left
          · intro w hSw; (try dsimp only at hSw); go_simp; (try with_reducible rfl)
          (try simp only [Act.put, List.setIfInBounds_toArray, List.set_cons_zero, List.set_cons_succ])
          refine wpAnyH_done (by kernel_rfl) ?_ _
          clear hHeld hSf
          obtain ⟨⟨z0, z1⟩, _⟩ := ((T9.set0 (.slice vo d.length vc)).set1 (.slice ao1 l.length ac)).cells
          have HF := Lib.hid (fin3 (nm := A) (val := B) hbase hq T3.out T9 s_x20 O3.out A3.out hd HSh.out HSm.out zA zB)
          go_wp2_with fail
          exact bodyPost_ret (v := .tuple #[.agg #[.slice vo d.length vc, .slice ao1 l.length ac], .string A, .string B]) (by simp [results, Tryz.results8, go_sem, z0, z1]) rfl HF.out
        · have hcv := zero_at fM_x17
          rw [← HZ.out] at hcv
          go_simp
          clear hHeld
          refine hK.out _ _ ?_ (fun hHeld => ?_)
          · (try dsimp only)
            first | exact SK.out _ (by assumption) | exact SK.out _ sd | exact SK.out _ sN | exact hSf _ _
          clear hK K
          (try simp only [Act.put, List.setIfInBounds_toArray, List.set_cons_zero, List.set_cons_succ])
          refine wpAnyH_ready (rs := [3, 7]) (by kernel_rfl) (by simp) ?_
          refine AllReadyH.cons (o := ⟨some 17, .call { callee := Callee.value (.func 44), args := #[.tmp 15, .tmp 16], argTypes := #[61, 36] }, 9, "l03_entry.go:355", #[⟨1, .data⟩, ⟨2, .data⟩], none⟩) rfl (fun K hK => ?_) (AllReadyH.cons (o := ⟨some 21, .buildSlice 36 3 #[(0, .const (Value.string { data := #[] })), (1, .const (Value.string { data := #[32] })), (2, .tmp 20)], 36, "l03_entry.go:355", #[⟨6, .data⟩], none⟩) rfl (fun K hK => ?_) (AllReadyH.nil))
          · go_simp
            refine (pick_any q x16.heap.size 2 [⟨#[65]⟩, ⟨#[99, 110]⟩] _ 9 (0, 0) x17 s_x17.1 (by omega) fA_x17 rfl rfl (by decide) (by decide)).mono ?_
            rintro e x21 ⟨⟨A, hA, rfl⟩, k_x21⟩
            have zA : A.size ≤ 41 := (by simp at hA; rcases hA with rfl | rfl <;> first | decide | omega)
            have s_x21 := s_x17.trans k_x21
            have fM_x21 := (k_x21.2.block _ (Array.getElem?_eq_some_iff.1 fM_x17).1 (fun e => by have := Option.some.inj e; omega)).trans fM_x17
            clear hA
            clear hHeld
            refine hK.out _ _ ?_ (fun hHeld => ?_)
            · (try dsimp only)
              first | exact SK.out _ (by assumption) | exact SK.out _ sd | exact SK.out _ sN | exact hSf _ _
            clear hK K
            (try simp only [Act.put, List.setIfInBounds_toArray, List.set_cons_zero, List.set_cons_succ])
            refine wpAnyH_ready (rs := [7]) (by kernel_rfl) (by simp) ?_
            refine AllReadyH.cons (o := ⟨some 21, .buildSlice 36 3 #[(0, .const (Value.string { data := #[] })), (1, .const (Value.string { data := #[32] })), (2, .tmp 20)], 36, "l03_entry.go:355", #[⟨6, .data⟩], none⟩) rfl (fun K hK => ?_) (AllReadyH.nil)
            go_simp
            obtain ⟨x22, h_x22⟩ : ∃ X, X = x21.alloc (.cells #[.string ⟨#[]⟩, .string ⟨#[32]⟩, .string Z] 9) := ⟨_, rfl⟩
            have s_x22 : Still q w3 x22 := by rw [h_x22]; exact s_x21.alloc hq3 _ _
            have fB_x22 : x22.heap[x21.heap.size]? = some (.cells #[.string ⟨#[]⟩, .string ⟨#[32]⟩, .string Z] 9) := by rw [h_x22]; exact look_z1 x21 _
            have gB_x22 : q < x21.heap.size := s_x21.1.lt
            have sN := s_x22
            rw [← h_x22]
            clear h_x22
            clear hHeld
            refine hK.out _ _ ?_ (fun hHeld => ?_)
            · (try dsimp only)
              first | exact SK.out _ (by assumption) | exact SK.out _ sd | exact SK.out _ sN | exact hSf _ _
            clear hK K
            (try simp only [Act.put, List.setIfInBounds_toArray, List.set_cons_zero, List.set_cons_succ])
            refine wpAnyH_ready (rs := [8]) (by kernel_rfl) (by simp) ?_
            refine AllReadyH.cons (o := ⟨some 22, .call { callee := Callee.value (.func 44), args := #[.tmp 18, .tmp 21], argTypes := #[61, 36] }, 9, "l03_entry.go:355", #[⟨4, .data⟩, ⟨7, .data⟩, ⟨3, .chain⟩], none⟩) rfl (fun K hK => ?_) (AllReadyH.nil)
            go_simp
            refine (pick_any q x21.heap.size 3 [⟨#[]⟩, ⟨#[32]⟩, Z] _ 9 (0, 0) x22 s_x22.1 (by omega) fB_x22 rfl rfl (by decide) (by decide)).mono ?_
            rintro e x23 ⟨⟨B, hB, rfl⟩, k_x23⟩
            have zB : B.size ≤ 41 := (by simp at hB; rcases hB with rfl | rfl | rfl <;> first | decide | omega)
            have s_x23 := s_x22.trans k_x23
            clear hB
            clear hHeld
            refine hK.out _ _ ?_ (fun hHeld => ?_)
            · (try dsimp only)
              first | exact SK.out _ (by assumption) | exact SK.out _ sd | exact SK.out _ sN | exact hSf _ _
            clear hK K
            (try simp only [Act.put, List.setIfInBounds_toArray, List.set_cons_zero, List.set_cons_succ])
            refine wpAnyH_ready (rs := [9]) (by kernel_rfl) (by simp) ?_
            refine AllReadyH.cons (o := ⟨none, .store 26 (.tmp 2) (.tmp 14), 0, "l03_entry.go:355", #[⟨0, .data⟩, ⟨8, .chain⟩, ⟨0, .phase⟩, ⟨1, .textOnly .lateStores⟩, ⟨2, .textOnly .lateStores⟩, ⟨3, .textOnly .lateStoresUnsure⟩, ⟨4, .textOnly .lateStores⟩, ⟨5, .textOnly .lateStoresUnsure⟩, ⟨6, .textOnly .lateStores⟩, ⟨7, .textOnly .lateStores⟩, ⟨8, .textOnly .lateStoresUnsure⟩], none⟩) rfl (fun K hK => ?_) (AllReadyH.nil)
            have T9 := two_still T3.out s_x23 (by omega)
            obtain ⟨⟨r0, r1⟩, rf0, rf1⟩ := T9.cells
            have E9 := two_still HE.out s_x23 (by omega)
            have hSf : ∀ x y : Value, ((x23.setCell ⟨w.heap.size, 0, none⟩ x).setCell ⟨w.heap.size, 1, none⟩ y).cell? ⟨E, 0, none⟩ = some (.slice vo d.length vc) ∧ ((x23.setCell ⟨w.heap.size, 0, none⟩ x).setCell ⟨w.heap.size, 1, none⟩ y).cell? ⟨E, 1, none⟩ = some (.slice ao1 l.length ac) := fun x y => ((E9.far (by omega) x).far (by omega) y).cells.1
            go_simp
            clear hHeld
            refine hK.out _ _ ?_ (fun hHeld => ?_)
            · (try dsimp only)
              first | exact SK.out _ (by assumption) | exact SK.out _ sd | exact SK.out _ sN | exact hSf _ _
            clear hK K
            (try simp only [Act.put, List.setIfInBounds_toArray, List.set_cons_zero, List.set_cons_succ])
            refine wpAnyH_take (i := 10) (oi := ⟨some 3, .assign (.tmp 17), 9, "l03_entry.go:355", #[⟨3, .data⟩, ⟨9, .chain⟩, ⟨0, .phase⟩, ⟨1, .phase⟩, ⟨2, .phase⟩, ⟨3, .phase⟩, ⟨4, .textOnly .lateStores⟩, ⟨5, .textOnly .lateStoresUnsure⟩, ⟨6, .textOnly .lateStores⟩, ⟨7, .textOnly .lateStores⟩, ⟨8, .textOnly .lateStoresUnsure⟩, ⟨9, .phase⟩], none⟩) (v := ?_) rfl (by kernel_rfl) (by kernel_rfl) (by kernel_rfl) (fun _ _ _ h => h) (Or.inl ⟨by rfl, ?_⟩) (by assumption) ?_
            rotate_left
            · intro w hSw; (try dsimp only at hSw); go_simp; (try with_reducible rfl)
            (try simp only [Act.put, List.setIfInBounds_toArray, List.set_cons_zero, List.set_cons_succ])
            refine wpAnyH_take (i := 11) (oi := ⟨some 4, .assign (.tmp 22), 9, "l03_entry.go:355", #[⟨8, .data⟩, ⟨10, .chain⟩, ⟨0, .phase⟩, ⟨1, .phase⟩, ⟨2, .phase⟩, ⟨3, .phase⟩, ⟨4, .phase⟩, ⟨5, .phase⟩, ⟨6, .phase⟩, ⟨7, .phase⟩, ⟨8, .phase⟩, ⟨9, .phase⟩, ⟨10, .phase⟩], none⟩) (v := ?_) rfl (by kernel_rfl) (by kernel_rfl) (by kernel_rfl) (fun _ _ _ h => h) (Or.inl ⟨by rfl, ?_⟩) (by assumption) ?_
            rotate_left
            · intro w hSw; (try dsimp only at hSw); go_simp; (try with_reducible rfl)
            (try simp only [Act.put, List.setIfInBounds_toArray, List.set_cons_zero, List.set_cons_succ])
            refine wpAnyH_done (by kernel_rfl) ?_ _
            clear hHeld hSf
            obtain ⟨⟨z0, z1⟩, _⟩ := ((T9.set0 (.slice vo d.length vc)).set1 (.slice ao1 l.length ac)).cells
            have HF := Lib.hid (fin3 (nm := A) (val := B) hbase hq T3.out T9 s_x23 O3.out A3.out hd HSh.out HSm.out zA zB)
            go_wp2_with fail
            exact bodyPost_ret (v := .tuple #[.agg #[.slice vo d.length vc, .slice ao1 l.length ac], .string A, .string B]) (by simp [results, Tryz.results8, go_sem, z0, z1]) rfl HF.out
          · go_simp
            obtain ⟨x24, h_x24⟩ : ∃ X, X = x17.alloc (.cells #[.string ⟨#[]⟩, .string ⟨#[32]⟩, .string Z] 9) := ⟨_, rfl⟩
            have s_x24 : Still q w3 x24 := by rw [h_x24]; exact s_x17.alloc hq3 _ _
            have fB_x24 : x24.heap[x17.heap.size]? = some (.cells #[.string ⟨#[]⟩, .string ⟨#[32]⟩, .string Z] 9) := by rw [h_x24]; exact look_z1 x17 _
            have fA_x24 : x24.heap[x16.heap.size]? = some (.cells #[.string ⟨#[65]⟩, .string ⟨#[99, 110]⟩] 9) := by rw [h_x24]; exact look_old _ _ _ _ fA_x17
            have gB_x24 : q < x17.heap.size := s_x17.1.lt
            have sN := s_x24
            rw [← h_x24]
            clear h_x24
            clear hHeld
            refine hK.out _ _ ?_ (fun hHeld => ?_)
            · (try dsimp only)
              first | exact SK.out _ (by assumption) | exact SK.out _ sd | exact SK.out _ sN | exact hSf _ _
            clear hK K
            (try simp only [Act.put, List.setIfInBounds_toArray, List.set_cons_zero, List.set_cons_succ])
            refine wpAnyH_ready (rs := [3]) (by kernel_rfl) (by simp) ?_
            refine AllReadyH.cons (o := ⟨some 17, .call { callee := Callee.value (.func 44), args := #[.tmp 15, .tmp 16], argTypes := #[61, 36] }, 9, "l03_entry.go:355", #[⟨1, .data⟩, ⟨2, .data⟩], none⟩) rfl (fun K hK => ?_) (AllReadyH.nil)
            go_simp
            refine (pick_any q x16.heap.size 2 [⟨#[65]⟩, ⟨#[99, 110]⟩] _ 9 (0, 0) x24 s_x24.1 (by omega) fA_x24 rfl rfl (by decide) (by decide)).mono ?_
            rintro e x25 ⟨⟨A, hA, rfl⟩, k_x25⟩
            have zA : A.size ≤ 41 := (by simp at hA; rcases hA with rfl | rfl <;> first | decide | omega)
            have s_x25 := s_x24.trans k_x25
            have fB_x25 := (k_x25.2.block _ (Array.getElem?_eq_some_iff.1 fB_x24).1 (fun e => by have := Option.some.inj e; omega)).trans fB_x24
            clear hA
            clear hHeld
            refine hK.out _ _ ?_ (fun hHeld => ?_)
            · (try dsimp only)
              first | exact SK.out _ (by assumption) | exact SK.out _ sd | exact SK.out _ sN | exact hSf _ _
            clear hK K
            (try simp only [Act.put, List.setIfInBounds_toArray, List.set_cons_zero, List.set_cons_succ])
            refine wpAnyH_ready (rs := [8]) (by kernel_rfl) (by simp) ?_
            refine AllReadyH.cons (o := ⟨some 22, .call { callee := Callee.value (.func 44), args := #[.tmp 18, .tmp 21], argTypes := #[61, 36] }, 9, "l03_entry.go:355", #[⟨4, .data⟩, ⟨7, .data⟩, ⟨3, .chain⟩], none⟩) rfl (fun K hK => ?_) (AllReadyH.nil)
            go_simp
            refine (pick_any q x17.heap.size 3 [⟨#[]⟩, ⟨#[32]⟩, Z] _ 9 (0, 0) x25 s_x25.1 (by omega) fB_x25 rfl rfl (by decide) (by decide)).mono ?_
            rintro e x26 ⟨⟨B, hB, rfl⟩, k_x26⟩
            have zB : B.size ≤ 41 := (by simp at hB; rcases hB with rfl | rfl | rfl <;> first | decide | omega)
            have s_x26 := s_x25.trans k_x26
            clear hB
            clear hHeld
            refine hK.out _ _ ?_ (fun hHeld => ?_)
            · (try dsimp only)
              first | exact SK.out _ (by assumption) | exact SK.out _ sd | exact SK.out _ sN | exact hSf _ _
            clear hK K
            (try simp only [Act.put, List.setIfInBounds_toArray, List.set_cons_zero, List.set_cons_succ])
            refine wpAnyH_ready (rs := [9]) (by kernel_rfl) (by simp) ?_
            refine AllReadyH.cons (o := ⟨none, .store 26 (.tmp 2) (.tmp 14), 0, "l03_entry.go:355", #[⟨0, .data⟩, ⟨8, .chain⟩, ⟨0, .phase⟩, ⟨1, .textOnly .lateStores⟩, ⟨2, .textOnly .lateStores⟩, ⟨3, .textOnly .lateStoresUnsure⟩, ⟨4, .textOnly .lateStores⟩, ⟨5, .textOnly .lateStoresUnsure⟩, ⟨6, .textOnly .lateStores⟩, ⟨7, .textOnly .lateStores⟩, ⟨8, .textOnly .lateStoresUnsure⟩], none⟩) rfl (fun K hK => ?_) (AllReadyH.nil)
            have T9 := two_still T3.out s_x26 (by omega)
            obtain ⟨⟨r0, r1⟩, rf0, rf1⟩ := T9.cells
            have E9 := two_still HE.out s_x26 (by omega)
            have hSf : ∀ x y : Value, ((x26.setCell ⟨w.heap.size, 0, none⟩ x).setCell ⟨w.heap.size, 1, none⟩ y).cell? ⟨E, 0, none⟩ = some (.slice vo d.length vc) ∧ ((x26.setCell ⟨w.heap.size, 0, none⟩ x).setCell ⟨w.heap.size, 1, none⟩ y).cell? ⟨E, 1, none⟩ = some (.slice ao1 l.length ac) := fun x y => ((E9.far (by omega) x).far (by omega) y).cells.1
            go_simp
            clear hHeld
            refine hK.out _ _ ?_ (fun hHeld => ?_)
            · (try dsimp only)
              first | exact SK.out _ (by assumption) | exact SK.out _ sd | exact SK.out _ sN | exact hSf _ _
            clear hK K
            (try simp only [Act.put, List.setIfInBounds_toArray, List.set_cons_zero, List.set_cons_succ])
            refine wpAnyH_take (i := 10) (oi := ⟨some 3, .assign (.tmp 17), 9, "l03_entry.go:355", #[⟨3, .data⟩, ⟨9, .chain⟩, ⟨0, .phase⟩, ⟨1, .phase⟩, ⟨2, .phase⟩, ⟨3, .phase⟩, ⟨4, .textOnly .lateStores⟩, ⟨5, .textOnly .lateStoresUnsure⟩, ⟨6, .textOnly .lateStores⟩, ⟨7, .textOnly .lateStores⟩, ⟨8, .textOnly .lateStoresUnsure⟩, ⟨9, .phase⟩], none⟩) (v := ?_) rfl (by kernel_rfl) (by kernel_rfl) (by kernel_rfl) (fun _ _ _ h => h) (Or.inl ⟨by rfl, ?_⟩) (by assumption) ?_
            rotate_left
            · intro w hSw; (try dsimp only at hSw); go_simp; (try with_reducible rfl)
            (try simp only [Act.put, List.setIfInBounds_toArray, List.set_cons_zero, List.set_cons_succ])
            refine wpAnyH_take (i := 11) (oi := ⟨some 4, .assign (.tmp 22), 9, "l03_entry.go:355", #[⟨8, .data⟩, ⟨10, .chain⟩, ⟨0, .phase⟩, ⟨1, .phase⟩, ⟨2, .phase⟩, ⟨3, .phase⟩, ⟨4, .phase⟩, ⟨5, .phase⟩, ⟨6, .phase⟩, ⟨7, .phase⟩, ⟨8, .phase⟩, ⟨9, .phase⟩, ⟨10, .phase⟩], none⟩) (v := ?_) rfl (by kernel_rfl) (by kernel_rfl) (by kernel_rfl) (fun _ _ _ h => h) (Or.inl ⟨by rfl, ?_⟩) (by assumption) ?_
            rotate_left
            · intro w hSw; (try dsimp only at hSw); go_simp; (try with_reducible rfl)
            (try simp only [Act.put, List.setIfInBounds_toArray, List.set_cons_zero, List.set_cons_succ])
            refine wpAnyH_done (by kernel_rfl) ?_ _
            clear hHeld hSf
            obtain ⟨⟨z0, z1⟩, _⟩ := ((T9.set0 (.slice vo d.length vc)).set1 (.slice ao1 l.length ac)).cells
            have HF := Lib.hid (fin3 (nm := A) (val := B) hbase hq T3.out T9 s_x26 O3.out A3.out hd HSh.out HSm.out zA zB)
            go_wp2_with fail
            exact bodyPost_ret (v := .tuple #[.agg #[.slice vo d.length vc, .slice ao1 l.length ac], .string A, .string B]) (by simp [results, Tryz.results8, go_sem, z0, z1]) rfl HF.out
      · have hcv := zero_at fM_x16
        rw [← HZ.out] at hcv
        go_simp
        clear hHeld
        refine hK.out _ _ ?_ (fun hHeld => ?_)
        · (try dsimp only)
          first | exact SK.out _ (by assumption) | exact SK.out _ sd | exact SK.out _ sN | exact hSf _ _
        clear hK K
        (try simp only [Act.put, List.setIfInBounds_toArray, List.set_cons_zero, List.set_cons_succ])
        refine wpAnyH_ready (rs := [2, 7]) (by kernel_rfl) (by simp) ?_
        refine AllReadyH.cons (o := ⟨some 16, .buildSlice 36 2 #[(0, .const (Value.string { data := #[65] })), (1, .const (Value.string { data := #[99, 110] }))], 36, "l03_entry.go:355", #[], none⟩) rfl (fun K hK => ?_) (AllReadyH.cons (o := ⟨some 21, .buildSlice 36 3 #[(0, .const (Value.string { data := #[] })), (1, .const (Value.string { data := #[32] })), (2, .tmp 20)], 36, "l03_entry.go:355", #[⟨6, .data⟩], none⟩) rfl (fun K hK => ?_) (AllReadyH.nil))
        · go_simp
          obtain ⟨x27, h_x27⟩ : ∃ X, X = x16.alloc (.cells #[.string ⟨#[65]⟩, .string ⟨#[99, 110]⟩] 9) := ⟨_, rfl⟩
          have s_x27 : Still q w3 x27 := by rw [h_x27]; exact s_x16.alloc hq3 _ _
          have fA_x27 : x27.heap[x16.heap.size]? = some (.cells #[.string ⟨#[65]⟩, .string ⟨#[99, 110]⟩] 9) := by rw [h_x27]; exact look_z1 x16 _
          have fM_x27 : x27.heap[w3.heap.size]? = some (.cells (madeCells #[.int .u8 0] 41) 5) := by rw [h_x27]; exact look_old _ _ _ _ fM_x16
          have gA_x27 : q < x16.heap.size := s_x16.1.lt
          have sN := s_x27
          rw [← h_x27]
          clear h_x27
          clear hHeld
          refine hK.out _ _ ?_ (fun hHeld => ?_)
          · (try dsimp only)
            first | exact SK.out _ (by assumption) | exact SK.out _ sd | exact SK.out _ sN | exact hSf _ _
          clear hK K
          (try simp only [Act.put, List.setIfInBounds_toArray, List.set_cons_zero, List.set_cons_succ])
          refine wpAnyH_ready (rs := [3, 7]) (by kernel_rfl) (by simp) ?_
          refine AllReadyH.cons (o := ⟨some 17, .call { callee := Callee.value (.func 44), args := #[.tmp 15, .tmp 16], argTypes := #[61, 36] }, 9, "l03_entry.go:355", #[⟨1, .data⟩, ⟨2, .data⟩], none⟩) rfl (fun K hK => ?_) (AllReadyH.cons (o := ⟨some 21, .buildSlice 36 3 #[(0, .const (Value.string { data := #[] })), (1, .const (Value.string { data := #[32] })), (2, .tmp 20)], 36, "l03_entry.go:355", #[⟨6, .data⟩], none⟩) rfl (fun K hK => ?_) (AllReadyH.nil))
          · go_simp
            refine (pick_any q x16.heap.size 2 [⟨#[65]⟩, ⟨#[99, 110]⟩] _ 9 (0, 0) x27 s_x27.1 (by omega) fA_x27 rfl rfl (by decide) (by decide)).mono ?_
            rintro e x28 ⟨⟨A, hA, rfl⟩, k_x28⟩
            have zA : A.size ≤ 41 := (by simp at hA; rcases hA with rfl | rfl <;> first | decide | omega)
            have s_x28 := s_x27.trans k_x28
            have fM_x28 := (k_x28.2.block _ (Array.getElem?_eq_some_iff.1 fM_x27).1 (fun e => by have := Option.some.inj e; omega)).trans fM_x27
            clear hA
            clear hHeld
            refine hK.out _ _ ?_ (fun hHeld => ?_)
            · (try dsimp only)
              first | exact SK.out _ (by assumption) | exact SK.out _ sd | exact SK.out _ sN | exact hSf _ _
            clear hK K
            (try simp only [Act.put, List.setIfInBounds_toArray, List.set_cons_zero, List.set_cons_succ])
            refine wpAnyH_ready (rs := [7]) (by kernel_rfl) (by simp) ?_
            refine AllReadyH.cons (o := ⟨some 21, .buildSlice 36 3 #[(0, .const (Value.string { data := #[] })), (1, .const (Value.string { data := #[32] })), (2, .tmp 20)], 36, "l03_entry.go:355", #[⟨6, .data⟩], none⟩) rfl (fun K hK => ?_) (AllReadyH.nil)
            go_simp
            obtain ⟨x29, h_x29⟩ : ∃ X, X = x28.alloc (.cells #[.string ⟨#[]⟩, .string ⟨#[32]⟩, .string Z] 9) := ⟨_, rfl⟩
            have s_x29 : Still q w3 x29 := by rw [h_x29]; exact s_x28.alloc hq3 _ _
            have fB_x29 : x29.heap[x28.heap.size]? = some (.cells #[.string ⟨#[]⟩, .string ⟨#[32]⟩, .string Z] 9) := by rw [h_x29]; exact look_z1 x28 _
            have gB_x29 : q < x28.heap.size := s_x28.1.lt
            have sN := s_x29
            rw [← h_x29]
            clear h_x29
            clear hHeld
            refine hK.out _ _ ?_ (fun hHeld => ?_)
            · (try dsimp only)
              first | exact SK.out _ (by assumption) | exact SK.out _ sd | exact SK.out _ sN | exact hSf _ _
            clear hK K
            (try simp only [Act.put, List.setIfInBounds_toArray, List.set_cons_zero, List.set_cons_succ])
            refine wpAnyH_ready (rs := [8]) (by kernel_rfl) (by simp) ?_
            refine AllReadyH.cons (o := ⟨some 22, .call { callee := Callee.value (.func 44), args := #[.tmp 18, .tmp 21], argTypes := #[61, 36] }, 9, "l03_entry.go:355", #[⟨4, .data⟩, ⟨7, .data⟩, ⟨3, .chain⟩], none⟩) rfl (fun K hK => ?_) (AllReadyH.nil)
            go_simp
            refine (pick_any q x28.heap.size 3 [⟨#[]⟩, ⟨#[32]⟩, Z] _ 9 (0, 0) x29 s_x29.1 (by omega) fB_x29 rfl rfl (by decide) (by decide)).mono ?_
            rintro e x30 ⟨⟨B, hB, rfl⟩, k_x30⟩
            have zB : B.size ≤ 41 := (by simp at hB; rcases hB with rfl | rfl | rfl <;> first | decide | omega)
            have s_x30 := s_x29.trans k_x30
            clear hB
            clear hHeld
            refine hK.out _ _ ?_ (fun hHeld => ?_)
            · (try dsimp only)
              first | exact SK.out _ (by assumption) | exact SK.out _ sd | exact SK.out _ sN | exact hSf _ _
            clear hK K
            (try simp only [Act.put, List.setIfInBounds_toArray, List.set_cons_zero, List.set_cons_succ])
            refine wpAnyH_ready (rs := [9]) (by kernel_rfl) (by simp) ?_
            refine AllReadyH.cons (o := ⟨none, .store 26 (.tmp 2) (.tmp 14), 0, "l03_entry.go:355", #[⟨0, .data⟩, ⟨8, .chain⟩, ⟨0, .phase⟩, ⟨1, .textOnly .lateStores⟩, ⟨2, .textOnly .lateStores⟩, ⟨3, .textOnly .lateStoresUnsure⟩, ⟨4, .textOnly .lateStores⟩, ⟨5, .textOnly .lateStoresUnsure⟩, ⟨6, .textOnly .lateStores⟩, ⟨7, .textOnly .lateStores⟩, ⟨8, .textOnly .lateStoresUnsure⟩], none⟩) rfl (fun K hK => ?_) (AllReadyH.nil)
            have T9 := two_still T3.out s_x30 (by omega)
            obtain ⟨⟨r0, r1⟩, rf0, rf1⟩ := T9.cells
            have E9 := two_still HE.out s_x30 (by omega)
            have hSf : ∀ x y : Value, ((x30.setCell ⟨w.heap.size, 0, none⟩ x).setCell ⟨w.heap.size, 1, none⟩ y).cell? ⟨E, 0, none⟩ = some (.slice vo d.length vc) ∧ ((x30.setCell ⟨w.heap.size, 0, none⟩ x).setCell ⟨w.heap.size, 1, none⟩ y).cell? ⟨E, 1, none⟩ = some (.slice ao1 l.length ac) := fun x y => ((E9.far (by omega) x).far (by omega) y).cells.1
            go_simp
            clear hHeld
            refine hK.out _ _ ?_ (fun hHeld => ?_)
            · (try dsimp only)
              first | exact SK.out _ (by assumption) | exact SK.out _ sd | exact SK.out _ sN | exact hSf _ _
            clear hK K
            (try simp only [Act.put, List.setIfInBounds_toArray, List.set_cons_zero, List.set_cons_succ])
            refine wpAnyH_take (i := 10) (oi := ⟨some 3, .assign (.tmp 17), 9, "l03_entry.go:355", #[⟨3, .data⟩, ⟨9, .chain⟩, ⟨0, .phase⟩, ⟨1, .phase⟩, ⟨2, .phase⟩, ⟨3, .phase⟩, ⟨4, .textOnly .lateStores⟩, ⟨5, .textOnly .lateStoresUnsure⟩, ⟨6, .textOnly .lateStores⟩, ⟨7, .textOnly .lateStores⟩, ⟨8, .textOnly .lateStoresUnsure⟩, ⟨9, .phase⟩], none⟩) (v := ?_) rfl (by kernel_rfl) (by kernel_rfl) (by kernel_rfl) (fun _ _ _ h => h) (Or.inl ⟨by rfl, ?_⟩) (by assumption) ?_
            rotate_left
            · intro w hSw; (try dsimp only at hSw); go_simp; (try with_reducible rfl)
            (try simp only [Act.put, List.setIfInBounds_toArray, List.set_cons_zero, List.set_cons_succ])
            refine wpAnyH_take (i := 11) (oi := ⟨some 4, .assign (.tmp 22), 9, "l03_entry.go:355", #[⟨8, .data⟩, ⟨10, .chain⟩, ⟨0, .phase⟩, ⟨1, .phase⟩, ⟨2, .phase⟩, ⟨3, .phase⟩, ⟨4, .phase⟩, ⟨5, .phase⟩, ⟨6, .phase⟩, ⟨7, .phase⟩, ⟨8, .phase⟩, ⟨9, .phase⟩, ⟨10, .phase⟩], none⟩) (v := ?_) rfl (by kernel_rfl) (by kernel_rfl) (by kernel_rfl) (fun _ _ _ h => h) (Or.inl ⟨by rfl, ?_⟩) (by assumption) ?_
            rotate_left
            · intro w hSw; (try dsimp only at hSw); go_simp; (try with_reducible rfl)
            (try simp only [Act.put, List.setIfInBounds_toArray, List.set_cons_zero, List.set_cons_succ])
            refine wpAnyH_done (by kernel_rfl) ?_ _
            clear hHeld hSf
            obtain ⟨⟨z0, z1⟩, _⟩ := ((T9.set0 (.slice vo d.length vc)).set1 (.slice ao1 l.length ac)).cells
            have HF := Lib.hid (fin3 (nm := A) (val := B) hbase hq T3.out T9 s_x30 O3.out A3.out hd HSh.out HSm.out zA zB)
            go_wp2_with fail
            exact bodyPost_ret (v := .tuple #[.agg #[.slice vo d.length vc, .slice ao1 l.length ac], .string A, .string B]) (by simp [results, Tryz.results8, go_sem, z0, z1]) rfl HF.out
          · go_simp
            obtain ⟨x31, h_x31⟩ : ∃ X, X = x27.alloc (.cells #[.string ⟨#[]⟩, .string ⟨#[32]⟩, .string Z] 9) := ⟨_, rfl⟩
            have s_x31 : Still q w3 x31 := by rw [h_x31]; exact s_x27.alloc hq3 _ _
            have fB_x31 : x31.heap[x27.heap.size]? = some (.cells #[.string ⟨#[]⟩, .string ⟨#[32]⟩, .string Z] 9) := by rw [h_x31]; exact look_z1 x27 _
            have fA_x31 : x31.heap[x16.heap.size]? = some (.cells #[.string ⟨#[65]⟩, .string ⟨#[99, 110]⟩] 9) := by rw [h_x31]; exact look_old _ _ _ _ fA_x27
            have gB_x31 : q < x27.heap.size := s_x27.1.lt
            have sN := s_x31
            rw [← h_x31]
            clear h_x31
            clear hHeld
            refine hK.out _ _ ?_ (fun hHeld => ?_)
            · (try dsimp only)
              first | exact SK.out _ (by assumption) | exact SK.out _ sd | exact SK.out _ sN | exact hSf _ _
            clear hK K
            (try simp only [Act.put, List.setIfInBounds_toArray, List.set_cons_zero, List.set_cons_succ])
            refine wpAnyH_ready (rs := [3]) (by kernel_rfl) (by simp) ?_
            refine AllReadyH.cons (o := ⟨some 17, .call { callee := Callee.value (.func 44), args := #[.tmp 15, .tmp 16], argTypes := #[61, 36] }, 9, "l03_entry.go:355", #[⟨1, .data⟩, ⟨2, .data⟩], none⟩) rfl (fun K hK => ?_) (AllReadyH.nil)
            go_simp
            refine (pick_any q x16.heap.size 2 [⟨#[65]⟩, ⟨#[99, 110]⟩] _ 9 (0, 0) x31 s_x31.1 (by omega) fA_x31 rfl rfl (by decide) (by decide)).mono ?_
            rintro e x32 ⟨⟨A, hA, rfl⟩, k_x32⟩
            have zA : A.size ≤ 41 := (by simp at hA; rcases hA with rfl | rfl <;> first | decide | omega)
            have s_x32 := s_x31.trans k_x32
            have fB_x32 := (k_x32.2.block _ (Array.getElem?_eq_some_iff.1 fB_x31).1 (fun e => by have := Option.some.inj e; omega)).trans fB_x31
            clear hA
            clear hHeld
            refine hK.out _ _ ?_ (fun hHeld => ?_)
            · (try dsimp only)
              first | exact SK.out _ (by assumption) | exact SK.out _ sd | exact SK.out _ sN | exact hSf _ _
            clear hK K
            (try simp only [Act.put, List.setIfInBounds_toArray, List.set_cons_zero, List.set_cons_succ])
            refine wpAnyH_ready (rs := [8]) (by kernel_rfl) (by simp) ?_
            refine AllReadyH.cons (o := ⟨some 22, .call { callee := Callee.value (.func 44), args := #[.tmp 18, .tmp 21], argTypes := #[61, 36] }, 9, "l03_entry.go:355", #[⟨4, .data⟩, ⟨7, .data⟩, ⟨3, .chain⟩], none⟩) rfl (fun K hK => ?_) (AllReadyH.nil)
            go_simp
            refine (pick_any q x27.heap.size 3 [⟨#[]⟩, ⟨#[32]⟩, Z] _ 9 (0, 0) x32 s_x32.1 (by omega) fB_x32 rfl rfl (by decide) (by decide)).mono ?_
            rintro e x33 ⟨⟨B, hB, rfl⟩, k_x33⟩
            have zB : B.size ≤ 41 := (by simp at hB; rcases hB with rfl | rfl | rfl <;> first | decide | omega)
            have s_x33 := s_x32.trans k_x33
            clear hB
            clear hHeld
            refine hK.out _ _ ?_ (fun hHeld => ?_)
            · (try dsimp only)
              first | exact SK.out _ (by assumption) | exact SK.out _ sd | exact SK.out _ sN | exact hSf _ _
            clear hK K
            (try simp only [Act.put, List.setIfInBounds_toArray, List.set_cons_zero, List.set_cons_succ])
            refine wpAnyH_ready (rs := [9]) (by kernel_rfl) (by simp) ?_
            refine AllReadyH.cons (o := ⟨none, .store 26 (.tmp 2) (.tmp 14), 0, "l03_entry.go:355", #[⟨0, .data⟩, ⟨8, .chain⟩, ⟨0, .phase⟩, ⟨1, .textOnly .lateStores⟩, ⟨2, .textOnly .lateStores⟩, ⟨3, .textOnly .lateStoresUnsure⟩, ⟨4, .textOnly .lateStores⟩, ⟨5, .textOnly .lateStoresUnsure⟩, ⟨6, .textOnly .lateStores⟩, ⟨7, .textOnly .lateStores⟩, ⟨8, .textOnly .lateStoresUnsure⟩], none⟩) rfl (fun K hK => ?_) (AllReadyH.nil)
            have T9 := two_still T3.out s_x33 (by omega)
            obtain ⟨⟨r0, r1⟩, rf0, rf1⟩ := T9.cells
            have E9 := two_still HE.out s_x33 (by omega)
            have hSf : ∀ x y : Value, ((x33.setCell ⟨w.heap.size, 0, none⟩ x).setCell ⟨w.heap.size, 1, none⟩ y).cell? ⟨E, 0, none⟩ = some (.slice vo d.length vc) ∧ ((x33.setCell ⟨w.heap.size, 0, none⟩ x).setCell ⟨w.heap.size, 1, none⟩ y).cell? ⟨E, 1, none⟩ = some (.slice ao1 l.length ac) := fun x y => ((E9.far (by omega) x).far (by omega) y).cells.1
            go_simp
            clear hHeld
            refine hK.out _ _ ?_ (fun hHeld => ?_)
            · (try dsimp only)
              first | exact SK.out _ (by assumption) | exact SK.out _ sd | exact SK.out _ sN | exact hSf _ _
            clear hK K
            (try simp only [Act.put, List.setIfInBounds_toArray, List.set_cons_zero, List.set_cons_succ])
            refine wpAnyH_take (i := 10) (oi := ⟨some 3, .assign (.tmp 17), 9, "l03_entry.go:355", #[⟨3, .data⟩, ⟨9, .chain⟩, ⟨0, .phase⟩, ⟨1, .phase⟩, ⟨2, .phase⟩, ⟨3, .phase⟩, ⟨4, .textOnly .lateStores⟩, ⟨5, .textOnly .lateStoresUnsure⟩, ⟨6, .textOnly .lateStores⟩, ⟨7, .textOnly .lateStores⟩, ⟨8, .textOnly .lateStoresUnsure⟩, ⟨9, .phase⟩], none⟩) (v := ?_) rfl (by kernel_rfl) (by kernel_rfl) (by kernel_rfl) (fun _ _ _ h => h) (Or.inl ⟨by rfl, ?_⟩) (by assumption) ?_
            rotate_left
            · intro w hSw; (try dsimp only at hSw); go_simp; (try with_reducible rfl)
            (try simp only [Act.put, List.setIfInBounds_toArray, List.set_cons_zero, List.set_cons_succ])
            refine wpAnyH_take (i := 11) (oi := ⟨some 4, .assign (.tmp 22), 9, "l03_entry.go:355", #[⟨8, .data⟩, ⟨10, .chain⟩, ⟨0, .phase⟩, ⟨1, .phase⟩, ⟨2, .phase⟩, ⟨3, .phase⟩, ⟨4, .phase⟩, ⟨5, .phase⟩, ⟨6, .phase⟩, ⟨7, .phase⟩, ⟨8, .phase⟩, ⟨9, .phase⟩, ⟨10, .phase⟩], none⟩) (v := ?_) rfl (by kernel_rfl) (by kernel_rfl) (by kernel_rfl) (fun _ _ _ h => h) (Or.inl ⟨by rfl, ?_⟩) (by assumption) ?_
            rotate_left
            · intro w hSw; (try dsimp only at hSw); go_simp; (try with_reducible rfl)
            (try simp only [Act.put, List.setIfInBounds_toArray, List.set_cons_zero, List.set_cons_succ])
            refine wpAnyH_done (by kernel_rfl) ?_ _
            clear hHeld hSf
            obtain ⟨⟨z0, z1⟩, _⟩ := ((T9.set0 (.slice vo d.length vc)).set1 (.slice ao1 l.length ac)).cells
            have HF := Lib.hid (fin3 (nm := A) (val := B) hbase hq T3.out T9 s_x33 O3.out A3.out hd HSh.out HSm.out zA zB)
            go_wp2_with fail
            exact bodyPost_ret (v := .tuple #[.agg #[.slice vo d.length vc, .slice ao1 l.length ac], .string A, .string B]) (by simp [results, Tryz.results8, go_sem, z0, z1]) rfl HF.out
        · go_simp
          obtain ⟨x34, h_x34⟩ : ∃ X, X = x16.alloc (.cells #[.string ⟨#[]⟩, .string ⟨#[32]⟩, .string Z] 9) := ⟨_, rfl⟩
          have s_x34 : Still q w3 x34 := by rw [h_x34]; exact s_x16.alloc hq3 _ _
          have fB_x34 : x34.heap[x16.heap.size]? = some (.cells #[.string ⟨#[]⟩, .string ⟨#[32]⟩, .string Z] 9) := by rw [h_x34]; exact look_z1 x16 _
          have gB_x34 : q < x16.heap.size := s_x16.1.lt
          have sN := s_x34
          rw [← h_x34]
          clear h_x34
          clear hHeld
          refine hK.out _ _ ?_ (fun hHeld => ?_)
          · (try dsimp only)
            first | exact SK.out _ (by assumption) | exact SK.out _ sd | exact SK.out _ sN | exact hSf _ _
          clear hK K
          (try simp only [Act.put, List.setIfInBounds_toArray, List.set_cons_zero, List.set_cons_succ])
          refine wpAnyH_ready (rs := [2]) (by kernel_rfl) (by simp) ?_
          refine AllReadyH.cons (o := ⟨some 16, .buildSlice 36 2 #[(0, .const (Value.string { data := #[65] })), (1, .const (Value.string { data := #[99, 110] }))], 36, "l03_entry.go:355", #[], none⟩) rfl (fun K hK => ?_) (AllReadyH.nil)
          go_simp
          obtain ⟨x35, h_x35⟩ : ∃ X, X = x34.alloc (.cells #[.string ⟨#[65]⟩, .string ⟨#[99, 110]⟩] 9) := ⟨_, rfl⟩
          have s_x35 : Still q w3 x35 := by rw [h_x35]; exact s_x34.alloc hq3 _ _
          have fA_x35 : x35.heap[x34.heap.size]? = some (.cells #[.string ⟨#[65]⟩, .string ⟨#[99, 110]⟩] 9) := by rw [h_x35]; exact look_z1 x34 _
          have fB_x35 : x35.heap[x16.heap.size]? = some (.cells #[.string ⟨#[]⟩, .string ⟨#[32]⟩, .string Z] 9) := by rw [h_x35]; exact look_old _ _ _ _ fB_x34
          have gA_x35 : q < x34.heap.size := s_x34.1.lt
          have sN := s_x35
          rw [← h_x35]
          clear h_x35
          clear hHeld
          refine hK.out _ _ ?_ (fun hHeld => ?_)
          · (try dsimp only)
            first | exact SK.out _ (by assumption) | exact SK.out _ sd | exact SK.out _ sN | exact hSf _ _
          clear hK K
          (try simp only [Act.put, List.setIfInBounds_toArray, List.set_cons_zero, List.set_cons_succ])
          refine wpAnyH_ready (rs := [3]) (by kernel_rfl) (by simp) ?_
          refine AllReadyH.cons (o := ⟨some 17, .call { callee := Callee.value (.func 44), args := #[.tmp 15, .tmp 16], argTypes := #[61, 36] }, 9, "l03_entry.go:355", #[⟨1, .data⟩, ⟨2, .data⟩], none⟩) rfl (fun K hK => ?_) (AllReadyH.nil)
          go_simp
          refine (pick_any q x34.heap.size 2 [⟨#[65]⟩, ⟨#[99, 110]⟩] _ 9 (0, 0) x35 s_x35.1 (by omega) fA_x35 rfl rfl (by decide) (by decide)).mono ?_
          rintro e x36 ⟨⟨A, hA, rfl⟩, k_x36⟩
          have zA : A.size ≤ 41 := (by simp at hA; rcases hA with rfl | rfl <;> first | decide | omega)
          have s_x36 := s_x35.trans k_x36
          have fB_x36 := (k_x36.2.block _ (Array.getElem?_eq_some_iff.1 fB_x35).1 (fun e => by have := Option.some.inj e; omega)).trans fB_x35
          clear hA
          clear hHeld
          refine hK.out _ _ ?_ (fun hHeld => ?_)
          · (try dsimp only)
            first | exact SK.out _ (by assumption) | exact SK.out _ sd | exact SK.out _ sN | exact hSf _ _
          clear hK K
          (try simp only [Act.put, List.setIfInBounds_toArray, List.set_cons_zero, List.set_cons_succ])
          refine wpAnyH_ready (rs := [8]) (by kernel_rfl) (by simp) ?_
          refine AllReadyH.cons (o := ⟨some 22, .call { callee := Callee.value (.func 44), args := #[.tmp 18, .tmp 21], argTypes := #[61, 36] }, 9, "l03_entry.go:355", #[⟨4, .data⟩, ⟨7, .data⟩, ⟨3, .chain⟩], none⟩) rfl (fun K hK => ?_) (AllReadyH.nil)
          go_simp
          refine (pick_any q x16.heap.size 3 [⟨#[]⟩, ⟨#[32]⟩, Z] _ 9 (0, 0) x36 s_x36.1 (by omega) fB_x36 rfl rfl (by decide) (by decide)).mono ?_
          rintro e x37 ⟨⟨B, hB, rfl⟩, k_x37⟩
          have zB : B.size ≤ 41 := (by simp at hB; rcases hB with rfl | rfl | rfl <;> first | decide | omega)
          have s_x37 := s_x36.trans k_x37
          clear hB
          clear hHeld
          refine hK.out _ _ ?_ (fun hHeld => ?_)
          · (try dsimp only)
            first | exact SK.out _ (by assumption) | exact SK.out _ sd | exact SK.out _ sN | exact hSf _ _
          clear hK K
          (try simp only [Act.put, List.setIfInBounds_toArray, List.set_cons_zero, List.set_cons_succ])
          refine wpAnyH_ready (rs := [9]) (by kernel_rfl) (by simp) ?_
          refine AllReadyH.cons (o := ⟨none, .store 26 (.tmp 2) (.tmp 14), 0, "l03_entry.go:355", #[⟨0, .data⟩, ⟨8, .chain⟩, ⟨0, .phase⟩, ⟨1, .textOnly .lateStores⟩, ⟨2, .textOnly .lateStores⟩, ⟨3, .textOnly .lateStoresUnsure⟩, ⟨4, .textOnly .lateStores⟩, ⟨5, .textOnly .lateStoresUnsure⟩, ⟨6, .textOnly .lateStores⟩, ⟨7, .textOnly .lateStores⟩, ⟨8, .textOnly .lateStoresUnsure⟩], none⟩) rfl (fun K hK => ?_) (AllReadyH.nil)
          have T9 := two_still T3.out s_x37 (by omega)
          obtain ⟨⟨r0, r1⟩, rf0, rf1⟩ := T9.cells
          have E9 := two_still HE.out s_x37 (by omega)
          have hSf : ∀ x y : Value, ((x37.setCell ⟨w.heap.size, 0, none⟩ x).setCell ⟨w.heap.size, 1, none⟩ y).cell? ⟨E, 0, none⟩ = some (.slice vo d.length vc) ∧ ((x37.setCell ⟨w.heap.size, 0, none⟩ x).setCell ⟨w.heap.size, 1, none⟩ y).cell? ⟨E, 1, none⟩ = some (.slice ao1 l.length ac) := fun x y => ((E9.far (by omega) x).far (by omega) y).cells.1
          go_simp
          clear hHeld
          refine hK.out _ _ ?_ (fun hHeld => ?_)
          · (try dsimp only)
            first | exact SK.out _ (by assumption) | exact SK.out _ sd | exact SK.out _ sN | exact hSf _ _
          clear hK K
          (try simp only [Act.put, List.setIfInBounds_toArray, List.set_cons_zero, List.set_cons_succ])
          refine wpAnyH_take (i := 10) (oi := ⟨some 3, .assign (.tmp 17), 9, "l03_entry.go:355", #[⟨3, .data⟩, ⟨9, .chain⟩, ⟨0, .phase⟩, ⟨1, .phase⟩, ⟨2, .phase⟩, ⟨3, .phase⟩, ⟨4, .textOnly .lateStores⟩, ⟨5, .textOnly .lateStoresUnsure⟩, ⟨6, .textOnly .lateStores⟩, ⟨7, .textOnly .lateStores⟩, ⟨8, .textOnly .lateStoresUnsure⟩, ⟨9, .phase⟩], none⟩) (v := ?_) rfl (by kernel_rfl) (by kernel_rfl) (by kernel_rfl) (fun _ _ _ h => h) (Or.inl ⟨by rfl, ?_⟩) (by assumption) ?_
          rotate_left
          · intro w hSw; (try dsimp only at hSw); go_simp; (try with_reducible rfl)
          (try simp only [Act.put, List.setIfInBounds_toArray, List.set_cons_zero, List.set_cons_succ])
          refine wpAnyH_take (i := 11) (oi := ⟨some 4, .assign (.tmp 22), 9, "l03_entry.go:355", #[⟨8, .data⟩, ⟨10, .chain⟩, ⟨0, .phase⟩, ⟨1, .phase⟩, ⟨2, .phase⟩, ⟨3, .phase⟩, ⟨4, .phase⟩, ⟨5, .phase⟩, ⟨6, .phase⟩, ⟨7, .phase⟩, ⟨8, .phase⟩, ⟨9, .phase⟩, ⟨10, .phase⟩], none⟩) (v := ?_) rfl (by kernel_rfl) (by kernel_rfl) (by kernel_rfl) (fun _ _ _ h => h) (Or.inl ⟨by rfl, ?_⟩) (by assumption) ?_
          rotate_left
          · intro w hSw; (try dsimp only at hSw); go_simp; (try with_reducible rfl)
          (try simp only [Act.put, List.setIfInBounds_toArray, List.set_cons_zero, List.set_cons_succ])
          refine wpAnyH_done (by kernel_rfl) ?_ _
          clear hHeld hSf
          obtain ⟨⟨z0, z1⟩, _⟩ := ((T9.set0 (.slice vo d.length vc)).set1 (.slice ao1 l.length ac)).cells
          have HF := Lib.hid (fin3 (nm := A) (val := B) hbase hq T3.out T9 s_x37 O3.out A3.out hd HSh.out HSm.out zA zB)
          go_wp2_with fail
          exact bodyPost_ret (v := .tuple #[.agg #[.slice vo d.length vc, .slice ao1 l.length ac], .string A, .string B]) (by simp [results, Tryz.results8, go_sem, z0, z1]) rfl HF.out
end Go.Proofs.YtjajpdghamecoaaGreat
