/- Merged texts: DEnt. -/
import Derived.Test.YtjajpdghamecoaaGreatM15
/- A drawn entry. -/
namespace Go.Proofs.YtjajpdghamecoaaGreat
open Go.RowKit
attribute [local go_sem ↓] Go.wp_at_zero Go.wp_at_succ

set_option maxRecDepth 100000 in
set_option maxHeartbeats 4000000 in
theorem l03Entry_any (q : Nat) (w : World) (hg : Good w q) :
    Calls Tryz.prog 42 #[.pointer (some ⟨q, 0, none⟩)] w fun e w' => SomeEnt w e w' ∧ Still q w w' := by
  have hq := hg.lt
  have HS := Lib.hid (Still.refl hg); clear hg
  go_enter Tryz.func42, Tryz.ntmps42
  go_wp2_with fail
  refine (pick_both q _ 3 [⟨#[97, 110, 110]⟩, ⟨#[98, 111, 98]⟩, ⟨#[99, 97, 116]⟩] _ 9 (0, 0) w _ ((HS.out.alloc hq _ _).alloc hq _ _) (by omega) (look_z3 w _ _) rfl rfl (by decide) (by decide)).mono ?_
  rintro e w1 ⟨⟨A, hA, rfl⟩, hs1, hk1⟩
  have HS1 := Lib.hid hs1
  have hA' : A.size ≤ 41 := by
    clear hs1 hk1
    simp at hA
    rcases hA with rfl | rfl | rfl <;> decide
  have T1 : Hid (Two w1 w.heap.size 26 (.slice none 0 0) (.slice none 0 0)) := Lib.hid (two_still ((twoNew w 26 _ _).alloc _) hk1 (by omega))
  have hsz1 : w.heap.size < w1.heap.size := T1.out.lt
  clear hs1 hk1 hA
  have HDE : Hid (DE q w (w1.heap.size + 1) [(⟨#[99, 110]⟩, A), (⟨#[100, 99]⟩, ⟨#[120]⟩)] [] (some ⟨w1.heap.size, 0, none⟩) none 2 0 ((w1.alloc (.cells #[.string ⟨#[99, 110]⟩, .string A, .string ⟨#[100, 99]⟩, .string ⟨#[120]⟩] 97)).alloc (.cells #[.slice (some ⟨w1.heap.size, 0, none⟩) 2 2, .slice none 0 0] 26))) := Lib.hid (by
    refine ⟨(HS1.out.alloc hq _ _).alloc hq _ _, (T1.out.alloc _).alloc _, twoNext w1 _ 26 _ _, ?_, attrsRow_nil _ _, by omega⟩
    exact (World.ownsRow_lit w1 #[.string ⟨#[99, 110]⟩, .string A, .string ⟨#[100, 99]⟩, .string ⟨#[120]⟩] 2 (by omega) (by unfold maxLen; omega) rfl).alloc _)
  go_wp2_with fail
  refine calls_any' (fun W => DE q w (w1.heap.size + 1) [(⟨#[99, 110]⟩, A), (⟨#[100, 99]⟩, ⟨#[120]⟩)] [] (some ⟨w1.heap.size, 0, none⟩) none 2 0 W) HDE.out ?_
  clear HDE HS1 T1
  generalize w1.heap.size + 1 = E at *
  rintro W hW
  refine (n_any q 6 W hW.st.1 (by decide) (by decide)).mono ?_
  rintro e w2 ⟨⟨v, rfl, hv0, hv1⟩, hs2⟩
  have D2 := Lib.hid (hW.step hq hs2)
  clear hW hs2
  obtain ⟨j, rfl⟩ := Int.eq_ofNat_of_zero_le hv0
  have HSh : Hid (Short [(⟨#[99, 110]⟩, A), (⟨#[100, 99]⟩, ⟨#[120]⟩)]) := Lib.hid (fun r hr => by
    simp at hr
    rcases hr with rfl | rfl
    · exact ⟨by show 2 ≤ 41; omega, hA'⟩
    · exact ⟨by decide, by decide⟩)
  go_wp2_with fail
  go_loopw [4] (fun i wr => ∃ (k : Nat) (d : RdnL) (l : List AttrV) (vo ao : Option Addr) (vc ac : Nat), i = .int .i64 k ∧ d.length ≤ 7 ∧ Short d ∧ SmallA (5 - k) l ∧ k ≤ 5 ∧ DE q w E d l vo ao vc ac wr) (fun i _ => (intOf i).toNat)
  case atStart => exact ⟨j, _, [], _, _, _, _, rfl, by simp, HSh.out, ⟨by simp, fun a h => by simp at h⟩, by omega, D2.out⟩
  case round =>
    clear HSh D2
    obtain ⟨k, d, l, vo, ao, vc, ac, rfl, hd, hsh, hsm, hk, hde⟩ := hrel
    have HSh := Lib.hid hsh; have HSm := Lib.hid hsm; have HDE := Lib.hid hde
    clear hsh hsm hde
    by_cases h0 : 0 < k
    · have g0 : (0 : Int) < (k : Int) := by omega
      have hqr : q < wr.heap.size := HDE.out.st.1.lt
      have hRr := HDE.out.lo
      have hEr := HDE.out.cell.lt
      have sd : Still q wr wr.drew := still_drew HDE.out.st.1
      have SK : Hid (∀ Z : World, Still q wr Z → (Z.cell? ⟨E, 0, none⟩ = some (.slice vo d.length vc) ∧ Z.cell? ⟨E, 1, none⟩ = some (.slice ao l.length ac))) := Lib.hid (fun Z h => (HDE.out.step hq h).cell.cells.1)
      have HNm : Hid (∀ Z, Still q wr Z → Calls Tryz.prog 45 #[.pointer (some ⟨q, 0, none⟩)] Z fun e w' => TextTo 40 e ∧ Still q wr w' ∧ Still q Z w') := Lib.hid (fun Z h => (l03Name_any q Z h.1).mono fun e w' ⟨a, b⟩ => ⟨a, h.trans b, b⟩)
      have HVl : Hid (∀ Z, Still q wr Z → Calls Tryz.prog 46 #[.pointer (some ⟨q, 0, none⟩)] Z fun e w' => TextTo 40 e ∧ Still q wr w' ∧ Still q Z w') := Lib.hid (fun Z h => (l03Value_any q Z h.1).mono fun e w' ⟨a, b⟩ => ⟨a, h.trans b, b⟩)
      have HAd : Hid (∀ (Z : World) (nm val : ByteArray), Still q wr Z → nm.size ≤ 40 → val.size ≤ 40 → Calls Tryz.prog 14 #[.agg #[.slice vo d.length vc, .slice ao l.length ac], .string nm, .string val] Z fun e w' => (∃ (c : Int) (D : RdnL) (T : List AttrV) (xo : Option Addr) (xc : Nat) (yo : Option Addr) (yc : Nat), (c = 0 → D = d ∧ SmallA (5 - k + 1) T) ∧ e = .returned (.agg #[.slice xo D.length xc, .slice yo T.length yc, .int .i64 c]) ∧ w'.ownsRow (w.heap.size + 1) 97 2 (.slice xo D.length xc) D.length (rs D) ∧ AttrsRow w' (w.heap.size + 1) (.slice yo T.length yc) T) ∧ Still q wr w' ∧ Still q Z w') := Lib.hid (fun Z nm val h h1 h2 => by
        have hZ := HDE.out.step hq h
        have hzl : w.heap.size + 1 ≤ Z.heap.size := by have := hZ.cell.lt; have := hZ.lo; omega
        refine (SpecValueAdd_any vo ao d l vc ac nm val Z (own_dn hZ.dn) hZ.att.attrs (short_fits HSh.out hd) (HSm.out.fits (by omega)) (by unfold maxLen; omega) (by unfold maxLen; omega)).mono ?_
        rintro e w' ⟨⟨xo, xc, yo, yc, he, o, a⟩, b⟩
        have sb := still_below h.1 b
        exact ⟨⟨_, _, _, xo, xc, yo, yc, addR_ok HSm.out h1 h2, he, own_mono o hzl, a.mono hzl⟩, h.trans sb, sb⟩)
      go_wp2_with fail
      refine wp_region_held_drew (S := (fun Z => Z.cell? ⟨E, 0, none⟩ = some (.slice vo d.length vc) ∧ Z.cell? ⟨E, 1, none⟩ = some (.slice ao l.length ac))) (by kernel_rfl) ?_ (fun hHeld => ?_)
      · (try dsimp only)
        first | exact SK.out _ (by assumption) | exact SK.out _ sd | exact SK.out _ sY | exact hSf _ _ _
      refine wpAnyH_take (i := 0) (oi := { dst := some 20, op := Op.load 26 (Operand.tmp 3), type := 26, pos := "l03_entry.go:314", after := #[], guard := none }) (v := ?_) rfl (by kernel_rfl) (by kernel_rfl) (by kernel_rfl) (fun _ _ _ h => h) (Or.inl ⟨by rfl, ?_⟩) (by assumption) ?_
      rotate_left
      · intro w hSw; (try dsimp only at hSw); go_simp; (try with_reducible rfl)
      (try simp only [Act.put, List.setIfInBounds_toArray, List.set_cons_zero, List.set_cons_succ])
      refine wpAnyH_take (i := 1) (oi := { dst := some 21, op := Op.move (Operand.tmp 0), type := 61, pos := "l03_entry.go:314", after := #[], guard := none }) (v := ?_) rfl (by kernel_rfl) (by kernel_rfl) (by kernel_rfl) (fun _ _ _ h => h) (Or.inl ⟨by rfl, ?_⟩) (by assumption) ?_
      rotate_left
      · intro w hSw; (try dsimp only at hSw); go_simp; (try with_reducible rfl)
      (try simp only [Act.put, List.setIfInBounds_toArray, List.set_cons_zero, List.set_cons_succ])
      refine wpAnyH_take (i := 3) (oi := { dst := some 23, op := Op.move (Operand.tmp 0), type := 61, pos := "l03_entry.go:314", after := #[], guard := none }) (v := ?_) rfl (by kernel_rfl) (by kernel_rfl) (by kernel_rfl) (fun _ _ _ h => h) (Or.inl ⟨by rfl, ?_⟩) (by assumption) ?_
      rotate_left
      · intro w hSw; (try dsimp only at hSw); go_simp; (try with_reducible rfl)
      (try simp only [Act.put, List.setIfInBounds_toArray, List.set_cons_zero, List.set_cons_succ])
      refine wpAnyH_ready (rs := [2, 6]) (by kernel_rfl) (by simp) ?_
      refine AllReadyH.cons (o := { dst := some 22, op := Op.call { callee := Callee.value (Operand.func 45), args := #[Operand.tmp 21], argTypes := #[61] }, type := 9, pos := "l03_entry.go:314", after := #[{ on := 1, ground := Ground.data }], guard := none }) rfl (fun K hK => ?_) (AllReadyH.cons (o := { dst := some 5, op := Op.alloc 30, type := 0, pos := "l03_entry.go:314", after := #[], guard := none }) rfl (fun K hK => ?_) (AllReadyH.nil))
      · go_simp
        refine (HNm.out _ sd).mono ?_
        rintro e w2n ⟨⟨nm, rfl, hnm⟩, s2, k2⟩
        clear hHeld
        refine hK.out _ _ ?_ (fun hHeld => ?_)
        · (try dsimp only)
          first | exact SK.out _ (by assumption) | exact SK.out _ sd | exact SK.out _ sY | exact hSf _ _ _
        clear hK K
        (try simp only [Act.put, List.setIfInBounds_toArray, List.set_cons_zero, List.set_cons_succ])
        refine wpAnyH_ready (rs := [4, 6]) (by kernel_rfl) (by simp) ?_
        refine AllReadyH.cons (o := { dst := some 24, op := Op.call { callee := Callee.value (Operand.func 46), args := #[Operand.tmp 23], argTypes := #[61] }, type := 9, pos := "l03_entry.go:314", after := #[{ on := 3, ground := Ground.data }, { on := 2, ground := Ground.chain }], guard := none }) rfl (fun K hK => ?_) (AllReadyH.cons (o := { dst := some 5, op := Op.alloc 30, type := 0, pos := "l03_entry.go:314", after := #[], guard := none }) rfl (fun K hK => ?_) (AllReadyH.nil))
        · go_simp
          refine (HVl.out _ s2).mono ?_
          rintro e w4n ⟨⟨val, rfl, hvl⟩, s4, k4⟩
          clear hHeld
          refine hK.out _ _ ?_ (fun hHeld => ?_)
          · (try dsimp only)
            first | exact SK.out _ (by assumption) | exact SK.out _ sd | exact SK.out _ sY | exact hSf _ _ _
          clear hK K
          (try simp only [Act.put, List.setIfInBounds_toArray, List.set_cons_zero, List.set_cons_succ])
          refine wpAnyH_ready (rs := [5, 6]) (by kernel_rfl) (by simp) ?_
          refine AllReadyH.cons (o := { dst := some 25, op := Op.call { callee := Callee.value (Operand.func 14), args := #[Operand.tmp 20, Operand.tmp 22, Operand.tmp 24], argTypes := #[26, 9, 9] }, type := 30, pos := "l03_entry.go:314", after := #[{ on := 0, ground := Ground.data }, { on := 2, ground := Ground.data }, { on := 4, ground := Ground.data }, { on := 4, ground := Ground.chain }], guard := none }) rfl (fun K hK => ?_) (AllReadyH.cons (o := { dst := some 5, op := Op.alloc 30, type := 0, pos := "l03_entry.go:314", after := #[], guard := none }) rfl (fun K hK => ?_) (AllReadyH.nil))
          · go_simp
            refine (HAd.out _ nm val s4 hnm hvl).mono ?_
            rintro e w5n ⟨⟨c, D, T, xo, xc, yo, yc, hok, rfl, o5, a5⟩, s5, k5⟩
            have HOk := Lib.hid hok; have O5 := Lib.hid o5; have A5 := Lib.hid a5
            clear hok o5 a5
            clear hHeld
            refine hK.out _ _ ?_ (fun hHeld => ?_)
            · (try dsimp only)
              first | exact SK.out _ (by assumption) | exact SK.out _ sd | exact SK.out _ sY | exact hSf _ _ _
            clear hK K
            (try simp only [Act.put, List.setIfInBounds_toArray, List.set_cons_zero, List.set_cons_succ])
            refine wpAnyH_ready (rs := [6]) (by kernel_rfl) (by simp) ?_
            refine AllReadyH.cons (o := { dst := some 5, op := Op.alloc 30, type := 0, pos := "l03_entry.go:314", after := #[], guard := none }) rfl (fun K hK => ?_) (AllReadyH.nil)
            go_simp
            obtain ⟨wY, hwY⟩ : ∃ wY, wY = w5n.alloc (.cells #[.slice none 0 0, .slice none 0 0, .int .i64 0] 30) := ⟨_, rfl⟩
            have bY : Below w5n.heap.size w5n wY := by rw [hwY]; exact more (Below.refl _ _) _
            have sY : Still q wr wY := by rw [hwY]; exact s5.alloc hqr _ _
            have tY : Three wY w5n.heap.size 30 (.slice none 0 0) (.slice none 0 0) (.int .i64 0) := by rw [hwY]; exact heap_alloc_new _ _
            have hYw : wr.heap.size ≤ w5n.heap.size := s5.2.size
            rw [← hwY]
            clear hwY
            clear hHeld
            refine hK.out _ _ ?_ (fun hHeld => ?_)
            · (try dsimp only)
              first | exact SK.out _ (by assumption) | exact SK.out _ sd | exact SK.out _ sY | exact hSf _ _ _
            clear hK K
            (try simp only [Act.put, List.setIfInBounds_toArray, List.set_cons_zero, List.set_cons_succ])
            refine wpAnyH_ready (rs := [7]) (by kernel_rfl) (by simp) ?_
            refine AllReadyH.cons (o := { dst := none, op := Op.store 30 (Operand.tmp 5) (Operand.tmp 25), type := 0, pos := "l03_entry.go:314", after := #[{ on := 6, ground := Ground.data }, { on := 5, ground := Ground.data }, { on := 5, ground := Ground.chain }, { on := 0, ground := Ground.phase }, { on := 1, ground := Ground.phase }, { on := 2, ground := Ground.phase }, { on := 3, ground := Ground.phase }, { on := 4, ground := Ground.phase }, { on := 5, ground := Ground.phase }, { on := 6, ground := Ground.phase }], guard := none }) rfl (fun K hK => ?_) (AllReadyH.nil)
            have O5 := Lib.hid (own_below O5.out bY); have A5 := Lib.hid (A5.out.below bY)
            obtain ⟨⟨z0, z1, z2⟩, y0, y1, y2⟩ := Three.cells tY
            have HF := Lib.hid (addSt_of (c := c) (HDE.out.step hq sY) hq tY (by have := HDE.out.cell.lt; omega) (by have := HDE.out.lo; have := HDE.out.cell.lt; omega) O5.out A5.out)
            have hSf : ∀ x y z : Value, (((wY.setCell ⟨w5n.heap.size, 0, none⟩ x).setCell ⟨w5n.heap.size, 1, none⟩ y).setCell ⟨w5n.heap.size, 2, none⟩ z).cell? ⟨E, 0, none⟩ = some (.slice vo d.length vc) ∧ (((wY.setCell ⟨w5n.heap.size, 0, none⟩ x).setCell ⟨w5n.heap.size, 1, none⟩ y).setCell ⟨w5n.heap.size, 2, none⟩ z).cell? ⟨E, 1, none⟩ = some (.slice ao l.length ac) := fun x y z => (((Two.far (HDE.out.step hq sY).cell (by have := HDE.out.cell.lt; omega) x).far (by have := HDE.out.cell.lt; omega) y).far (by have := HDE.out.cell.lt; omega) z).cells.1
            go_simp
            clear hHeld
            refine hK.out _ _ ?_ (fun hHeld => ?_)
            · (try dsimp only)
              first | exact SK.out _ (by assumption) | exact SK.out _ sd | exact SK.out _ sY | exact hSf _ _ _
            clear hK K
            (try simp only [Act.put, List.setIfInBounds_toArray, List.set_cons_zero, List.set_cons_succ])
            refine wpAnyH_done (by kernel_rfl) ?_ _
            clear hHeld hSf SK z0 z1 z2 y0 y1 y2
            obtain ⟨⟨z0, z1, z2⟩, _⟩ := HF.out.three.cells
            obtain ⟨⟨x0, x1⟩, y0, y1⟩ := HF.out.de.cell.cells
            by_cases hc : c = 0
            · subst hc
              obtain ⟨rfl, hsmT⟩ := HOk.out rfl
              have HSmT := Lib.hid hsmT
              clear hsmT HOk
              have HN := Lib.hid (HF.out.de.store hq HF.out.dn HF.out.att)
              go_wp2_with fail
              go_roundw
              case rel => exact ⟨k - 1, _, T, xo, yo, xc, yc, by go_num, hd, HSh.out, HSmT.out.mono (by omega), by omega, HN.out⟩
              case measure => simp [intOf]; omega
            · have hc' : (c == 0) = false := by simpa using hc
              go_wp2_with fail
              go_roundw
              case rel => exact ⟨k - 1, d, l, vo, ao, vc, ac, by go_num, hd, HSh.out, HSm.out.mono (by omega), by omega, HF.out.de⟩
              case measure => simp [intOf]; omega
          · go_simp
            obtain ⟨wY, hwY⟩ : ∃ wY, wY = w4n.alloc (.cells #[.slice none 0 0, .slice none 0 0, .int .i64 0] 30) := ⟨_, rfl⟩
            have bY : Below w4n.heap.size w4n wY := by rw [hwY]; exact more (Below.refl _ _) _
            have sY : Still q wr wY := by rw [hwY]; exact s4.alloc hqr _ _
            have tY : Three wY w4n.heap.size 30 (.slice none 0 0) (.slice none 0 0) (.int .i64 0) := by rw [hwY]; exact heap_alloc_new _ _
            have hYw : wr.heap.size ≤ w4n.heap.size := s4.2.size
            rw [← hwY]
            clear hwY
            clear hHeld
            refine hK.out _ _ ?_ (fun hHeld => ?_)
            · (try dsimp only)
              first | exact SK.out _ (by assumption) | exact SK.out _ sd | exact SK.out _ sY | exact hSf _ _ _
            clear hK K
            (try simp only [Act.put, List.setIfInBounds_toArray, List.set_cons_zero, List.set_cons_succ])
            refine wpAnyH_ready (rs := [5]) (by kernel_rfl) (by simp) ?_
            refine AllReadyH.cons (o := { dst := some 25, op := Op.call { callee := Callee.value (Operand.func 14), args := #[Operand.tmp 20, Operand.tmp 22, Operand.tmp 24], argTypes := #[26, 9, 9] }, type := 30, pos := "l03_entry.go:314", after := #[{ on := 0, ground := Ground.data }, { on := 2, ground := Ground.data }, { on := 4, ground := Ground.data }, { on := 4, ground := Ground.chain }], guard := none }) rfl (fun K hK => ?_) (AllReadyH.nil)
            go_simp
            refine (HAd.out _ nm val sY hnm hvl).mono ?_
            rintro e w5n ⟨⟨c, D, T, xo, xc, yo, yc, hok, rfl, o5, a5⟩, s5, k5⟩
            have HOk := Lib.hid hok; have O5 := Lib.hid o5; have A5 := Lib.hid a5
            clear hok o5 a5
            clear hHeld
            refine hK.out _ _ ?_ (fun hHeld => ?_)
            · (try dsimp only)
              first | exact SK.out _ (by assumption) | exact SK.out _ sd | exact SK.out _ sY | exact hSf _ _ _
            clear hK K
            (try simp only [Act.put, List.setIfInBounds_toArray, List.set_cons_zero, List.set_cons_succ])
            refine wpAnyH_ready (rs := [7]) (by kernel_rfl) (by simp) ?_
            refine AllReadyH.cons (o := { dst := none, op := Op.store 30 (Operand.tmp 5) (Operand.tmp 25), type := 0, pos := "l03_entry.go:314", after := #[{ on := 6, ground := Ground.data }, { on := 5, ground := Ground.data }, { on := 5, ground := Ground.chain }, { on := 0, ground := Ground.phase }, { on := 1, ground := Ground.phase }, { on := 2, ground := Ground.phase }, { on := 3, ground := Ground.phase }, { on := 4, ground := Ground.phase }, { on := 5, ground := Ground.phase }, { on := 6, ground := Ground.phase }], guard := none }) rfl (fun K hK => ?_) (AllReadyH.nil)
            have tZ := three_still tY k5 (by omega)
            obtain ⟨⟨z0, z1, z2⟩, y0, y1, y2⟩ := Three.cells tZ
            have HF := Lib.hid (addSt_of (c := c) (HDE.out.step hq s5) hq tZ (by have := HDE.out.cell.lt; omega) (by have := HDE.out.lo; have := HDE.out.cell.lt; omega) O5.out A5.out)
            have hSf : ∀ x y z : Value, (((w5n.setCell ⟨w4n.heap.size, 0, none⟩ x).setCell ⟨w4n.heap.size, 1, none⟩ y).setCell ⟨w4n.heap.size, 2, none⟩ z).cell? ⟨E, 0, none⟩ = some (.slice vo d.length vc) ∧ (((w5n.setCell ⟨w4n.heap.size, 0, none⟩ x).setCell ⟨w4n.heap.size, 1, none⟩ y).setCell ⟨w4n.heap.size, 2, none⟩ z).cell? ⟨E, 1, none⟩ = some (.slice ao l.length ac) := fun x y z => (((Two.far (HDE.out.step hq s5).cell (by have := HDE.out.cell.lt; omega) x).far (by have := HDE.out.cell.lt; omega) y).far (by have := HDE.out.cell.lt; omega) z).cells.1
            go_simp
            clear hHeld
            refine hK.out _ _ ?_ (fun hHeld => ?_)
            · (try dsimp only)
              first | exact SK.out _ (by assumption) | exact SK.out _ sd | exact SK.out _ sY | exact hSf _ _ _
            clear hK K
            (try simp only [Act.put, List.setIfInBounds_toArray, List.set_cons_zero, List.set_cons_succ])
            refine wpAnyH_done (by kernel_rfl) ?_ _
            clear hHeld hSf SK z0 z1 z2 y0 y1 y2
            obtain ⟨⟨z0, z1, z2⟩, _⟩ := HF.out.three.cells
            obtain ⟨⟨x0, x1⟩, y0, y1⟩ := HF.out.de.cell.cells
            by_cases hc : c = 0
            · subst hc
              obtain ⟨rfl, hsmT⟩ := HOk.out rfl
              have HSmT := Lib.hid hsmT
              clear hsmT HOk
              have HN := Lib.hid (HF.out.de.store hq HF.out.dn HF.out.att)
              go_wp2_with fail
              go_roundw
              case rel => exact ⟨k - 1, _, T, xo, yo, xc, yc, by go_num, hd, HSh.out, HSmT.out.mono (by omega), by omega, HN.out⟩
              case measure => simp [intOf]; omega
            · have hc' : (c == 0) = false := by simpa using hc
              go_wp2_with fail
              go_roundw
              case rel => exact ⟨k - 1, d, l, vo, ao, vc, ac, by go_num, hd, HSh.out, HSm.out.mono (by omega), by omega, HF.out.de⟩
              case measure => simp [intOf]; omega
        · go_simp
          obtain ⟨wY, hwY⟩ : ∃ wY, wY = w2n.alloc (.cells #[.slice none 0 0, .slice none 0 0, .int .i64 0] 30) := ⟨_, rfl⟩
          have bY : Below w2n.heap.size w2n wY := by rw [hwY]; exact more (Below.refl _ _) _
          have sY : Still q wr wY := by rw [hwY]; exact s2.alloc hqr _ _
          have tY : Three wY w2n.heap.size 30 (.slice none 0 0) (.slice none 0 0) (.int .i64 0) := by rw [hwY]; exact heap_alloc_new _ _
          have hYw : wr.heap.size ≤ w2n.heap.size := s2.2.size
          rw [← hwY]
          clear hwY
          clear hHeld
          refine hK.out _ _ ?_ (fun hHeld => ?_)
          · (try dsimp only)
            first | exact SK.out _ (by assumption) | exact SK.out _ sd | exact SK.out _ sY | exact hSf _ _ _
          clear hK K
          (try simp only [Act.put, List.setIfInBounds_toArray, List.set_cons_zero, List.set_cons_succ])
          refine wpAnyH_ready (rs := [4]) (by kernel_rfl) (by simp) ?_
          refine AllReadyH.cons (o := { dst := some 24, op := Op.call { callee := Callee.value (Operand.func 46), args := #[Operand.tmp 23], argTypes := #[61] }, type := 9, pos := "l03_entry.go:314", after := #[{ on := 3, ground := Ground.data }, { on := 2, ground := Ground.chain }], guard := none }) rfl (fun K hK => ?_) (AllReadyH.nil)
          go_simp
          refine (HVl.out _ sY).mono ?_
          rintro e w4n ⟨⟨val, rfl, hvl⟩, s4, k4⟩
          clear hHeld
          refine hK.out _ _ ?_ (fun hHeld => ?_)
          · (try dsimp only)
            first | exact SK.out _ (by assumption) | exact SK.out _ sd | exact SK.out _ sY | exact hSf _ _ _
          clear hK K
          (try simp only [Act.put, List.setIfInBounds_toArray, List.set_cons_zero, List.set_cons_succ])
          refine wpAnyH_ready (rs := [5]) (by kernel_rfl) (by simp) ?_
          refine AllReadyH.cons (o := { dst := some 25, op := Op.call { callee := Callee.value (Operand.func 14), args := #[Operand.tmp 20, Operand.tmp 22, Operand.tmp 24], argTypes := #[26, 9, 9] }, type := 30, pos := "l03_entry.go:314", after := #[{ on := 0, ground := Ground.data }, { on := 2, ground := Ground.data }, { on := 4, ground := Ground.data }, { on := 4, ground := Ground.chain }], guard := none }) rfl (fun K hK => ?_) (AllReadyH.nil)
          go_simp
          refine (HAd.out _ nm val s4 hnm hvl).mono ?_
          rintro e w5n ⟨⟨c, D, T, xo, xc, yo, yc, hok, rfl, o5, a5⟩, s5, k5⟩
          have HOk := Lib.hid hok; have O5 := Lib.hid o5; have A5 := Lib.hid a5
          clear hok o5 a5
          clear hHeld
          refine hK.out _ _ ?_ (fun hHeld => ?_)
          · (try dsimp only)
            first | exact SK.out _ (by assumption) | exact SK.out _ sd | exact SK.out _ sY | exact hSf _ _ _
          clear hK K
          (try simp only [Act.put, List.setIfInBounds_toArray, List.set_cons_zero, List.set_cons_succ])
          refine wpAnyH_ready (rs := [7]) (by kernel_rfl) (by simp) ?_
          refine AllReadyH.cons (o := { dst := none, op := Op.store 30 (Operand.tmp 5) (Operand.tmp 25), type := 0, pos := "l03_entry.go:314", after := #[{ on := 6, ground := Ground.data }, { on := 5, ground := Ground.data }, { on := 5, ground := Ground.chain }, { on := 0, ground := Ground.phase }, { on := 1, ground := Ground.phase }, { on := 2, ground := Ground.phase }, { on := 3, ground := Ground.phase }, { on := 4, ground := Ground.phase }, { on := 5, ground := Ground.phase }, { on := 6, ground := Ground.phase }], guard := none }) rfl (fun K hK => ?_) (AllReadyH.nil)
          have tZ := three_still (three_still tY k4 (by omega)) k5 (by omega)
          obtain ⟨⟨z0, z1, z2⟩, y0, y1, y2⟩ := Three.cells tZ
          have HF := Lib.hid (addSt_of (c := c) (HDE.out.step hq s5) hq tZ (by have := HDE.out.cell.lt; omega) (by have := HDE.out.lo; have := HDE.out.cell.lt; omega) O5.out A5.out)
          have hSf : ∀ x y z : Value, (((w5n.setCell ⟨w2n.heap.size, 0, none⟩ x).setCell ⟨w2n.heap.size, 1, none⟩ y).setCell ⟨w2n.heap.size, 2, none⟩ z).cell? ⟨E, 0, none⟩ = some (.slice vo d.length vc) ∧ (((w5n.setCell ⟨w2n.heap.size, 0, none⟩ x).setCell ⟨w2n.heap.size, 1, none⟩ y).setCell ⟨w2n.heap.size, 2, none⟩ z).cell? ⟨E, 1, none⟩ = some (.slice ao l.length ac) := fun x y z => (((Two.far (HDE.out.step hq s5).cell (by have := HDE.out.cell.lt; omega) x).far (by have := HDE.out.cell.lt; omega) y).far (by have := HDE.out.cell.lt; omega) z).cells.1
          go_simp
          clear hHeld
          refine hK.out _ _ ?_ (fun hHeld => ?_)
          · (try dsimp only)
            first | exact SK.out _ (by assumption) | exact SK.out _ sd | exact SK.out _ sY | exact hSf _ _ _
          clear hK K
          (try simp only [Act.put, List.setIfInBounds_toArray, List.set_cons_zero, List.set_cons_succ])
          refine wpAnyH_done (by kernel_rfl) ?_ _
          clear hHeld hSf SK z0 z1 z2 y0 y1 y2
          obtain ⟨⟨z0, z1, z2⟩, _⟩ := HF.out.three.cells
          obtain ⟨⟨x0, x1⟩, y0, y1⟩ := HF.out.de.cell.cells
          by_cases hc : c = 0
          · subst hc
            obtain ⟨rfl, hsmT⟩ := HOk.out rfl
            have HSmT := Lib.hid hsmT
            clear hsmT HOk
            have HN := Lib.hid (HF.out.de.store hq HF.out.dn HF.out.att)
            go_wp2_with fail
            go_roundw
            case rel => exact ⟨k - 1, _, T, xo, yo, xc, yc, by go_num, hd, HSh.out, HSmT.out.mono (by omega), by omega, HN.out⟩
            case measure => simp [intOf]; omega
          · have hc' : (c == 0) = false := by simpa using hc
            go_wp2_with fail
            go_roundw
            case rel => exact ⟨k - 1, d, l, vo, ao, vc, ac, by go_num, hd, HSh.out, HSm.out.mono (by omega), by omega, HF.out.de⟩
            case measure => simp [intOf]; omega
      · go_simp
        have sY : Still q wr (wr.drew.alloc (.cells #[.slice none 0 0, .slice none 0 0, .int .i64 0] 30)) := sd.alloc hqr _ _
        have tY : Three (wr.drew.alloc (.cells #[.slice none 0 0, .slice none 0 0, .int .i64 0] 30)) wr.heap.size 30 (.slice none 0 0) (.slice none 0 0) (.int .i64 0) := heap_alloc_new _ _
        have hYw : wr.heap.size ≤ wr.heap.size := sd.2.size
        clear hHeld
        refine hK.out _ _ ?_ (fun hHeld => ?_)
        · (try dsimp only)
          first | exact SK.out _ (by assumption) | exact SK.out _ sd | exact SK.out _ sY | exact hSf _ _ _
        clear hK K
        (try simp only [Act.put, List.setIfInBounds_toArray, List.set_cons_zero, List.set_cons_succ])
        refine wpAnyH_ready (rs := [2]) (by kernel_rfl) (by simp) ?_
        refine AllReadyH.cons (o := { dst := some 22, op := Op.call { callee := Callee.value (Operand.func 45), args := #[Operand.tmp 21], argTypes := #[61] }, type := 9, pos := "l03_entry.go:314", after := #[{ on := 1, ground := Ground.data }], guard := none }) rfl (fun K hK => ?_) (AllReadyH.nil)
        go_simp
        refine (HNm.out _ sY).mono ?_
        rintro e w2n ⟨⟨nm, rfl, hnm⟩, s2, k2⟩
        clear hHeld
        refine hK.out _ _ ?_ (fun hHeld => ?_)
        · (try dsimp only)
          first | exact SK.out _ (by assumption) | exact SK.out _ sd | exact SK.out _ sY | exact hSf _ _ _
        clear hK K
        (try simp only [Act.put, List.setIfInBounds_toArray, List.set_cons_zero, List.set_cons_succ])
        refine wpAnyH_ready (rs := [4]) (by kernel_rfl) (by simp) ?_
        refine AllReadyH.cons (o := { dst := some 24, op := Op.call { callee := Callee.value (Operand.func 46), args := #[Operand.tmp 23], argTypes := #[61] }, type := 9, pos := "l03_entry.go:314", after := #[{ on := 3, ground := Ground.data }, { on := 2, ground := Ground.chain }], guard := none }) rfl (fun K hK => ?_) (AllReadyH.nil)
        go_simp
        refine (HVl.out _ s2).mono ?_
        rintro e w4n ⟨⟨val, rfl, hvl⟩, s4, k4⟩
        clear hHeld
        refine hK.out _ _ ?_ (fun hHeld => ?_)
        · (try dsimp only)
          first | exact SK.out _ (by assumption) | exact SK.out _ sd | exact SK.out _ sY | exact hSf _ _ _
        clear hK K
        (try simp only [Act.put, List.setIfInBounds_toArray, List.set_cons_zero, List.set_cons_succ])
        refine wpAnyH_ready (rs := [5]) (by kernel_rfl) (by simp) ?_
        refine AllReadyH.cons (o := { dst := some 25, op := Op.call { callee := Callee.value (Operand.func 14), args := #[Operand.tmp 20, Operand.tmp 22, Operand.tmp 24], argTypes := #[26, 9, 9] }, type := 30, pos := "l03_entry.go:314", after := #[{ on := 0, ground := Ground.data }, { on := 2, ground := Ground.data }, { on := 4, ground := Ground.data }, { on := 4, ground := Ground.chain }], guard := none }) rfl (fun K hK => ?_) (AllReadyH.nil)
        go_simp
        refine (HAd.out _ nm val s4 hnm hvl).mono ?_
        rintro e w5n ⟨⟨c, D, T, xo, xc, yo, yc, hok, rfl, o5, a5⟩, s5, k5⟩
        have HOk := Lib.hid hok; have O5 := Lib.hid o5; have A5 := Lib.hid a5
        clear hok o5 a5
        clear hHeld
        refine hK.out _ _ ?_ (fun hHeld => ?_)
        · (try dsimp only)
          first | exact SK.out _ (by assumption) | exact SK.out _ sd | exact SK.out _ sY | exact hSf _ _ _
        clear hK K
        (try simp only [Act.put, List.setIfInBounds_toArray, List.set_cons_zero, List.set_cons_succ])
        refine wpAnyH_ready (rs := [7]) (by kernel_rfl) (by simp) ?_
        refine AllReadyH.cons (o := { dst := none, op := Op.store 30 (Operand.tmp 5) (Operand.tmp 25), type := 0, pos := "l03_entry.go:314", after := #[{ on := 6, ground := Ground.data }, { on := 5, ground := Ground.data }, { on := 5, ground := Ground.chain }, { on := 0, ground := Ground.phase }, { on := 1, ground := Ground.phase }, { on := 2, ground := Ground.phase }, { on := 3, ground := Ground.phase }, { on := 4, ground := Ground.phase }, { on := 5, ground := Ground.phase }, { on := 6, ground := Ground.phase }], guard := none }) rfl (fun K hK => ?_) (AllReadyH.nil)
        have tZ := three_still (three_still (three_still tY k2 (by omega)) k4 (by omega)) k5 (by omega)
        obtain ⟨⟨z0, z1, z2⟩, y0, y1, y2⟩ := Three.cells tZ
        have HF := Lib.hid (addSt_of (c := c) (HDE.out.step hq s5) hq tZ (by have := HDE.out.cell.lt; omega) (by have := HDE.out.lo; have := HDE.out.cell.lt; omega) O5.out A5.out)
        have hSf : ∀ x y z : Value, (((w5n.setCell ⟨wr.heap.size, 0, none⟩ x).setCell ⟨wr.heap.size, 1, none⟩ y).setCell ⟨wr.heap.size, 2, none⟩ z).cell? ⟨E, 0, none⟩ = some (.slice vo d.length vc) ∧ (((w5n.setCell ⟨wr.heap.size, 0, none⟩ x).setCell ⟨wr.heap.size, 1, none⟩ y).setCell ⟨wr.heap.size, 2, none⟩ z).cell? ⟨E, 1, none⟩ = some (.slice ao l.length ac) := fun x y z => (((Two.far (HDE.out.step hq s5).cell (by have := HDE.out.cell.lt; omega) x).far (by have := HDE.out.cell.lt; omega) y).far (by have := HDE.out.cell.lt; omega) z).cells.1
        go_simp
        clear hHeld
        refine hK.out _ _ ?_ (fun hHeld => ?_)
        · (try dsimp only)
          first | exact SK.out _ (by assumption) | exact SK.out _ sd | exact SK.out _ sY | exact hSf _ _ _
        clear hK K
        (try simp only [Act.put, List.setIfInBounds_toArray, List.set_cons_zero, List.set_cons_succ])
        refine wpAnyH_done (by kernel_rfl) ?_ _
        clear hHeld hSf SK z0 z1 z2 y0 y1 y2
        obtain ⟨⟨z0, z1, z2⟩, _⟩ := HF.out.three.cells
        obtain ⟨⟨x0, x1⟩, y0, y1⟩ := HF.out.de.cell.cells
        by_cases hc : c = 0
        · subst hc
          obtain ⟨rfl, hsmT⟩ := HOk.out rfl
          have HSmT := Lib.hid hsmT
          clear hsmT HOk
          have HN := Lib.hid (HF.out.de.store hq HF.out.dn HF.out.att)
          go_wp2_with fail
          go_roundw
          case rel => exact ⟨k - 1, _, T, xo, yo, xc, yc, by go_num, hd, HSh.out, HSmT.out.mono (by omega), by omega, HN.out⟩
          case measure => simp [intOf]; omega
        · have hc' : (c == 0) = false := by simpa using hc
          go_wp2_with fail
          go_roundw
          case rel => exact ⟨k - 1, d, l, vo, ao, vc, ac, by go_num, hd, HSh.out, HSm.out.mono (by omega), by omega, HF.out.de⟩
          case measure => simp [intOf]; omega
    · obtain rfl : k = 0 := by omega
      have hd7 := hd
      go_wp2_with fail
      refine (one_any q 20 wr HDE.out.st.1 (by decide) (by decide)).mono ?_
      rintro e w2 ⟨⟨b, rfl⟩, hs2⟩
      have D2 := Lib.hid (HDE.out.step hq hs2)
      have HS9 : Hid (SmallA 9 l) := Lib.hid (HSm.out.mono (by omega))
      clear hs2 HDE
      cases b
      ·
        obtain ⟨⟨c0, c1⟩, _⟩ := D2.out.cell.cells
        obtain ⟨⟨r0, r1⟩, rf0, rf1⟩ := D2.out.res.cells
        obtain ⟨⟨z0, z1⟩, _⟩ := ((D2.out.res.set0 (.slice vo d.length vc)).set1 (.slice ao l.length ac)).cells
        go_wp2_with fail
        exact bodyPost_ret (v := .agg #[.slice vo d.length vc, .slice ao l.length ac]) (by simp [results, Tryz.results42, go_sem, z0, z1]) rfl (D2.out.fin hq hd HSh.out HS9.out)
      · go_wp2_with fail
        refine (n_any q 4 w2 D2.out.st.1 (by decide) (by decide)).mono ?_
        rintro e w3 ⟨⟨v, rfl, hv0, hv1⟩, hs3⟩
        have D3 := Lib.hid (D2.out.step hq hs3)
        clear hs3 D2
        obtain ⟨j4, rfl⟩ := Int.eq_ofNat_of_zero_le hv0
        have hq3 : q < w3.heap.size := D3.out.st.1.lt
        have hE3 := D3.out.cell.lt
        have hR3 := D3.out.lo
        rcases (by omega : j4 = 0 ∨ j4 = 1 ∨ j4 = 2 ∨ j4 = 3) with rfl | rfl | rfl | rfl
        · go_wp2_with fail
          refine (drawDn_any q w3 D3.out.st.1).mono ?_
          rintro e w4 ⟨⟨v4, d4, rfl, hd4, hsh4, o4⟩, hs4⟩
          obtain ⟨xo, xc, rfl⟩ := own_slice o4
          have D4 := Lib.hid ((D3.out.step hq hs4).store0 hq (own_mono o4 (by omega)))
          obtain ⟨⟨e0, e1⟩, ef0, ef1⟩ := (D3.out.step hq hs4).cell.cells
          have HSh4 := Lib.hid hsh4
          clear hs4 o4 hsh4
          obtain ⟨⟨c0, c1⟩, _⟩ := D4.out.cell.cells
          obtain ⟨⟨r0, r1⟩, rf0, rf1⟩ := D4.out.res.cells
          obtain ⟨⟨z0, z1⟩, _⟩ := ((D4.out.res.set0 (.slice xo d4.length xc)).set1 (.slice ao l.length ac)).cells
          go_wp2_with fail
          exact bodyPost_ret (v := .agg #[.slice xo d4.length xc, .slice ao l.length ac]) (by simp [results, Tryz.results42, go_sem, z0, z1]) rfl (D4.out.fin hq hd4 HSh4.out HS9.out)
        · obtain ⟨P, hP, hLa⟩ := D3.out.att
          have HPp : Hid (w3.ownsRow (w.heap.size + 1) 48 2 (.slice ao l.length ac) P.length (ps P)) := Lib.hid (by rw [hLa.1]; exact hP)
          have HLa := Lib.hid hLa
          have HPl : Hid (P.length = l.length) := Lib.hid hLa.1
          have hPl : P.length ≤ 1000000000 := by have := hLa.1; have := HS9.out.1; omega
          have hbig : w.heap.size + 1 ≤ w3.heap.size := by have := D3.out.lo; have := D3.out.cell.lt; omega
          have hq0 : q < w3.heap.size := D3.out.st.1.lt
          have sd : Still q w3 w3.drew := still_drew D3.out.st.1
          have KP : Hid (∀ (L : Array Bool) (Z : World), Still q w3 Z → Until (fun _ => True) (fun Z => Z.cell? ⟨E, 1, none⟩ = some (.slice ao l.length ac)) 10 L Z) := Lib.hid (fun L Z h => ⟨trivial, fun _ => (D3.out.step hq h).cell.cells.1.2⟩)
          clear hP hLa
          go_wp2_with fail
          refine wp_region_until (fun _ => True) (fun Z => Z.cell? ⟨E, 1, none⟩ = some (.slice ao l.length ac)) 10 (by kernel_rfl) trivial ((KP.out #[false, false, false, false, false, false, false, false, false, false, false] _ sd).2 rfl) (fun hU => ?_)
          refine wpAnyL_take (i := 0) (oi := { dst := some 48, op := Op.fieldAddr 26 (Operand.tmp 3) 1, type := 0, pos := "l03_entry.go:324", after := #[], guard := none }) (v := ?_) rfl (by decide) (by kernel_rfl) (by kernel_rfl) (by kernel_rfl) (fun _ _ _ h => h) (Or.inl ⟨by rfl, ?_⟩) (by assumption) ?_
          rotate_left
          · intro w hSw; (try dsimp only at hSw); go_simp; (try with_reducible rfl)
          clear hU; intro hU
          (try simp only [Act.put, List.setIfInBounds_toArray, List.set_cons_zero, List.set_cons_succ])
          refine wpAnyL_load (i := 1) (m := 8) (oi := { dst := some 49, op := Op.load 24 (Operand.tmp 48), type := 24, pos := "l03_entry.go:324", after := #[{ on := 0, ground := Ground.data }], guard := none }) (om := { dst := some 56, op := Op.call { callee := Callee.builtin Builtin.append, args := #[Operand.tmp 49, Operand.tmp 55], argTypes := #[24, 24] }, type := 24, pos := "l03_entry.go:324", after := #[{ on := 1, ground := Ground.data }, { on := 7, ground := Ground.data }, { on := 4, ground := Ground.chain }], guard := none }) (ok := { dst := none, op := Op.store 24 (Operand.tmp 57) (Operand.tmp 56), type := 0, pos := "l03_entry.go:324", after := #[{ on := 9, ground := Ground.data }, { on := 8, ground := Ground.data }, { on := 8, ground := Ground.chain }, { on := 0, ground := Ground.phase }, { on := 1, ground := Ground.phase }, { on := 2, ground := Ground.phase }, { on := 3, ground := Ground.phase }, { on := 4, ground := Ground.phase }, { on := 5, ground := Ground.phase }, { on := 6, ground := Ground.phase }, { on := 7, ground := Ground.phase }, { on := 8, ground := Ground.phase }], guard := none }) (v := ?_) rfl (by decide) (by kernel_rfl) (by kernel_rfl) (by kernel_rfl) rfl rfl (by kernel_rfl) (by kernel_rfl) (by kernel_rfl) (by kernel_rfl) (fun _ _ _ h => h) (Or.inl ⟨by rfl, ?_⟩) (by assumption) ?_
          rotate_left
          · intro w hSw; (try dsimp only at hSw); go_simp; (try with_reducible rfl)
          clear hU; intro hU
          (try simp only [Act.put, List.setIfInBounds_toArray, List.set_cons_zero, List.set_cons_succ])
          refine wpAnyL_take (i := 2) (oi := { dst := some 50, op := Op.move (Operand.tmp 0), type := 61, pos := "l03_entry.go:324", after := #[], guard := none }) (v := ?_) rfl (by decide) (by kernel_rfl) (by kernel_rfl) (by kernel_rfl) (fun _ _ _ h => h) (Or.inl ⟨by rfl, ?_⟩) (by assumption) ?_
          rotate_left
          · intro w hSw; (try dsimp only at hSw); go_simp; (try with_reducible rfl)
          clear hU; intro hU
          (try simp only [Act.put, List.setIfInBounds_toArray, List.set_cons_zero, List.set_cons_succ])
          refine wpAnyL_ready (rs := [3, 5]) (by kernel_rfl) (by simp) ?_
          refine AllReadyL.cons (o := { dst := some 51, op := Op.buildSlice 36 2 #[(0, Operand.const (Value.string { data := #[97] })), (1, Operand.const (Value.string { data := #[122, 122] }))], type := 36, pos := "l03_entry.go:324", after := #[], guard := none }) rfl (fun K hK => ?_) (AllReadyL.cons (o := { dst := some 53, op := Op.buildSlice 36 2 #[(0, Operand.const (Value.string { data := #[98] })), (1, Operand.const (Value.string { data := #[97] }))], type := 36, pos := "l03_entry.go:324", after := #[], guard := none }) rfl (fun K hK => ?_) (AllReadyL.nil))
          · go_simp
            have sX : Still q w3 (w3.drew.alloc (.cells #[.string ⟨#[97]⟩, .string ⟨#[122, 122]⟩] 9)) := sd.alloc hq0 _ _
            have sP := sX
            clear hU
            refine hK.out _ _ ?_ (fun hU => ?_)
            · (try dsimp only)
              first | exact KP.out _ _ (by assumption) | exact KP.out _ _ sd | exact KP.out _ _ sX | exact KP.out _ _ sV | exact KP.out _ _ sA | exact ⟨trivial, fun _ => y1⟩ | exact ⟨trivial, fun h => absurd (h.symm.trans (show _ = true by kernel_rfl)) (by decide)⟩
            clear hK K
            (try simp only [Act.put, List.setIfInBounds_toArray, List.set_cons_zero, List.set_cons_succ])
            refine wpAnyL_ready (rs := [4, 5]) (by kernel_rfl) (by simp) ?_
            refine AllReadyL.cons (o := { dst := some 52, op := Op.call { callee := Callee.value (Operand.func 44), args := #[Operand.tmp 50, Operand.tmp 51], argTypes := #[61, 36] }, type := 9, pos := "l03_entry.go:324", after := #[{ on := 2, ground := Ground.data }, { on := 3, ground := Ground.data }], guard := none }) rfl (fun K hK => ?_) (AllReadyL.cons (o := { dst := some 53, op := Op.buildSlice 36 2 #[(0, Operand.const (Value.string { data := #[98] })), (1, Operand.const (Value.string { data := #[97] }))], type := 36, pos := "l03_entry.go:324", after := #[], guard := none }) rfl (fun K hK => ?_) (AllReadyL.nil))
            · go_simp
              refine (pick_any q w3.heap.size 2 [⟨#[97]⟩, ⟨#[122, 122]⟩] _ 9 (0, 0) _ sP.1 (by omega) (heap_alloc_new w3.drew _) rfl rfl (by decide) (by decide)).mono ?_
              rintro e w4 ⟨⟨A, hA, rfl⟩, k4⟩
              have hA' : A.size ≤ 41 := (by simp at hA; rcases hA with rfl | rfl <;> decide)
              clear hA
              have s4 := sP.trans k4
              
              clear hU
              refine hK.out _ _ ?_ (fun hU => ?_)
              · (try dsimp only)
                first | exact KP.out _ _ (by assumption) | exact KP.out _ _ sd | exact KP.out _ _ sX | exact KP.out _ _ sV | exact KP.out _ _ sA | exact ⟨trivial, fun _ => y1⟩ | exact ⟨trivial, fun h => absurd (h.symm.trans (show _ = true by kernel_rfl)) (by decide)⟩
              clear hK K
              (try simp only [Act.put, List.setIfInBounds_toArray, List.set_cons_zero, List.set_cons_succ])
              refine wpAnyL_ready (rs := [5]) (by kernel_rfl) (by simp) ?_
              refine AllReadyL.cons (o := { dst := some 53, op := Op.buildSlice 36 2 #[(0, Operand.const (Value.string { data := #[98] })), (1, Operand.const (Value.string { data := #[97] }))], type := 36, pos := "l03_entry.go:324", after := #[], guard := none }) rfl (fun K hK => ?_) (AllReadyL.nil)
              go_simp
              obtain ⟨wV, hwV⟩ : ∃ X, X = w4.alloc (.cells #[.string ⟨#[98]⟩, .string ⟨#[97]⟩] 9) := ⟨_, rfl⟩
              have sZ : Still q w3 wV := by rw [hwV]; exact s4.alloc hq0 _ _
              have oV : wV.ownsRow (w.heap.size + 1) 9 1 (.slice (some ⟨w4.heap.size, 0, none⟩) 2 2) 2 (ss [⟨#[98]⟩, ⟨#[97]⟩]) := by rw [hwV]; exact World.ownsRow_lit w4 #[.string ⟨#[98]⟩, .string ⟨#[97]⟩] 2 (Nat.le_trans hbig s4.2.size) (by unfold maxLen; omega) rfl
              rw [← hwV]
              clear hwV
              clear hU
              refine hK.out _ _ ?_ (fun hU => ?_)
              · (try dsimp only)
                first | exact KP.out _ _ (by assumption) | exact KP.out _ _ sd | exact KP.out _ _ sX | exact KP.out _ _ sV | exact KP.out _ _ sA | exact ⟨trivial, fun _ => y1⟩ | exact ⟨trivial, fun h => absurd (h.symm.trans (show _ = true by kernel_rfl)) (by decide)⟩
              clear hK K
              (try simp only [Act.put, List.setIfInBounds_toArray, List.set_cons_zero, List.set_cons_succ])
              refine wpAnyL_take (i := 6) (oi := { dst := some 54, op := Op.build 48 #[(0, Operand.tmp 52), (1, Operand.tmp 53)], type := 48, pos := "l03_entry.go:324", after := #[{ on := 4, ground := Ground.data }, { on := 5, ground := Ground.data }], guard := none }) (v := ?_) rfl (by decide) (by kernel_rfl) (by kernel_rfl) (by kernel_rfl) (fun _ _ _ h => h) (Or.inl ⟨by rfl, ?_⟩) (by assumption) ?_
              rotate_left
              · intro w hSw; (try dsimp only at hSw); go_simp; (try with_reducible rfl)
              clear hU; intro hU
              (try simp only [Act.put, List.setIfInBounds_toArray, List.set_cons_zero, List.set_cons_succ])
              refine wpAnyL_ready (rs := [7]) (by kernel_rfl) (by simp) ?_
              refine AllReadyL.cons (o := { dst := some 55, op := Op.buildSlice 24 1 #[(0, Operand.tmp 54)], type := 24, pos := "l03_entry.go:324", after := #[{ on := 6, ground := Ground.data }], guard := none }) rfl (fun K hK => ?_) (AllReadyL.nil)
              go_simp
              have sA : Still q w3 (wV.alloc (.cells #[.string A, .slice (some ⟨w4.heap.size, 0, none⟩) 2 2] 48)) := Still.alloc sZ hq0 _ _
              clear hU
              refine hK.out _ _ ?_ (fun hU => ?_)
              · (try dsimp only)
                first | exact KP.out _ _ (by assumption) | exact KP.out _ _ sd | exact KP.out _ _ sX | exact KP.out _ _ sV | exact KP.out _ _ sA | exact ⟨trivial, fun _ => y1⟩ | exact ⟨trivial, fun h => absurd (h.symm.trans (show _ = true by kernel_rfl)) (by decide)⟩
              clear hK K
              (try simp only [Act.put, List.setIfInBounds_toArray, List.set_cons_zero, List.set_cons_succ])
              refine wpAnyL_ready (rs := [8]) (by kernel_rfl) (by simp) ?_
              refine AllReadyL.cons (o := { dst := some 56, op := Op.call { callee := Callee.builtin Builtin.append, args := #[Operand.tmp 49, Operand.tmp 55], argTypes := #[24, 24] }, type := 24, pos := "l03_entry.go:324", after := #[{ on := 1, ground := Ground.data }, { on := 7, ground := Ground.data }, { on := 4, ground := Ground.chain }], guard := none }) rfl (fun K hK => ?_) (AllReadyL.nil)
              have HPz := HPp.out.kept sZ.2 (own_not HPp.out (by omega))
              have HLz := laidV_still HLa.out sZ (by omega)
              have hbz : w.heap.size + 1 ≤ wV.heap.size := Nat.le_trans hbig sZ.2.size
              have hbz0 : Below (w.heap.size + 1) wV wV := Below.refl _ _
              refine step_pair (w.heap.size + 1) rfl _ _ rfl (.slice ao l.length ac) P rfl HPz (A, .slice (some ⟨w4.heap.size, 0, none⟩) 2 2) ⟨_, _, _, rfl⟩ rfl hPl hbz hbz0 ?_
              intro g8 cp8 w8 hown8 hbel8 hsz8 hgr8
              have P8 := Lib.hid (PreDE.grown (D3.out.step hq sZ).pre hq HPz hgr8)
              have A8 := Lib.hid (attrsRow_snoc (a := (A, [⟨#[98]⟩, ⟨#[97]⟩])) HLz HPz ⟨_, _, _, rfl⟩ oV hgr8 hown8)
              clear hown8 hbel8 hsz8 hgr8 HPz HLz
              obtain ⟨⟨y0, y1⟩, yf0, yf1⟩ := P8.out.cell.cells
              clear hU
              refine hK.out _ _ ?_ (fun hU => ?_)
              · (try dsimp only)
                first | exact KP.out _ _ (by assumption) | exact KP.out _ _ sd | exact KP.out _ _ sX | exact KP.out _ _ sV | exact KP.out _ _ sA | exact ⟨trivial, fun _ => y1⟩ | exact ⟨trivial, fun h => absurd (h.symm.trans (show _ = true by kernel_rfl)) (by decide)⟩
              clear hK K
              (try simp only [Act.put, List.setIfInBounds_toArray, List.set_cons_zero, List.set_cons_succ])
              refine wpAnyL_take (i := 9) (oi := { dst := some 57, op := Op.fieldAddr 26 (Operand.tmp 3) 1, type := 0, pos := "l03_entry.go:324", after := #[{ on := 0, ground := Ground.phase }, { on := 1, ground := Ground.phase }, { on := 2, ground := Ground.phase }, { on := 3, ground := Ground.phase }, { on := 4, ground := Ground.phase }, { on := 5, ground := Ground.phase }, { on := 6, ground := Ground.phase }, { on := 7, ground := Ground.phase }, { on := 8, ground := Ground.phase }], guard := none }) (v := ?_) rfl (by decide) (by kernel_rfl) (by kernel_rfl) (by kernel_rfl) (fun _ _ _ h => h) (Or.inl ⟨by rfl, ?_⟩) (by assumption) ?_
              rotate_left
              · intro w hSw; (try dsimp only at hSw); go_simp; (try with_reducible rfl)
              clear hU; intro hU
              (try simp only [Act.put, List.setIfInBounds_toArray, List.set_cons_zero, List.set_cons_succ])
              refine wpAnyL_ready (rs := [10]) (by kernel_rfl) (by simp) ?_
              refine AllReadyL.cons (o := { dst := none, op := Op.store 24 (Operand.tmp 57) (Operand.tmp 56), type := 0, pos := "l03_entry.go:324", after := #[{ on := 9, ground := Ground.data }, { on := 8, ground := Ground.data }, { on := 8, ground := Ground.chain }, { on := 0, ground := Ground.phase }, { on := 1, ground := Ground.phase }, { on := 2, ground := Ground.phase }, { on := 3, ground := Ground.phase }, { on := 4, ground := Ground.phase }, { on := 5, ground := Ground.phase }, { on := 6, ground := Ground.phase }, { on := 7, ground := Ground.phase }, { on := 8, ground := Ground.phase }], guard := none }) rfl (fun K hK => ?_) (AllReadyL.nil)
              go_simp
              clear hU
              refine hK.out _ _ ?_ (fun hU => ?_)
              · (try dsimp only)
                first | exact KP.out _ _ (by assumption) | exact KP.out _ _ sd | exact KP.out _ _ sX | exact KP.out _ _ sV | exact KP.out _ _ sA | exact ⟨trivial, fun _ => y1⟩ | exact ⟨trivial, fun h => absurd (h.symm.trans (show _ = true by kernel_rfl)) (by decide)⟩
              clear hK K
              (try simp only [Act.put, List.setIfInBounds_toArray, List.set_cons_zero, List.set_cons_succ])
              refine wpAnyL_done (by kernel_rfl) ?_ _
              clear hU
              have HLn : Hid (P.length + 1 = (l ++ [((A, [⟨#[98]⟩, ⟨#[97]⟩]) : AttrV)]).length) := Lib.hid (by simp [HPl.out])
              have D8 := Lib.hid (P8.out.store hq HLn.out A8.out)
              obtain ⟨⟨c0, c1⟩, _⟩ := D8.out.cell.cells
              obtain ⟨⟨r0, r1⟩, rf0, rf1⟩ := D8.out.res.cells
              obtain ⟨⟨z0, z1⟩, _⟩ := ((D8.out.res.set0 (.slice vo d.length vc)).set1 (.slice (some ⟨g8, 0, none⟩) (l ++ [((A, [⟨#[98]⟩, ⟨#[97]⟩]) : AttrV)]).length cp8)).cells
              have HF := Lib.hid (D8.out.fin hq hd HSh.out ((HSm.out.snoc (a := (A, [⟨#[98]⟩, ⟨#[97]⟩])) hA' (by simp) (fun s h => (by simp at h; rcases h with rfl | rfl <;> decide))).mono (by omega)))
              rw [← HLn.out] at z0 z1 HF c1
              clear y0 y1 yf0 yf1
              go_wp2_with fail
              exact bodyPost_ret (v := .agg #[.slice vo d.length vc, .slice (some ⟨g8, 0, none⟩) (P.length + 1) cp8]) (by simp [results, Tryz.results42, go_sem, z0, z1]) rfl HF.out
            · go_simp
              have sV : Still q w3 ((w3.drew.alloc (.cells #[.string ⟨#[97]⟩, .string ⟨#[122, 122]⟩] 9)).alloc (.cells #[.string ⟨#[98]⟩, .string ⟨#[97]⟩] 9)) := sX.alloc hq0 _ _
              have sP := sV
              have oV0 : ((w3.drew.alloc (.cells #[.string ⟨#[97]⟩, .string ⟨#[122, 122]⟩] 9)).alloc (.cells #[.string ⟨#[98]⟩, .string ⟨#[97]⟩] 9)).ownsRow (w.heap.size + 1) 9 1 (.slice (some ⟨w3.heap.size + 1, 0, none⟩) 2 2) 2 (ss [⟨#[98]⟩, ⟨#[97]⟩]) := (by have := World.ownsRow_lit (base := w.heap.size + 1) (e := 9) (size := 1) (w3.drew.alloc (.cells #[.string ⟨#[97]⟩, .string ⟨#[122, 122]⟩] 9)) #[.string ⟨#[98]⟩, .string ⟨#[97]⟩] 2 (Nat.le_trans hbig sX.2.size) (by unfold maxLen; omega) rfl; simpa [ss] using this)
              clear hU
              refine hK.out _ _ ?_ (fun hU => ?_)
              · (try dsimp only)
                first | exact KP.out _ _ (by assumption) | exact KP.out _ _ sd | exact KP.out _ _ sX | exact KP.out _ _ sV | exact KP.out _ _ sA | exact ⟨trivial, fun _ => y1⟩ | exact ⟨trivial, fun h => absurd (h.symm.trans (show _ = true by kernel_rfl)) (by decide)⟩
              clear hK K
              (try simp only [Act.put, List.setIfInBounds_toArray, List.set_cons_zero, List.set_cons_succ])
              refine wpAnyL_ready (rs := [4]) (by kernel_rfl) (by simp) ?_
              refine AllReadyL.cons (o := { dst := some 52, op := Op.call { callee := Callee.value (Operand.func 44), args := #[Operand.tmp 50, Operand.tmp 51], argTypes := #[61, 36] }, type := 9, pos := "l03_entry.go:324", after := #[{ on := 2, ground := Ground.data }, { on := 3, ground := Ground.data }], guard := none }) rfl (fun K hK => ?_) (AllReadyL.nil)
              go_simp
              refine (pick_any q w3.heap.size 2 [⟨#[97]⟩, ⟨#[122, 122]⟩] _ 9 (0, 0) _ sP.1 (by omega) (look_z2 w3.drew _ _) rfl rfl (by decide) (by decide)).mono ?_
              rintro e w4 ⟨⟨A, hA, rfl⟩, k4⟩
              have hA' : A.size ≤ 41 := (by simp at hA; rcases hA with rfl | rfl <;> decide)
              clear hA
              have s4 := sP.trans k4
              have sZ := s4
              have oV := oV0.kept k4.2 (own_not oV0 (by omega))
              clear hU
              refine hK.out _ _ ?_ (fun hU => ?_)
              · (try dsimp only)
                first | exact KP.out _ _ (by assumption) | exact KP.out _ _ sd | exact KP.out _ _ sX | exact KP.out _ _ sV | exact KP.out _ _ sA | exact ⟨trivial, fun _ => y1⟩ | exact ⟨trivial, fun h => absurd (h.symm.trans (show _ = true by kernel_rfl)) (by decide)⟩
              clear hK K
              (try simp only [Act.put, List.setIfInBounds_toArray, List.set_cons_zero, List.set_cons_succ])
              refine wpAnyL_take (i := 6) (oi := { dst := some 54, op := Op.build 48 #[(0, Operand.tmp 52), (1, Operand.tmp 53)], type := 48, pos := "l03_entry.go:324", after := #[{ on := 4, ground := Ground.data }, { on := 5, ground := Ground.data }], guard := none }) (v := ?_) rfl (by decide) (by kernel_rfl) (by kernel_rfl) (by kernel_rfl) (fun _ _ _ h => h) (Or.inl ⟨by rfl, ?_⟩) (by assumption) ?_
              rotate_left
              · intro w hSw; (try dsimp only at hSw); go_simp; (try with_reducible rfl)
              clear hU; intro hU
              (try simp only [Act.put, List.setIfInBounds_toArray, List.set_cons_zero, List.set_cons_succ])
              refine wpAnyL_ready (rs := [7]) (by kernel_rfl) (by simp) ?_
              refine AllReadyL.cons (o := { dst := some 55, op := Op.buildSlice 24 1 #[(0, Operand.tmp 54)], type := 24, pos := "l03_entry.go:324", after := #[{ on := 6, ground := Ground.data }], guard := none }) rfl (fun K hK => ?_) (AllReadyL.nil)
              go_simp
              have sA : Still q w3 (w4.alloc (.cells #[.string A, .slice (some ⟨(w3.heap.size + 1), 0, none⟩) 2 2] 48)) := Still.alloc sZ hq0 _ _
              clear hU
              refine hK.out _ _ ?_ (fun hU => ?_)
              · (try dsimp only)
                first | exact KP.out _ _ (by assumption) | exact KP.out _ _ sd | exact KP.out _ _ sX | exact KP.out _ _ sV | exact KP.out _ _ sA | exact ⟨trivial, fun _ => y1⟩ | exact ⟨trivial, fun h => absurd (h.symm.trans (show _ = true by kernel_rfl)) (by decide)⟩
              clear hK K
              (try simp only [Act.put, List.setIfInBounds_toArray, List.set_cons_zero, List.set_cons_succ])
              refine wpAnyL_ready (rs := [8]) (by kernel_rfl) (by simp) ?_
              refine AllReadyL.cons (o := { dst := some 56, op := Op.call { callee := Callee.builtin Builtin.append, args := #[Operand.tmp 49, Operand.tmp 55], argTypes := #[24, 24] }, type := 24, pos := "l03_entry.go:324", after := #[{ on := 1, ground := Ground.data }, { on := 7, ground := Ground.data }, { on := 4, ground := Ground.chain }], guard := none }) rfl (fun K hK => ?_) (AllReadyL.nil)
              have HPz := HPp.out.kept sZ.2 (own_not HPp.out (by omega))
              have HLz := laidV_still HLa.out sZ (by omega)
              have hbz : w.heap.size + 1 ≤ w4.heap.size := Nat.le_trans hbig sZ.2.size
              have hbz0 : Below (w.heap.size + 1) w4 w4 := Below.refl _ _
              refine step_pair (w.heap.size + 1) rfl _ _ rfl (.slice ao l.length ac) P rfl HPz (A, .slice (some ⟨(w3.heap.size + 1), 0, none⟩) 2 2) ⟨_, _, _, rfl⟩ rfl hPl hbz hbz0 ?_
              intro g8 cp8 w8 hown8 hbel8 hsz8 hgr8
              have P8 := Lib.hid (PreDE.grown (D3.out.step hq sZ).pre hq HPz hgr8)
              have A8 := Lib.hid (attrsRow_snoc (a := (A, [⟨#[98]⟩, ⟨#[97]⟩])) HLz HPz ⟨_, _, _, rfl⟩ oV hgr8 hown8)
              clear hown8 hbel8 hsz8 hgr8 HPz HLz
              obtain ⟨⟨y0, y1⟩, yf0, yf1⟩ := P8.out.cell.cells
              clear hU
              refine hK.out _ _ ?_ (fun hU => ?_)
              · (try dsimp only)
                first | exact KP.out _ _ (by assumption) | exact KP.out _ _ sd | exact KP.out _ _ sX | exact KP.out _ _ sV | exact KP.out _ _ sA | exact ⟨trivial, fun _ => y1⟩ | exact ⟨trivial, fun h => absurd (h.symm.trans (show _ = true by kernel_rfl)) (by decide)⟩
              clear hK K
              (try simp only [Act.put, List.setIfInBounds_toArray, List.set_cons_zero, List.set_cons_succ])
              refine wpAnyL_take (i := 9) (oi := { dst := some 57, op := Op.fieldAddr 26 (Operand.tmp 3) 1, type := 0, pos := "l03_entry.go:324", after := #[{ on := 0, ground := Ground.phase }, { on := 1, ground := Ground.phase }, { on := 2, ground := Ground.phase }, { on := 3, ground := Ground.phase }, { on := 4, ground := Ground.phase }, { on := 5, ground := Ground.phase }, { on := 6, ground := Ground.phase }, { on := 7, ground := Ground.phase }, { on := 8, ground := Ground.phase }], guard := none }) (v := ?_) rfl (by decide) (by kernel_rfl) (by kernel_rfl) (by kernel_rfl) (fun _ _ _ h => h) (Or.inl ⟨by rfl, ?_⟩) (by assumption) ?_
              rotate_left
              · intro w hSw; (try dsimp only at hSw); go_simp; (try with_reducible rfl)
              clear hU; intro hU
              (try simp only [Act.put, List.setIfInBounds_toArray, List.set_cons_zero, List.set_cons_succ])
              refine wpAnyL_ready (rs := [10]) (by kernel_rfl) (by simp) ?_
              refine AllReadyL.cons (o := { dst := none, op := Op.store 24 (Operand.tmp 57) (Operand.tmp 56), type := 0, pos := "l03_entry.go:324", after := #[{ on := 9, ground := Ground.data }, { on := 8, ground := Ground.data }, { on := 8, ground := Ground.chain }, { on := 0, ground := Ground.phase }, { on := 1, ground := Ground.phase }, { on := 2, ground := Ground.phase }, { on := 3, ground := Ground.phase }, { on := 4, ground := Ground.phase }, { on := 5, ground := Ground.phase }, { on := 6, ground := Ground.phase }, { on := 7, ground := Ground.phase }, { on := 8, ground := Ground.phase }], guard := none }) rfl (fun K hK => ?_) (AllReadyL.nil)
              go_simp
              clear hU
              refine hK.out _ _ ?_ (fun hU => ?_)
              · (try dsimp only)
                first | exact KP.out _ _ (by assumption) | exact KP.out _ _ sd | exact KP.out _ _ sX | exact KP.out _ _ sV | exact KP.out _ _ sA | exact ⟨trivial, fun _ => y1⟩ | exact ⟨trivial, fun h => absurd (h.symm.trans (show _ = true by kernel_rfl)) (by decide)⟩
              clear hK K
              (try simp only [Act.put, List.setIfInBounds_toArray, List.set_cons_zero, List.set_cons_succ])
              refine wpAnyL_done (by kernel_rfl) ?_ _
              clear hU
              have HLn : Hid (P.length + 1 = (l ++ [((A, [⟨#[98]⟩, ⟨#[97]⟩]) : AttrV)]).length) := Lib.hid (by simp [HPl.out])
              have D8 := Lib.hid (P8.out.store hq HLn.out A8.out)
              obtain ⟨⟨c0, c1⟩, _⟩ := D8.out.cell.cells
              obtain ⟨⟨r0, r1⟩, rf0, rf1⟩ := D8.out.res.cells
              obtain ⟨⟨z0, z1⟩, _⟩ := ((D8.out.res.set0 (.slice vo d.length vc)).set1 (.slice (some ⟨g8, 0, none⟩) (l ++ [((A, [⟨#[98]⟩, ⟨#[97]⟩]) : AttrV)]).length cp8)).cells
              have HF := Lib.hid (D8.out.fin hq hd HSh.out ((HSm.out.snoc (a := (A, [⟨#[98]⟩, ⟨#[97]⟩])) hA' (by simp) (fun s h => (by simp at h; rcases h with rfl | rfl <;> decide))).mono (by omega)))
              rw [← HLn.out] at z0 z1 HF c1
              clear y0 y1 yf0 yf1
              go_wp2_with fail
              exact bodyPost_ret (v := .agg #[.slice vo d.length vc, .slice (some ⟨g8, 0, none⟩) (P.length + 1) cp8]) (by simp [results, Tryz.results42, go_sem, z0, z1]) rfl HF.out
          · go_simp
            have sV : Still q w3 (w3.drew.alloc (.cells #[.string ⟨#[98]⟩, .string ⟨#[97]⟩] 9)) := sd.alloc hq0 _ _
            have oV1 : (w3.drew.alloc (.cells #[.string ⟨#[98]⟩, .string ⟨#[97]⟩] 9)).ownsRow (w.heap.size + 1) 9 1 (.slice (some ⟨w3.heap.size, 0, none⟩) 2 2) 2 (ss [⟨#[98]⟩, ⟨#[97]⟩]) := World.ownsRow_lit w3.drew #[.string ⟨#[98]⟩, .string ⟨#[97]⟩] 2 hbig (by unfold maxLen; omega) rfl
            clear hU
            refine hK.out _ _ ?_ (fun hU => ?_)
            · (try dsimp only)
              first | exact KP.out _ _ (by assumption) | exact KP.out _ _ sd | exact KP.out _ _ sX | exact KP.out _ _ sV | exact KP.out _ _ sA | exact ⟨trivial, fun _ => y1⟩ | exact ⟨trivial, fun h => absurd (h.symm.trans (show _ = true by kernel_rfl)) (by decide)⟩
            clear hK K
            (try simp only [Act.put, List.setIfInBounds_toArray, List.set_cons_zero, List.set_cons_succ])
            refine wpAnyL_ready (rs := [3]) (by kernel_rfl) (by simp) ?_
            refine AllReadyL.cons (o := { dst := some 51, op := Op.buildSlice 36 2 #[(0, Operand.const (Value.string { data := #[97] })), (1, Operand.const (Value.string { data := #[122, 122] }))], type := 36, pos := "l03_entry.go:324", after := #[], guard := none }) rfl (fun K hK => ?_) (AllReadyL.nil)
            go_simp
            have sX : Still q w3 ((w3.drew.alloc (.cells #[.string ⟨#[98]⟩, .string ⟨#[97]⟩] 9)).alloc (.cells #[.string ⟨#[97]⟩, .string ⟨#[122, 122]⟩] 9)) := sV.alloc hq0 _ _
            have sP := sX
            have oV0 := oV1.alloc (.cells #[.string ⟨#[97]⟩, .string ⟨#[122, 122]⟩] 9)
            clear hU
            refine hK.out _ _ ?_ (fun hU => ?_)
            · (try dsimp only)
              first | exact KP.out _ _ (by assumption) | exact KP.out _ _ sd | exact KP.out _ _ sX | exact KP.out _ _ sV | exact KP.out _ _ sA | exact ⟨trivial, fun _ => y1⟩ | exact ⟨trivial, fun h => absurd (h.symm.trans (show _ = true by kernel_rfl)) (by decide)⟩
            clear hK K
            (try simp only [Act.put, List.setIfInBounds_toArray, List.set_cons_zero, List.set_cons_succ])
            refine wpAnyL_ready (rs := [4]) (by kernel_rfl) (by simp) ?_
            refine AllReadyL.cons (o := { dst := some 52, op := Op.call { callee := Callee.value (Operand.func 44), args := #[Operand.tmp 50, Operand.tmp 51], argTypes := #[61, 36] }, type := 9, pos := "l03_entry.go:324", after := #[{ on := 2, ground := Ground.data }, { on := 3, ground := Ground.data }], guard := none }) rfl (fun K hK => ?_) (AllReadyL.nil)
            go_simp
            refine (pick_any q (w3.heap.size + 1) 2 [⟨#[97]⟩, ⟨#[122, 122]⟩] _ 9 (0, 0) _ sP.1 (by omega) (look_z3 w3.drew _ _) rfl rfl (by decide) (by decide)).mono ?_
            rintro e w4 ⟨⟨A, hA, rfl⟩, k4⟩
            have hA' : A.size ≤ 41 := (by simp at hA; rcases hA with rfl | rfl <;> decide)
            clear hA
            have s4 := sP.trans k4
            have sZ := s4
            have oV := oV0.kept k4.2 (own_not oV0 (by omega))
            clear hU
            refine hK.out _ _ ?_ (fun hU => ?_)
            · (try dsimp only)
              first | exact KP.out _ _ (by assumption) | exact KP.out _ _ sd | exact KP.out _ _ sX | exact KP.out _ _ sV | exact KP.out _ _ sA | exact ⟨trivial, fun _ => y1⟩ | exact ⟨trivial, fun h => absurd (h.symm.trans (show _ = true by kernel_rfl)) (by decide)⟩
            clear hK K
            (try simp only [Act.put, List.setIfInBounds_toArray, List.set_cons_zero, List.set_cons_succ])
            refine wpAnyL_take (i := 6) (oi := { dst := some 54, op := Op.build 48 #[(0, Operand.tmp 52), (1, Operand.tmp 53)], type := 48, pos := "l03_entry.go:324", after := #[{ on := 4, ground := Ground.data }, { on := 5, ground := Ground.data }], guard := none }) (v := ?_) rfl (by decide) (by kernel_rfl) (by kernel_rfl) (by kernel_rfl) (fun _ _ _ h => h) (Or.inl ⟨by rfl, ?_⟩) (by assumption) ?_
            rotate_left
            · intro w hSw; (try dsimp only at hSw); go_simp; (try with_reducible rfl)
            clear hU; intro hU
            (try simp only [Act.put, List.setIfInBounds_toArray, List.set_cons_zero, List.set_cons_succ])
            refine wpAnyL_ready (rs := [7]) (by kernel_rfl) (by simp) ?_
            refine AllReadyL.cons (o := { dst := some 55, op := Op.buildSlice 24 1 #[(0, Operand.tmp 54)], type := 24, pos := "l03_entry.go:324", after := #[{ on := 6, ground := Ground.data }], guard := none }) rfl (fun K hK => ?_) (AllReadyL.nil)
            go_simp
            have sA : Still q w3 (w4.alloc (.cells #[.string A, .slice (some ⟨w3.heap.size, 0, none⟩) 2 2] 48)) := Still.alloc sZ hq0 _ _
            clear hU
            refine hK.out _ _ ?_ (fun hU => ?_)
            · (try dsimp only)
              first | exact KP.out _ _ (by assumption) | exact KP.out _ _ sd | exact KP.out _ _ sX | exact KP.out _ _ sV | exact KP.out _ _ sA | exact ⟨trivial, fun _ => y1⟩ | exact ⟨trivial, fun h => absurd (h.symm.trans (show _ = true by kernel_rfl)) (by decide)⟩
            clear hK K
            (try simp only [Act.put, List.setIfInBounds_toArray, List.set_cons_zero, List.set_cons_succ])
            refine wpAnyL_ready (rs := [8]) (by kernel_rfl) (by simp) ?_
            refine AllReadyL.cons (o := { dst := some 56, op := Op.call { callee := Callee.builtin Builtin.append, args := #[Operand.tmp 49, Operand.tmp 55], argTypes := #[24, 24] }, type := 24, pos := "l03_entry.go:324", after := #[{ on := 1, ground := Ground.data }, { on := 7, ground := Ground.data }, { on := 4, ground := Ground.chain }], guard := none }) rfl (fun K hK => ?_) (AllReadyL.nil)
            have HPz := HPp.out.kept sZ.2 (own_not HPp.out (by omega))
            have HLz := laidV_still HLa.out sZ (by omega)
            have hbz : w.heap.size + 1 ≤ w4.heap.size := Nat.le_trans hbig sZ.2.size
            have hbz0 : Below (w.heap.size + 1) w4 w4 := Below.refl _ _
            refine step_pair (w.heap.size + 1) rfl _ _ rfl (.slice ao l.length ac) P rfl HPz (A, .slice (some ⟨w3.heap.size, 0, none⟩) 2 2) ⟨_, _, _, rfl⟩ rfl hPl hbz hbz0 ?_
            intro g8 cp8 w8 hown8 hbel8 hsz8 hgr8
            have P8 := Lib.hid (PreDE.grown (D3.out.step hq sZ).pre hq HPz hgr8)
            have A8 := Lib.hid (attrsRow_snoc (a := (A, [⟨#[98]⟩, ⟨#[97]⟩])) HLz HPz ⟨_, _, _, rfl⟩ oV hgr8 hown8)
            clear hown8 hbel8 hsz8 hgr8 HPz HLz
            obtain ⟨⟨y0, y1⟩, yf0, yf1⟩ := P8.out.cell.cells
            clear hU
            refine hK.out _ _ ?_ (fun hU => ?_)
            · (try dsimp only)
              first | exact KP.out _ _ (by assumption) | exact KP.out _ _ sd | exact KP.out _ _ sX | exact KP.out _ _ sV | exact KP.out _ _ sA | exact ⟨trivial, fun _ => y1⟩ | exact ⟨trivial, fun h => absurd (h.symm.trans (show _ = true by kernel_rfl)) (by decide)⟩
            clear hK K
            (try simp only [Act.put, List.setIfInBounds_toArray, List.set_cons_zero, List.set_cons_succ])
            refine wpAnyL_take (i := 9) (oi := { dst := some 57, op := Op.fieldAddr 26 (Operand.tmp 3) 1, type := 0, pos := "l03_entry.go:324", after := #[{ on := 0, ground := Ground.phase }, { on := 1, ground := Ground.phase }, { on := 2, ground := Ground.phase }, { on := 3, ground := Ground.phase }, { on := 4, ground := Ground.phase }, { on := 5, ground := Ground.phase }, { on := 6, ground := Ground.phase }, { on := 7, ground := Ground.phase }, { on := 8, ground := Ground.phase }], guard := none }) (v := ?_) rfl (by decide) (by kernel_rfl) (by kernel_rfl) (by kernel_rfl) (fun _ _ _ h => h) (Or.inl ⟨by rfl, ?_⟩) (by assumption) ?_
            rotate_left
            · intro w hSw; (try dsimp only at hSw); go_simp; (try with_reducible rfl)
            clear hU; intro hU
            (try simp only [Act.put, List.setIfInBounds_toArray, List.set_cons_zero, List.set_cons_succ])
            refine wpAnyL_ready (rs := [10]) (by kernel_rfl) (by simp) ?_
            refine AllReadyL.cons (o := { dst := none, op := Op.store 24 (Operand.tmp 57) (Operand.tmp 56), type := 0, pos := "l03_entry.go:324", after := #[{ on := 9, ground := Ground.data }, { on := 8, ground := Ground.data }, { on := 8, ground := Ground.chain }, { on := 0, ground := Ground.phase }, { on := 1, ground := Ground.phase }, { on := 2, ground := Ground.phase }, { on := 3, ground := Ground.phase }, { on := 4, ground := Ground.phase }, { on := 5, ground := Ground.phase }, { on := 6, ground := Ground.phase }, { on := 7, ground := Ground.phase }, { on := 8, ground := Ground.phase }], guard := none }) rfl (fun K hK => ?_) (AllReadyL.nil)
            go_simp
            clear hU
            refine hK.out _ _ ?_ (fun hU => ?_)
            · (try dsimp only)
              first | exact KP.out _ _ (by assumption) | exact KP.out _ _ sd | exact KP.out _ _ sX | exact KP.out _ _ sV | exact KP.out _ _ sA | exact ⟨trivial, fun _ => y1⟩ | exact ⟨trivial, fun h => absurd (h.symm.trans (show _ = true by kernel_rfl)) (by decide)⟩
            clear hK K
            (try simp only [Act.put, List.setIfInBounds_toArray, List.set_cons_zero, List.set_cons_succ])
            refine wpAnyL_done (by kernel_rfl) ?_ _
            clear hU
            have HLn : Hid (P.length + 1 = (l ++ [((A, [⟨#[98]⟩, ⟨#[97]⟩]) : AttrV)]).length) := Lib.hid (by simp [HPl.out])
            have D8 := Lib.hid (P8.out.store hq HLn.out A8.out)
            obtain ⟨⟨c0, c1⟩, _⟩ := D8.out.cell.cells
            obtain ⟨⟨r0, r1⟩, rf0, rf1⟩ := D8.out.res.cells
            obtain ⟨⟨z0, z1⟩, _⟩ := ((D8.out.res.set0 (.slice vo d.length vc)).set1 (.slice (some ⟨g8, 0, none⟩) (l ++ [((A, [⟨#[98]⟩, ⟨#[97]⟩]) : AttrV)]).length cp8)).cells
            have HF := Lib.hid (D8.out.fin hq hd HSh.out ((HSm.out.snoc (a := (A, [⟨#[98]⟩, ⟨#[97]⟩])) hA' (by simp) (fun s h => (by simp at h; rcases h with rfl | rfl <;> decide))).mono (by omega)))
            rw [← HLn.out] at z0 z1 HF c1
            clear y0 y1 yf0 yf1
            go_wp2_with fail
            exact bodyPost_ret (v := .agg #[.slice vo d.length vc, .slice (some ⟨g8, 0, none⟩) (P.length + 1) cp8]) (by simp [results, Tryz.results42, go_sem, z0, z1]) rfl HF.out
        · go_wp2_with fail
          go_loopw [6] (fun i wr => ∃ (m : Nat) (l1 : List AttrV) (ao1 : Option Addr) (ac1 : Nat), i = .int .i64 m ∧ m ≤ l1.length ∧ SmallA 9 l1 ∧ DE q w E d l1 vo ao1 vc ac1 wr) (fun i _ => 10 - (intOf i).toNat)
          case atStart => exact ⟨0, l, ao, ac, rfl, Nat.zero_le _, HS9.out, D3.out⟩
          case round =>
            obtain ⟨m, l1, ao1, ac1, rfl, hm, hs1, hde⟩ := hrel
            have HS1 := Lib.hid hs1; have D4 := Lib.hid hde
            have hl9 := hs1.1
            clear hs1 hde D3
            have sd0 : Still q wr wr.drew := still_drew D4.out.st.1
            have SK : Hid (∀ Z : World, Still q wr Z → Z.cell? ⟨E, 1, none⟩ = some (.slice ao1 l1.length ac1)) := Lib.hid (fun Z h => (D4.out.step hq h).cell.cells.1.2)
            have HN3 : Hid (Calls Tryz.prog 64 #[.pointer (some ⟨q, 0, none⟩), .int .i64 3] wr.drew fun e w' => InRange 3 e ∧ Still q wr w' ∧ Still q wr.drew w') := Lib.hid ((n_any q 3 wr.drew sd0.1 (by decide) (by decide)).mono fun e w' ⟨a, b⟩ => ⟨a, sd0.trans b, b⟩)
            go_wp2_with fail
            refine wp_region_held_drew (S := (fun Z => Z.cell? ⟨E, 1, none⟩ = some (.slice ao1 l1.length ac1))) (by kernel_rfl) ?_ (fun hHeld => ?_)
            · (try dsimp only)
              exact SK.out _ (by assumption)
            refine wpAnyH_take (i := 0) (oi := { dst := some 60, op := Op.fieldAddr 26 (Operand.tmp 3) 1, type := 0, pos := "l03_entry.go:326", after := #[], guard := none }) (v := ?_) rfl (by kernel_rfl) (by kernel_rfl) (by kernel_rfl) (fun _ _ _ h => h) (Or.inl ⟨by rfl, ?_⟩) (by assumption) ?_
            rotate_left
            · intro w hSw; (try dsimp only at hSw); go_simp; (try with_reducible rfl)
            (try simp only [Act.put, List.setIfInBounds_toArray, List.set_cons_zero, List.set_cons_succ])
            refine wpAnyH_take (i := 1) (oi := { dst := some 61, op := Op.load 24 (Operand.tmp 60), type := 24, pos := "l03_entry.go:326", after := #[{ on := 0, ground := Ground.data }], guard := none }) (v := ?_) rfl (by kernel_rfl) (by kernel_rfl) (by kernel_rfl) (fun _ _ _ h => h) (Or.inl ⟨by rfl, ?_⟩) (by assumption) ?_
            rotate_left
            · intro w hSw; (try dsimp only at hSw); go_simp; (try with_reducible rfl)
            (try simp only [Act.put, List.setIfInBounds_toArray, List.set_cons_zero, List.set_cons_succ])
            refine wpAnyH_take (i := 2) (oi := { dst := some 62, op := Op.call { callee := Callee.builtin Builtin.len, args := #[Operand.tmp 61], argTypes := #[24] }, type := 3, pos := "l03_entry.go:326", after := #[{ on := 1, ground := Ground.data }], guard := none }) (v := ?_) rfl (by kernel_rfl) (by kernel_rfl) (by kernel_rfl) (fun _ _ _ h => h) (Or.inl ⟨by rfl, ?_⟩) (by assumption) ?_
            rotate_left
            · intro w hSw; (try dsimp only at hSw); go_simp; (try with_reducible rfl)
            (try simp only [Act.put, List.setIfInBounds_toArray, List.set_cons_zero, List.set_cons_succ])
            refine wpAnyH_take (i := 3) (oi := { dst := some 63, op := Op.move (Operand.tmp 0), type := 61, pos := "l03_entry.go:326", after := #[], guard := none }) (v := ?_) rfl (by kernel_rfl) (by kernel_rfl) (by kernel_rfl) (fun _ _ _ h => h) (Or.inl ⟨by rfl, ?_⟩) (by assumption) ?_
            rotate_left
            · intro w hSw; (try dsimp only at hSw); go_simp; (try with_reducible rfl)
            (try simp only [Act.put, List.setIfInBounds_toArray, List.set_cons_zero, List.set_cons_succ])
            refine wpAnyH_ready (rs := [4]) (by kernel_rfl) (by simp) ?_
            refine AllReadyH.cons (o := { dst := some 64, op := Op.call { callee := Callee.value (Operand.func 64), args := #[Operand.tmp 63, Operand.const (Value.int IntKind.i64 3)], argTypes := #[61, 2] }, type := 2, pos := "l03_entry.go:326", after := #[{ on := 3, ground := Ground.data }], guard := none }) rfl (fun K hK => ?_) (AllReadyH.nil)
            go_simp
            refine HN3.out.mono ?_
            rintro e w5 ⟨⟨x, rfl, hx0, hx1⟩, s5, k5⟩
            have hxw : IntKind.i64.wrap (7 + x) = 7 + x := IntWalk.i64_in _ (by omega)
            clear hHeld
            refine hK.out _ _ ?_ (fun hHeld => ?_)
            · (try dsimp only)
              exact SK.out _ (by assumption)
            clear hK K
            (try simp only [Act.put, List.setIfInBounds_toArray, List.set_cons_zero, List.set_cons_succ])
            refine wpAnyH_take (i := 5) (oi := { dst := some 65, op := Op.binOp BinOp.add 3 (Operand.const (Value.int IntKind.i64 7)) (Operand.tmp 64) 3, type := 3, pos := "l03_entry.go:326", after := #[{ on := 4, ground := Ground.data }], guard := none }) (v := ?_) rfl (by kernel_rfl) (by kernel_rfl) (by kernel_rfl) (fun _ _ _ h => h) (Or.inl ⟨by rfl, ?_⟩) (by assumption) ?_
            rotate_left
            · intro w hSw; (try dsimp only at hSw); go_simp; (try with_reducible rfl)
            (try simp only [Act.put, List.setIfInBounds_toArray, List.set_cons_zero, List.set_cons_succ])
            refine wpAnyH_take (i := 6) (oi := { dst := some 66, op := Op.binOp BinOp.lss 3 (Operand.tmp 62) (Operand.tmp 65) 3, type := 4, pos := "l03_entry.go:326", after := #[{ on := 2, ground := Ground.data }, { on := 5, ground := Ground.data }], guard := none }) (v := ?_) rfl (by kernel_rfl) (by kernel_rfl) (by kernel_rfl) (fun _ _ _ h => h) (Or.inl ⟨by rfl, ?_⟩) (by assumption) ?_
            rotate_left
            · intro w hSw; (try dsimp only at hSw); go_simp; (try with_reducible rfl)
            (try simp only [Act.put, List.setIfInBounds_toArray, List.set_cons_zero, List.set_cons_succ])
            refine wpAnyH_done (by kernel_rfl) ?_ _
            clear hHeld
            have D5 := Lib.hid (D4.out.step hq s5)
            clear s5 k5 SK HN3 sd0 D4
            by_cases hlt : (l1.length : Int) < 7 + x
            · have hl8 : l1.length ≤ 8 := by omega
              obtain ⟨P, hP, hLa⟩ := D5.out.att
              have HPp : Hid (w5.ownsRow (w.heap.size + 1) 48 2 (.slice ao1 l1.length ac1) P.length (ps P)) := Lib.hid (by rw [hLa.1]; exact hP)
              have HLa := Lib.hid hLa
              have HPl : Hid (P.length = l1.length) := Lib.hid hLa.1
              have hPl : P.length ≤ 1000000000 := by have := hLa.1; have := HS1.out.1; omega
              have hbig : w.heap.size + 1 ≤ w5.heap.size := by have := D5.out.lo; have := D5.out.cell.lt; omega
              have hq0 : q < w5.heap.size := D5.out.st.1.lt
              have sd : Still q w5 w5.drew := still_drew D5.out.st.1
              have KP : Hid (∀ (L : Array Bool) (Z : World), Still q w5 Z → Until (fun _ => True) (fun Z => Z.cell? ⟨E, 1, none⟩ = some (.slice ao1 l1.length ac1)) 10 L Z) := Lib.hid (fun L Z h => ⟨trivial, fun _ => (D5.out.step hq h).cell.cells.1.2⟩)
              clear hP hLa
              go_wp2_with fail
              refine wp_region_until (fun _ => True) (fun Z => Z.cell? ⟨E, 1, none⟩ = some (.slice ao1 l1.length ac1)) 10 (by kernel_rfl) trivial ((KP.out #[false, false, false, false, false, false, false, false, false, false, false] _ sd).2 rfl) (fun hU => ?_)
              refine wpAnyL_take (i := 0) (oi := { dst := some 69, op := Op.fieldAddr 26 (Operand.tmp 3) 1, type := 0, pos := "l03_entry.go:327", after := #[], guard := none }) (v := ?_) rfl (by decide) (by kernel_rfl) (by kernel_rfl) (by kernel_rfl) (fun _ _ _ h => h) (Or.inl ⟨by rfl, ?_⟩) (by assumption) ?_
              rotate_left
              · intro w hSw; (try dsimp only at hSw); go_simp; (try with_reducible rfl)
              clear hU; intro hU
              (try simp only [Act.put, List.setIfInBounds_toArray, List.set_cons_zero, List.set_cons_succ])
              refine wpAnyL_load (i := 1) (m := 8) (oi := { dst := some 70, op := Op.load 24 (Operand.tmp 69), type := 24, pos := "l03_entry.go:327", after := #[{ on := 0, ground := Ground.data }], guard := none }) (om := { dst := some 77, op := Op.call { callee := Callee.builtin Builtin.append, args := #[Operand.tmp 70, Operand.tmp 76], argTypes := #[24, 24] }, type := 24, pos := "l03_entry.go:327", after := #[{ on := 1, ground := Ground.data }, { on := 7, ground := Ground.data }, { on := 3, ground := Ground.chain }], guard := none }) (ok := { dst := none, op := Op.store 24 (Operand.tmp 78) (Operand.tmp 77), type := 0, pos := "l03_entry.go:327", after := #[{ on := 9, ground := Ground.data }, { on := 8, ground := Ground.data }, { on := 8, ground := Ground.chain }, { on := 0, ground := Ground.phase }, { on := 1, ground := Ground.phase }, { on := 2, ground := Ground.phase }, { on := 3, ground := Ground.phase }, { on := 4, ground := Ground.phase }, { on := 5, ground := Ground.phase }, { on := 6, ground := Ground.phase }, { on := 7, ground := Ground.phase }, { on := 8, ground := Ground.phase }], guard := none }) (v := ?_) rfl (by decide) (by kernel_rfl) (by kernel_rfl) (by kernel_rfl) rfl rfl (by kernel_rfl) (by kernel_rfl) (by kernel_rfl) (by kernel_rfl) (fun _ _ _ h => h) (Or.inl ⟨by rfl, ?_⟩) (by assumption) ?_
              rotate_left
              · intro w hSw; (try dsimp only at hSw); go_simp; (try with_reducible rfl)
              clear hU; intro hU
              (try simp only [Act.put, List.setIfInBounds_toArray, List.set_cons_zero, List.set_cons_succ])
              refine wpAnyL_take (i := 2) (oi := { dst := some 71, op := Op.move (Operand.tmp 6), type := 2, pos := "l03_entry.go:327", after := #[], guard := none }) (v := ?_) rfl (by decide) (by kernel_rfl) (by kernel_rfl) (by kernel_rfl) (fun _ _ _ h => h) (Or.inl ⟨by rfl, ?_⟩) (by assumption) ?_
              rotate_left
              · intro w hSw; (try dsimp only at hSw); go_simp; (try with_reducible rfl)
              clear hU; intro hU
              (try simp only [Act.put, List.setIfInBounds_toArray, List.set_cons_zero, List.set_cons_succ])
              refine wpAnyL_ready (rs := [3, 5]) (by kernel_rfl) (by simp) ?_
              refine AllReadyL.cons (o := { dst := some 72, op := Op.call { callee := Callee.value (Operand.func 88), args := #[Operand.tmp 71], argTypes := #[2] }, type := 9, pos := "l03_entry.go:327", after := #[{ on := 2, ground := Ground.data }], guard := none }) rfl (fun K hK => ?_) (AllReadyL.cons (o := { dst := some 74, op := Op.buildSlice 36 1 #[(0, Operand.const (Value.string { data := #[97] }))], type := 36, pos := "l03_entry.go:327", after := #[], guard := none }) rfl (fun K hK => ?_) (AllReadyL.nil))
              · go_simp
                refine (l01Dec_any m _ (by omega)).mono ?_
                rintro e w6 ⟨⟨t, rfl, ht⟩, b6⟩
                have k6 := still_below sd.1 b6
                have s6 := sd.trans k6
                have hca := cat ⟨#[122]⟩ t (by show 1 + t.size ≤ _; omega)
                obtain ⟨Nm, hNm⟩ : ∃ Nm : ByteArray, Nm = (⟨#[122]⟩ : ByteArray) ++ t := ⟨_, rfl⟩
                have hnz : Nm.size ≤ 41 := (by rw [hNm, ByteArray.size_append]; show 1 + t.size ≤ 41; omega)
                rw [← hNm] at hca
                clear hNm
                clear hU
                refine hK.out _ _ ?_ (fun hU => ?_)
                · (try dsimp only)
                  first | exact KP.out _ _ (by assumption) | exact KP.out _ _ sd | exact KP.out _ _ sX | exact KP.out _ _ sV | exact KP.out _ _ sA | exact ⟨trivial, fun _ => y1⟩ | exact ⟨trivial, fun h => absurd (h.symm.trans (show _ = true by kernel_rfl)) (by decide)⟩
                clear hK K
                (try simp only [Act.put, List.setIfInBounds_toArray, List.set_cons_zero, List.set_cons_succ])
                refine wpAnyL_take (i := 4) (oi := { dst := some 73, op := Op.binOp BinOp.add 9 (Operand.const (Value.string { data := #[122] })) (Operand.tmp 72) 9, type := 9, pos := "l03_entry.go:327", after := #[{ on := 3, ground := Ground.data }], guard := none }) (v := ?_) rfl (by decide) (by kernel_rfl) (by kernel_rfl) (by kernel_rfl) (fun _ _ _ h => h) (Or.inl ⟨by rfl, ?_⟩) (by assumption) ?_
                rotate_left
                · intro w hSw; (try dsimp only at hSw); go_simp; (try with_reducible rfl)
                clear hU; intro hU
                (try simp only [Act.put, List.setIfInBounds_toArray, List.set_cons_zero, List.set_cons_succ])
                refine wpAnyL_ready (rs := [5]) (by kernel_rfl) (by simp) ?_
                refine AllReadyL.cons (o := { dst := some 74, op := Op.buildSlice 36 1 #[(0, Operand.const (Value.string { data := #[97] }))], type := 36, pos := "l03_entry.go:327", after := #[], guard := none }) rfl (fun K hK => ?_) (AllReadyL.nil)
                go_simp
                obtain ⟨wV, hwV⟩ : ∃ X, X = w6.alloc (.cells #[.string ⟨#[97]⟩] 9) := ⟨_, rfl⟩
                have sZ : Still q w5 wV := by rw [hwV]; exact s6.alloc hq0 _ _
                have oV : wV.ownsRow (w.heap.size + 1) 9 1 (.slice (some ⟨w6.heap.size, 0, none⟩) 1 1) 1 (ss [⟨#[97]⟩]) := by rw [hwV]; exact World.ownsRow_lit w6 #[.string ⟨#[97]⟩] 1 (Nat.le_trans hbig s6.2.size) (by unfold maxLen; omega) rfl
                rw [← hwV]
                clear hwV
                clear hU
                refine hK.out _ _ ?_ (fun hU => ?_)
                · (try dsimp only)
                  first | exact KP.out _ _ (by assumption) | exact KP.out _ _ sd | exact KP.out _ _ sX | exact KP.out _ _ sV | exact KP.out _ _ sA | exact ⟨trivial, fun _ => y1⟩ | exact ⟨trivial, fun h => absurd (h.symm.trans (show _ = true by kernel_rfl)) (by decide)⟩
                clear hK K
                (try simp only [Act.put, List.setIfInBounds_toArray, List.set_cons_zero, List.set_cons_succ])
                refine wpAnyL_take (i := 6) (oi := { dst := some 75, op := Op.build 48 #[(0, Operand.tmp 73), (1, Operand.tmp 74)], type := 48, pos := "l03_entry.go:327", after := #[{ on := 4, ground := Ground.data }, { on := 5, ground := Ground.data }], guard := none }) (v := ?_) rfl (by decide) (by kernel_rfl) (by kernel_rfl) (by kernel_rfl) (fun _ _ _ h => h) (Or.inl ⟨by rfl, ?_⟩) (by assumption) ?_
                rotate_left
                · intro w hSw; (try dsimp only at hSw); go_simp; (try with_reducible rfl)
                clear hU; intro hU
                (try simp only [Act.put, List.setIfInBounds_toArray, List.set_cons_zero, List.set_cons_succ])
                refine wpAnyL_ready (rs := [7]) (by kernel_rfl) (by simp) ?_
                refine AllReadyL.cons (o := { dst := some 76, op := Op.buildSlice 24 1 #[(0, Operand.tmp 75)], type := 24, pos := "l03_entry.go:327", after := #[{ on := 6, ground := Ground.data }], guard := none }) rfl (fun K hK => ?_) (AllReadyL.nil)
                go_simp
                have sA : Still q w5 (wV.alloc (.cells #[.string Nm, .slice (some ⟨w6.heap.size, 0, none⟩) 1 1] 48)) := Still.alloc sZ hq0 _ _
                clear hU
                refine hK.out _ _ ?_ (fun hU => ?_)
                · (try dsimp only)
                  first | exact KP.out _ _ (by assumption) | exact KP.out _ _ sd | exact KP.out _ _ sX | exact KP.out _ _ sV | exact KP.out _ _ sA | exact ⟨trivial, fun _ => y1⟩ | exact ⟨trivial, fun h => absurd (h.symm.trans (show _ = true by kernel_rfl)) (by decide)⟩
                clear hK K
                (try simp only [Act.put, List.setIfInBounds_toArray, List.set_cons_zero, List.set_cons_succ])
                refine wpAnyL_ready (rs := [8]) (by kernel_rfl) (by simp) ?_
                refine AllReadyL.cons (o := { dst := some 77, op := Op.call { callee := Callee.builtin Builtin.append, args := #[Operand.tmp 70, Operand.tmp 76], argTypes := #[24, 24] }, type := 24, pos := "l03_entry.go:327", after := #[{ on := 1, ground := Ground.data }, { on := 7, ground := Ground.data }, { on := 3, ground := Ground.chain }], guard := none }) rfl (fun K hK => ?_) (AllReadyL.nil)
                have HPz := HPp.out.kept sZ.2 (own_not HPp.out (by omega))
                have HLz := laidV_still HLa.out sZ (by omega)
                have hbz : w.heap.size + 1 ≤ wV.heap.size := Nat.le_trans hbig sZ.2.size
                have hbz0 : Below (w.heap.size + 1) wV wV := Below.refl _ _
                refine step_pair (w.heap.size + 1) rfl _ _ rfl (.slice ao1 l1.length ac1) P rfl HPz (Nm, .slice (some ⟨w6.heap.size, 0, none⟩) 1 1) ⟨_, _, _, rfl⟩ rfl hPl hbz hbz0 ?_
                intro g8 cp8 w8 hown8 hbel8 hsz8 hgr8
                have P8 := Lib.hid (PreDE.grown (D5.out.step hq sZ).pre hq HPz hgr8)
                have A8 := Lib.hid (attrsRow_snoc (a := (Nm, [⟨#[97]⟩])) HLz HPz ⟨_, _, _, rfl⟩ oV hgr8 hown8)
                clear hown8 hbel8 hsz8 hgr8 HPz HLz
                obtain ⟨⟨y0, y1⟩, yf0, yf1⟩ := P8.out.cell.cells
                clear hU
                refine hK.out _ _ ?_ (fun hU => ?_)
                · (try dsimp only)
                  first | exact KP.out _ _ (by assumption) | exact KP.out _ _ sd | exact KP.out _ _ sX | exact KP.out _ _ sV | exact KP.out _ _ sA | exact ⟨trivial, fun _ => y1⟩ | exact ⟨trivial, fun h => absurd (h.symm.trans (show _ = true by kernel_rfl)) (by decide)⟩
                clear hK K
                (try simp only [Act.put, List.setIfInBounds_toArray, List.set_cons_zero, List.set_cons_succ])
                refine wpAnyL_take (i := 9) (oi := { dst := some 78, op := Op.fieldAddr 26 (Operand.tmp 3) 1, type := 0, pos := "l03_entry.go:327", after := #[{ on := 0, ground := Ground.phase }, { on := 1, ground := Ground.phase }, { on := 2, ground := Ground.phase }, { on := 3, ground := Ground.phase }, { on := 4, ground := Ground.phase }, { on := 5, ground := Ground.phase }, { on := 6, ground := Ground.phase }, { on := 7, ground := Ground.phase }, { on := 8, ground := Ground.phase }], guard := none }) (v := ?_) rfl (by decide) (by kernel_rfl) (by kernel_rfl) (by kernel_rfl) (fun _ _ _ h => h) (Or.inl ⟨by rfl, ?_⟩) (by assumption) ?_
                rotate_left
                · intro w hSw; (try dsimp only at hSw); go_simp; (try with_reducible rfl)
                clear hU; intro hU
                (try simp only [Act.put, List.setIfInBounds_toArray, List.set_cons_zero, List.set_cons_succ])
                refine wpAnyL_ready (rs := [10]) (by kernel_rfl) (by simp) ?_
                refine AllReadyL.cons (o := { dst := none, op := Op.store 24 (Operand.tmp 78) (Operand.tmp 77), type := 0, pos := "l03_entry.go:327", after := #[{ on := 9, ground := Ground.data }, { on := 8, ground := Ground.data }, { on := 8, ground := Ground.chain }, { on := 0, ground := Ground.phase }, { on := 1, ground := Ground.phase }, { on := 2, ground := Ground.phase }, { on := 3, ground := Ground.phase }, { on := 4, ground := Ground.phase }, { on := 5, ground := Ground.phase }, { on := 6, ground := Ground.phase }, { on := 7, ground := Ground.phase }, { on := 8, ground := Ground.phase }], guard := none }) rfl (fun K hK => ?_) (AllReadyL.nil)
                go_simp
                clear hU
                refine hK.out _ _ ?_ (fun hU => ?_)
                · (try dsimp only)
                  first | exact KP.out _ _ (by assumption) | exact KP.out _ _ sd | exact KP.out _ _ sX | exact KP.out _ _ sV | exact KP.out _ _ sA | exact ⟨trivial, fun _ => y1⟩ | exact ⟨trivial, fun h => absurd (h.symm.trans (show _ = true by kernel_rfl)) (by decide)⟩
                clear hK K
                (try simp only [Act.put, List.setIfInBounds_toArray, List.set_cons_zero, List.set_cons_succ])
                refine wpAnyL_done (by kernel_rfl) ?_ _
                clear hU
                have HLn : Hid (P.length + 1 = (l1 ++ [((Nm, [⟨#[97]⟩]) : AttrV)]).length) := Lib.hid (by simp [HPl.out])
                have D8 := Lib.hid (P8.out.store hq HLn.out A8.out)
                have HSn : Hid (SmallA 9 (l1 ++ [((Nm, [⟨#[97]⟩]) : AttrV)])) := Lib.hid ⟨by simp; omega, ((HS1.out.snoc (a := (Nm, [⟨#[97]⟩])) hnz (by simp) (fun s h => (by simp at h; subst h; decide)))).2⟩
                go_wp2_with fail
                go_roundw
                case rel => exact ⟨m + 1, _, _, _, by go_num, by simp; omega, HSn.out, D8.out⟩
                case measure => simp [intOf]; omega
              · go_simp
                have sV : Still q w5 (w5.drew.alloc (.cells #[.string ⟨#[97]⟩] 9)) := sd.alloc hq0 _ _
                have oV1 : (w5.drew.alloc (.cells #[.string ⟨#[97]⟩] 9)).ownsRow (w.heap.size + 1) 9 1 (.slice (some ⟨w5.heap.size, 0, none⟩) 1 1) 1 (ss [⟨#[97]⟩]) := World.ownsRow_lit w5.drew #[.string ⟨#[97]⟩] 1 hbig (by unfold maxLen; omega) rfl
                clear hU
                refine hK.out _ _ ?_ (fun hU => ?_)
                · (try dsimp only)
                  first | exact KP.out _ _ (by assumption) | exact KP.out _ _ sd | exact KP.out _ _ sX | exact KP.out _ _ sV | exact KP.out _ _ sA | exact ⟨trivial, fun _ => y1⟩ | exact ⟨trivial, fun h => absurd (h.symm.trans (show _ = true by kernel_rfl)) (by decide)⟩
                clear hK K
                (try simp only [Act.put, List.setIfInBounds_toArray, List.set_cons_zero, List.set_cons_succ])
                refine wpAnyL_ready (rs := [3]) (by kernel_rfl) (by simp) ?_
                refine AllReadyL.cons (o := { dst := some 72, op := Op.call { callee := Callee.value (Operand.func 88), args := #[Operand.tmp 71], argTypes := #[2] }, type := 9, pos := "l03_entry.go:327", after := #[{ on := 2, ground := Ground.data }], guard := none }) rfl (fun K hK => ?_) (AllReadyL.nil)
                go_simp
                refine (l01Dec_any m _ (by omega)).mono ?_
                rintro e w6 ⟨⟨t, rfl, ht⟩, b6⟩
                have k6 := still_below sV.1 b6
                have s6 := sV.trans k6
                have hca := cat ⟨#[122]⟩ t (by show 1 + t.size ≤ _; omega)
                obtain ⟨Nm, hNm⟩ : ∃ Nm : ByteArray, Nm = (⟨#[122]⟩ : ByteArray) ++ t := ⟨_, rfl⟩
                have hnz : Nm.size ≤ 41 := (by rw [hNm, ByteArray.size_append]; show 1 + t.size ≤ 41; omega)
                rw [← hNm] at hca
                clear hNm
                have sZ := s6
                have oV := oV1.kept k6.2 (own_not oV1 (by omega))
                clear hU
                refine hK.out _ _ ?_ (fun hU => ?_)
                · (try dsimp only)
                  first | exact KP.out _ _ (by assumption) | exact KP.out _ _ sd | exact KP.out _ _ sX | exact KP.out _ _ sV | exact KP.out _ _ sA | exact ⟨trivial, fun _ => y1⟩ | exact ⟨trivial, fun h => absurd (h.symm.trans (show _ = true by kernel_rfl)) (by decide)⟩
                clear hK K
                (try simp only [Act.put, List.setIfInBounds_toArray, List.set_cons_zero, List.set_cons_succ])
                refine wpAnyL_take (i := 4) (oi := { dst := some 73, op := Op.binOp BinOp.add 9 (Operand.const (Value.string { data := #[122] })) (Operand.tmp 72) 9, type := 9, pos := "l03_entry.go:327", after := #[{ on := 3, ground := Ground.data }], guard := none }) (v := ?_) rfl (by decide) (by kernel_rfl) (by kernel_rfl) (by kernel_rfl) (fun _ _ _ h => h) (Or.inl ⟨by rfl, ?_⟩) (by assumption) ?_
                rotate_left
                · intro w hSw; (try dsimp only at hSw); go_simp; (try with_reducible rfl)
                clear hU; intro hU
                (try simp only [Act.put, List.setIfInBounds_toArray, List.set_cons_zero, List.set_cons_succ])
                refine wpAnyL_take (i := 6) (oi := { dst := some 75, op := Op.build 48 #[(0, Operand.tmp 73), (1, Operand.tmp 74)], type := 48, pos := "l03_entry.go:327", after := #[{ on := 4, ground := Ground.data }, { on := 5, ground := Ground.data }], guard := none }) (v := ?_) rfl (by decide) (by kernel_rfl) (by kernel_rfl) (by kernel_rfl) (fun _ _ _ h => h) (Or.inl ⟨by rfl, ?_⟩) (by assumption) ?_
                rotate_left
                · intro w hSw; (try dsimp only at hSw); go_simp; (try with_reducible rfl)
                clear hU; intro hU
                (try simp only [Act.put, List.setIfInBounds_toArray, List.set_cons_zero, List.set_cons_succ])
                refine wpAnyL_ready (rs := [7]) (by kernel_rfl) (by simp) ?_
                refine AllReadyL.cons (o := { dst := some 76, op := Op.buildSlice 24 1 #[(0, Operand.tmp 75)], type := 24, pos := "l03_entry.go:327", after := #[{ on := 6, ground := Ground.data }], guard := none }) rfl (fun K hK => ?_) (AllReadyL.nil)
                go_simp
                have sA : Still q w5 (w6.alloc (.cells #[.string Nm, .slice (some ⟨w5.heap.size, 0, none⟩) 1 1] 48)) := Still.alloc sZ hq0 _ _
                clear hU
                refine hK.out _ _ ?_ (fun hU => ?_)
                · (try dsimp only)
                  first | exact KP.out _ _ (by assumption) | exact KP.out _ _ sd | exact KP.out _ _ sX | exact KP.out _ _ sV | exact KP.out _ _ sA | exact ⟨trivial, fun _ => y1⟩ | exact ⟨trivial, fun h => absurd (h.symm.trans (show _ = true by kernel_rfl)) (by decide)⟩
                clear hK K
                (try simp only [Act.put, List.setIfInBounds_toArray, List.set_cons_zero, List.set_cons_succ])
                refine wpAnyL_ready (rs := [8]) (by kernel_rfl) (by simp) ?_
                refine AllReadyL.cons (o := { dst := some 77, op := Op.call { callee := Callee.builtin Builtin.append, args := #[Operand.tmp 70, Operand.tmp 76], argTypes := #[24, 24] }, type := 24, pos := "l03_entry.go:327", after := #[{ on := 1, ground := Ground.data }, { on := 7, ground := Ground.data }, { on := 3, ground := Ground.chain }], guard := none }) rfl (fun K hK => ?_) (AllReadyL.nil)
                have HPz := HPp.out.kept sZ.2 (own_not HPp.out (by omega))
                have HLz := laidV_still HLa.out sZ (by omega)
                have hbz : w.heap.size + 1 ≤ w6.heap.size := Nat.le_trans hbig sZ.2.size
                have hbz0 : Below (w.heap.size + 1) w6 w6 := Below.refl _ _
                refine step_pair (w.heap.size + 1) rfl _ _ rfl (.slice ao1 l1.length ac1) P rfl HPz (Nm, .slice (some ⟨w5.heap.size, 0, none⟩) 1 1) ⟨_, _, _, rfl⟩ rfl hPl hbz hbz0 ?_
                intro g8 cp8 w8 hown8 hbel8 hsz8 hgr8
                have P8 := Lib.hid (PreDE.grown (D5.out.step hq sZ).pre hq HPz hgr8)
                have A8 := Lib.hid (attrsRow_snoc (a := (Nm, [⟨#[97]⟩])) HLz HPz ⟨_, _, _, rfl⟩ oV hgr8 hown8)
                clear hown8 hbel8 hsz8 hgr8 HPz HLz
                obtain ⟨⟨y0, y1⟩, yf0, yf1⟩ := P8.out.cell.cells
                clear hU
                refine hK.out _ _ ?_ (fun hU => ?_)
                · (try dsimp only)
                  first | exact KP.out _ _ (by assumption) | exact KP.out _ _ sd | exact KP.out _ _ sX | exact KP.out _ _ sV | exact KP.out _ _ sA | exact ⟨trivial, fun _ => y1⟩ | exact ⟨trivial, fun h => absurd (h.symm.trans (show _ = true by kernel_rfl)) (by decide)⟩
                clear hK K
                (try simp only [Act.put, List.setIfInBounds_toArray, List.set_cons_zero, List.set_cons_succ])
                refine wpAnyL_take (i := 9) (oi := { dst := some 78, op := Op.fieldAddr 26 (Operand.tmp 3) 1, type := 0, pos := "l03_entry.go:327", after := #[{ on := 0, ground := Ground.phase }, { on := 1, ground := Ground.phase }, { on := 2, ground := Ground.phase }, { on := 3, ground := Ground.phase }, { on := 4, ground := Ground.phase }, { on := 5, ground := Ground.phase }, { on := 6, ground := Ground.phase }, { on := 7, ground := Ground.phase }, { on := 8, ground := Ground.phase }], guard := none }) (v := ?_) rfl (by decide) (by kernel_rfl) (by kernel_rfl) (by kernel_rfl) (fun _ _ _ h => h) (Or.inl ⟨by rfl, ?_⟩) (by assumption) ?_
                rotate_left
                · intro w hSw; (try dsimp only at hSw); go_simp; (try with_reducible rfl)
                clear hU; intro hU
                (try simp only [Act.put, List.setIfInBounds_toArray, List.set_cons_zero, List.set_cons_succ])
                refine wpAnyL_ready (rs := [10]) (by kernel_rfl) (by simp) ?_
                refine AllReadyL.cons (o := { dst := none, op := Op.store 24 (Operand.tmp 78) (Operand.tmp 77), type := 0, pos := "l03_entry.go:327", after := #[{ on := 9, ground := Ground.data }, { on := 8, ground := Ground.data }, { on := 8, ground := Ground.chain }, { on := 0, ground := Ground.phase }, { on := 1, ground := Ground.phase }, { on := 2, ground := Ground.phase }, { on := 3, ground := Ground.phase }, { on := 4, ground := Ground.phase }, { on := 5, ground := Ground.phase }, { on := 6, ground := Ground.phase }, { on := 7, ground := Ground.phase }, { on := 8, ground := Ground.phase }], guard := none }) rfl (fun K hK => ?_) (AllReadyL.nil)
                go_simp
                clear hU
                refine hK.out _ _ ?_ (fun hU => ?_)
                · (try dsimp only)
                  first | exact KP.out _ _ (by assumption) | exact KP.out _ _ sd | exact KP.out _ _ sX | exact KP.out _ _ sV | exact KP.out _ _ sA | exact ⟨trivial, fun _ => y1⟩ | exact ⟨trivial, fun h => absurd (h.symm.trans (show _ = true by kernel_rfl)) (by decide)⟩
                clear hK K
                (try simp only [Act.put, List.setIfInBounds_toArray, List.set_cons_zero, List.set_cons_succ])
                refine wpAnyL_done (by kernel_rfl) ?_ _
                clear hU
                have HLn : Hid (P.length + 1 = (l1 ++ [((Nm, [⟨#[97]⟩]) : AttrV)]).length) := Lib.hid (by simp [HPl.out])
                have D8 := Lib.hid (P8.out.store hq HLn.out A8.out)
                have HSn : Hid (SmallA 9 (l1 ++ [((Nm, [⟨#[97]⟩]) : AttrV)])) := Lib.hid ⟨by simp; omega, ((HS1.out.snoc (a := (Nm, [⟨#[97]⟩])) hnz (by simp) (fun s h => (by simp at h; subst h; decide)))).2⟩
                go_wp2_with fail
                go_roundw
                case rel => exact ⟨m + 1, _, _, _, by go_num, by simp; omega, HSn.out, D8.out⟩
                case measure => simp [intOf]; omega
            ·
              obtain ⟨⟨c0, c1⟩, _⟩ := D5.out.cell.cells
              obtain ⟨⟨r0, r1⟩, rf0, rf1⟩ := D5.out.res.cells
              obtain ⟨⟨z0, z1⟩, _⟩ := ((D5.out.res.set0 (.slice vo d.length vc)).set1 (.slice ao1 l1.length ac1)).cells
              go_wp2_with fail
              exact bodyPost_ret (v := .agg #[.slice vo d.length vc, .slice ao1 l1.length ac1]) (by simp [results, Tryz.results42, go_sem, z0, z1]) rfl (D5.out.fin hq hd HSh.out HS1.out)
        · obtain ⟨P, hP, hLa⟩ := D3.out.att
          have HPp : Hid (w3.ownsRow (w.heap.size + 1) 48 2 (.slice ao l.length ac) P.length (ps P)) := Lib.hid (by rw [hLa.1]; exact hP)
          have HLa := Lib.hid hLa
          have hPl : P.length ≤ 1000000000 := by have := hLa.1; have := HS9.out.1; omega
          have hb0 : Below (w.heap.size + 1) w3 w3 := Below.refl _ _
          have hbig : w.heap.size + 1 ≤ w3.heap.size := by omega
          have HSn : Hid (SmallA 9 (l ++ [(⟨#[122, 122]⟩, [])])) := Lib.hid ((HSm.out.snoc (a := (⟨#[122, 122]⟩, [])) (by decide) (by simp) (fun s h => by simp at h)).mono (by omega))
          obtain ⟨⟨c0, c1⟩, f0, f1⟩ := D3.out.cell.cells
          have HLn : Hid (P.length + 1 = (l ++ [((⟨#[122, 122]⟩, []) : AttrV)]).length) := Lib.hid (by simp [hLa.1])
          clear hP hLa
          go_wp2_with (first
            | (at_builtin; refine append_one_pair (w.heap.size + 1) rfl _ _ rfl (.slice ao l.length ac) P rfl HPp.out (⟨#[122, 122]⟩, .slice none 0 0) ⟨_, _, _, rfl⟩ rfl hPl hbig hb0 ?_; intro g8 cp8 w8 hown8 hbel8 hsz8 hgr8 hat8; have P8 := Lib.hid (PreDE.grown (D3.out.pre) hq HPp.out hgr8); have A8 := Lib.hid (attrsRow_snoc (a := (⟨#[122, 122]⟩, [])) HLa.out HPp.out ⟨_, _, _, rfl⟩ (own_none _ _) hgr8 hown8); have D8 := Lib.hid (P8.out.store hq HLn.out A8.out); clear hown8 hbel8 hsz8 hgr8 hat8 c0 c1 f0 f1; obtain ⟨⟨y0, y1⟩, yf0, yf1⟩ := P8.out.cell.cells; obtain ⟨⟨c0, c1⟩, _⟩ := D8.out.cell.cells; obtain ⟨⟨r0, r1⟩, rf0, rf1⟩ := D8.out.res.cells; rw [← HLn.out] at c1)
            | (fail "none"))
          obtain ⟨⟨z0, z1⟩, _⟩ := ((D8.out.res.set0 (.slice vo d.length vc)).set1 (.slice (some ⟨g8, 0, none⟩) (l ++ [((⟨#[122, 122]⟩, []) : AttrV)]).length cp8)).cells
          have HF := Lib.hid (D8.out.fin hq hd HSh.out HSn.out)
          rw [← HLn.out] at z0 z1 HF
          exact bodyPost_ret (v := .agg #[.slice vo d.length vc, .slice (some ⟨g8, 0, none⟩) (P.length + 1) cp8]) (by simp [results, Tryz.results42, go_sem, z0, z1]) rfl HF.out
end Go.Proofs.YtjajpdghamecoaaGreat
