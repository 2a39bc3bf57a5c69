/- Merged texts: SpAdd3, OutSt, VAddW. -/
import Derived.Test.YtjajpdghamecoaaGreatM13
/- ValueAdd: what the specification's text returns. -/
namespace Go.Proofs.YtjajpdghamecoaaGreat
open Go.RowKit
attribute [local go_sem ↓] Go.wp_at_zero Go.wp_at_succ

theorem addR_code {d : RdnL} {l : List AttrV} {nm val : ByteArray} {c : Int} (h : vcode (rightB d l) nm val = c) (hc : c ≠ 0) : addR d l nm val = (c, [], []) := by
  unfold addR; rw [h, if_pos hc]
theorem vcode_one {r : Bool} {nm val : ByteArray} (h1 : ¬ 8000 < nm.size) (h2 : ¬ 8000 < val.size) (h : (r && nmL nm && valB val) = false) : vcode r nm val = 1 := by rw [vcode_small h1 h2, h]; rfl
theorem vcode_ok {r : Bool} {nm val : ByteArray} (h1 : ¬ 8000 < nm.size) (h2 : ¬ 8000 < val.size) (h : (r && nmL nm && valB val) = true) : vcode r nm val = 0 := by rw [vcode_small h1 h2, h]; rfl
set_option maxRecDepth 100000 in
set_option maxHeartbeats 1000000 in
theorem SpecValueAdd_any (ao bo : Option Addr) (d : RdnL) (l : List AttrV) (ca cb : Nat) (nm val : ByteArray) (w : World) (hd : DnAt w ao d) (hl : AttrsAt w bo l) (hfd : Fits d) (hfl : FitsA l) (hn : nm.size ≤ maxLen) (hv : val.size ≤ maxLen) :
    Calls Tryz.prog 14 #[.agg #[.slice ao d.length ca, .slice bo l.length cb], .string nm, .string val] w (SpecOut w (addR d l nm val)) := by
  have HD := Lib.hid hd; have HL := Lib.hid hl; have FD := Lib.hid hfd; have FL := Lib.hid hfl; have Hn := Lib.hid hn; have Hv := Lib.hid hv; clear hd hl hfd hfl
  go_enter Tryz.func14, Tryz.ntmps14
  go_wp2_with fail
  refine calls_any' (fun W => Below w.heap.size w W ∧ Two W w.heap.size 26 (.slice ao d.length ca) (.slice bo l.length cb) ∧ Three W (w.heap.size + 1) 30 (.slice none 0 0) (.slice none 0 0) (.int .i64 0)) ⟨more (more (Below.refl _ _) _) _, (twoNew w 26 _ _).alloc _, threeNext w _ 30 _ _ _⟩ ?_
  rintro W ⟨hbW, t0, t1⟩
  refine (l03Long_any nm val W hn hv).mono ?_
  rintro e w1 ⟨rfl, rfl⟩
  have B1 := Lib.hid hbW; have T1 := Lib.hid t0; have U1 := Lib.hid t1
  clear hbW t0 t1
  by_cases hbig : 8000 < nm.size ∨ 8000 < val.size
  · have hq : (decide (8000 < nm.size) || decide (8000 < val.size)) = true := by simpa using hbig
    rw [hq]
    have HO := Lib.hid (addR_code (d := d) (l := l) (vcode_big (r := rightB d l) hbig) (by decide))
    clear hbig hq
    go_wp2_with fail
    refine (l03Ill_any 2 W).mono ?_
    rintro e w4 ⟨rfl, hb4⟩
    have U4 := Lib.hid (U1.out.below hb4); have B4 := Lib.hid (B1.out.trans (hb4.mono B1.out.size))
    clear hb4
    obtain ⟨⟨k0, k1, k2⟩, f0, f1, f2⟩ := U4.out.cells
    obtain ⟨⟨q0, q1, q2⟩, _⟩ := (((U4.out.set0 (.slice none 0 0)).set1 (.slice none 0 0)).set2 (.int .i64 2)).cells
    unfold failV
    go_wp2_with fail
    refine bodyPost_ret (v := failV 2) (by simp [results, Tryz.results14, go_sem, q0, q1, q2, failV]) rfl ?_
    rw [HO.out]
    exact specOut_fail (below_three B4.out _ _ _)
  · have hn8 : ¬ 8000 < nm.size := fun h => hbig (.inl h)
    have hv8 : ¬ 8000 < val.size := fun h => hbig (.inr h)
    have hq : (decide (8000 < nm.size) || decide (8000 < val.size)) = false := by simp; omega
    rw [hq]
    have HOb : Hid ((rightB d l && nmL nm && valB val) = false → addR d l nm val = (1, [], [])) := Lib.hid (fun h => addR_code (vcode_one hn8 hv8 h) (by decide))
    have HOk : Hid ((rightB d l && nmL nm && valB val) = true → vcode (rightB d l) nm val = 0) := Lib.hid (fun h => vcode_ok hn8 hv8 h)
    clear hbig hq
    obtain ⟨⟨p0, p1⟩, _⟩ := T1.out.cells
    go_wp2_with fail
    clear p0 p1
    refine (SpecEntryRight_any ao bo d l ca cb W (HD.out.below B1.out) (HL.out.below B1.out) FD.out FL.out).mono ?_
    rintro e w2 ⟨rfl, hb2⟩
    have B2 := Lib.hid (B1.out.trans (hb2.mono B1.out.size)); have T2 := Lib.hid (T1.out.below hb2); have U2 := Lib.hid (U1.out.below hb2)
    clear hb2 B1 T1 U1
    have HIll : Hid (∀ w3, Below w.heap.size w w3 → Three w3 (w.heap.size + 1) 30 (.slice none 0 0) (.slice none 0 0) (.int .i64 0) → Calls Tryz.prog 54 #[.int .i64 1] w3 fun e w4 => e = .returned (failV 1) ∧ Below w.heap.size w w4 ∧ Three w4 (w.heap.size + 1) 30 (.slice none 0 0) (.slice none 0 0) (.int .i64 0)) :=
      Lib.hid (fun w3 h1 h2 => (l03Ill_any 1 w3).mono fun e w4 ⟨a, b⟩ => ⟨a, h1.trans (b.mono h1.size), h2.below b⟩)
    cases hr : rightB d l
    · have HO := Lib.hid (HOb.out (by rw [hr]; rfl))
      clear HOb HOk
      go_wp2_with fail
      refine (HIll.out w2 B2.out U2.out).mono ?_
      rintro e w4 ⟨rfl, b4, u4⟩
      have U4 := Lib.hid u4; have B4 := Lib.hid b4
      clear b4 u4
      obtain ⟨⟨k0, k1, k2⟩, f0, f1, f2⟩ := U4.out.cells
      obtain ⟨⟨q0, q1, q2⟩, _⟩ := (((U4.out.set0 (.slice none 0 0)).set1 (.slice none 0 0)).set2 (.int .i64 1)).cells
      unfold failV
      go_wp2_with fail
      refine bodyPost_ret (v := failV 1) (by simp [results, Tryz.results14, go_sem, q0, q1, q2, failV]) rfl ?_
      rw [HO.out]
      exact specOut_fail (below_three B4.out _ _ _)
    · go_wp2_with fail
      refine (SpecNameRight_any nm w2 Hn.out).mono ?_
      rintro e w3 ⟨rfl, rfl⟩
      cases hm : nmL nm
      · have HO := Lib.hid (HOb.out (by rw [hr, hm]; rfl))
        clear HOb HOk
        go_wp2_with fail
        refine (HIll.out w2 B2.out U2.out).mono ?_
        rintro e w4 ⟨rfl, b4, u4⟩
        have U4 := Lib.hid u4; have B4 := Lib.hid b4
        clear b4 u4
        obtain ⟨⟨k0, k1, k2⟩, f0, f1, f2⟩ := U4.out.cells
        obtain ⟨⟨q0, q1, q2⟩, _⟩ := (((U4.out.set0 (.slice none 0 0)).set1 (.slice none 0 0)).set2 (.int .i64 1)).cells
        unfold failV
        go_wp2_with fail
        refine bodyPost_ret (v := failV 1) (by simp [results, Tryz.results14, go_sem, q0, q1, q2, failV]) rfl ?_
        rw [HO.out]
        exact specOut_fail (below_three B4.out _ _ _)
      · go_wp2_with fail
        refine (l02Value_any val w2 Hv.out).mono ?_
        rintro e w3 ⟨rfl, hb3⟩
        have B3 := Lib.hid (B2.out.trans (hb3.mono B2.out.size)); have T3 := Lib.hid (T2.out.below hb3); have U3 := Lib.hid (U2.out.below hb3)
        clear hb3 B2 T2 U2
        cases hp : valB val
        · have HO := Lib.hid (HOb.out (by rw [hr, hm, hp]; rfl))
          clear HOb HOk
          go_wp2_with fail
          refine (HIll.out w3 B3.out U3.out).mono ?_
          rintro e w4 ⟨rfl, b4, u4⟩
          have U4 := Lib.hid u4; have B4 := Lib.hid b4
          clear b4 u4
          obtain ⟨⟨k0, k1, k2⟩, f0, f1, f2⟩ := U4.out.cells
          obtain ⟨⟨q0, q1, q2⟩, _⟩ := (((U4.out.set0 (.slice none 0 0)).set1 (.slice none 0 0)).set2 (.int .i64 1)).cells
          unfold failV
          go_wp2_with fail
          refine bodyPost_ret (v := failV 1) (by simp [results, Tryz.results14, go_sem, q0, q1, q2, failV]) rfl ?_
          rw [HO.out]
          exact specOut_fail (below_three B4.out _ _ _)
        · have HC := Lib.hid (HOk.out (by rw [hr, hm, hp]; rfl))
          clear HOb HOk HIll
          obtain ⟨⟨p0, p1⟩, _⟩ := T3.out.cells
          have HAdd := Lib.hid (l03Add_any ao bo d l ca cb nm val w3 (HD.out.below B3.out) (HL.out.below B3.out) FD.out FL.out (by omega) (by omega) HC.out)
          generalize hre : addR d l nm val = r at *
          have HRe := Lib.hid hre; clear hre
          obtain ⟨c, D, T⟩ := r
          have hw1 : w.heap.size + 1 < w3.heap.size := U3.out.lt
          go_wp2_with fail
          refine HAdd.out.mono ?_
          rintro e w4 ⟨⟨vo, vc, uo, uc, rfl, x4, y4⟩, hb4⟩
          dsimp only at x4 y4 ⊢
          have U4 := Lib.hid (U3.out.below hb4); have B4 := Lib.hid (B3.out.trans (hb4.mono B3.out.size)); have X4 := Lib.hid x4; have Y4 := Lib.hid y4
          clear hb4 x4 y4 p0 p1
          obtain ⟨⟨k0, k1, k2⟩, f0, f1, f2⟩ := U4.out.cells
          obtain ⟨⟨q0, q1, q2⟩, _⟩ := (((U4.out.set0 (.slice vo D.length vc)).set1 (.slice uo T.length uc)).set2 (.int .i64 c)).cells
          go_wp2_with fail
          refine bodyPost_ret (v := .agg #[.slice vo D.length vc, .slice uo T.length uc, .int .i64 c]) (by simp [results, Tryz.results14, go_sem, q0, q1, q2]) rfl ?_
          exact ⟨⟨vo, vc, uo, uc, rfl, own_mono (own_cellOut (own_cellOut (own_cellOut X4.out hw1) hw1) hw1) B3.out.size, (((Y4.out.cellOut hw1).cellOut hw1).cellOut hw1).mono B3.out.size⟩, below_three B4.out _ _ _⟩
end Go.Proofs.YtjajpdghamecoaaGreat
/- The state of a law that has a result in hand. -/
namespace Go.Proofs.YtjajpdghamecoaaGreat
open Go.RowKit
attribute [local go_sem ↓] Go.wp_at_zero Go.wp_at_succ

theorem EntOwn.ent {w : World} {v : Value} {d : RdnL} {l : List AttrV} {lo : Nat} (h : EntOwn w v d l lo) : EntAt w v d l := by
  obtain ⟨G, g, rfl, _, _, h3, _, h5⟩ := h
  exact ⟨_, _, _, _, rfl, h3, h5.attrs, Nat.le_refl _, Nat.le_refl _⟩
theorem Two.mid' {w w' : World} {g a b : Nat} {T : TypeId} {x y : Value} (h : Two w g T x y) (hm : Mid a b w w') (hx : g < a ∨ b ≤ g) : Two w' g T x y := (hm.2.2.2.2 g h.lt hx).trans h
theorem Three.mid {w w' : World} {g a b : Nat} {T : TypeId} {x y z : Value} (h : Three w g T x y z) (hm : Mid a b w w') (hx : g < a ∨ b ≤ g) : Three w' g T x y z := (hm.2.2.2.2 g h.lt hx).trans h
/-- the law's argument is as it was, what the specification returned is as it was, and the program's result lies in blocks from glo to below ghi, itself in the block ghi -/
structure StG (w a3 : World) (A0 A1 v u : Value) (c : Int) (glo ghi : Nat) (D : RdnL) (T : List AttrV) (W : World) : Prop where
  base : Below w.heap.size w W
  low : Below a3.heap.size a3 W
  arg : Two W w.heap.size 52 A0 A1
  cell : Three W ghi 30 v u (.int .i64 c)
  out : OutIn W glo ghi v u D T
structure StM (w a3 : World) (A0 A1 v u : Value) (c : Int) (glo ghi : Nat) (D : RdnL) (T : List AttrV) (W : World) : Prop where
  base : Below w.heap.size w W
  low : Below a3.heap.size a3 W
  arg : Two W w.heap.size 52 A0 A1
  cell : Three W ghi 30 v u (.int .i64 c)
  out : OutMk W glo ghi v u D T
section
variable {w a3 W W' : World} {A0 A1 v u : Value} {c : Int} {glo ghi : Nat} {D : RdnL} {T : List AttrV}
theorem StG.below (h : StG w a3 A0 A1 v u c glo ghi D T W) (hb : Below W.heap.size W W') : StG w a3 A0 A1 v u c glo ghi D T W' := ⟨h.base.trans (hb.mono h.base.size), h.low.trans (hb.mono h.low.size), h.arg.below hb, h.cell.below hb, h.out.below hb⟩
theorem StM.below (h : StM w a3 A0 A1 v u c glo ghi D T W) (hb : Below W.heap.size W W') : StM w a3 A0 A1 v u c glo ghi D T W' := ⟨h.base.trans (hb.mono h.base.size), h.low.trans (hb.mono h.low.size), h.arg.below hb, h.cell.below hb, h.out.below hb⟩
theorem StG.gcells (h : StG w a3 A0 A1 v u c glo ghi D T W) : (W.cell? ⟨ghi, 0, none⟩ = some v ∧ W.cell? ⟨ghi, 1, none⟩ = some u ∧ W.cell? ⟨ghi, 2, none⟩ = some (.int .i64 c)) ∧ (W.frozen? ⟨ghi, 0, none⟩ = false ∧ W.frozen? ⟨ghi, 1, none⟩ = false ∧ W.frozen? ⟨ghi, 2, none⟩ = false) := h.cell.cells
theorem StM.gcells (h : StM w a3 A0 A1 v u c glo ghi D T W) : (W.cell? ⟨ghi, 0, none⟩ = some v ∧ W.cell? ⟨ghi, 1, none⟩ = some u ∧ W.cell? ⟨ghi, 2, none⟩ = some (.int .i64 c)) ∧ (W.frozen? ⟨ghi, 0, none⟩ = false ∧ W.frozen? ⟨ghi, 1, none⟩ = false ∧ W.frozen? ⟨ghi, 2, none⟩ = false) := h.cell.cells
theorem StG.gl (h : StG w a3 A0 A1 v u c glo ghi D T W) : ghi < W.heap.size := h.cell.lt
theorem StG.dn {vo : Option Addr} {n vc : Nat} (h : StG w a3 A0 A1 (.slice vo n vc) u c glo ghi D T W) : DnAt W vo D := own_dn h.out.1.1
theorem StG.attrs {uo : Option Addr} {n uc : Nat} (h : StG w a3 A0 A1 v (.slice uo n uc) c glo ghi D T W) : AttrsAt W uo T := h.out.2.attrs
theorem StG.mid {hi : Nat} (h : StG w a3 A0 A1 v u c glo ghi D T W) (hm : Mid a3.heap.size hi W W') (h1 : w.heap.size < a3.heap.size) (h2 : w.heap.size ≤ a3.heap.size) (h3 : hi ≤ glo) (h4 : glo ≤ ghi) : StG w a3 A0 A1 v u c glo ghi D T W' :=
  ⟨hm.below h.base h2, hm.below h.low (Nat.le_refl _), h.arg.mid' hm (.inl h1), h.cell.mid hm (.inr (by omega)), h.out.mid hm (.inr h3)⟩
theorem StG.marked (h : StG w a3 A0 A1 v u c glo ghi D T W) (ho : OutMk W' glo ghi v u D T) (hm : Mid glo ghi W W') (h1 : w.heap.size < glo) (h2 : a3.heap.size ≤ glo) : StM w a3 A0 A1 v u c glo ghi D T W' :=
  ⟨hm.below h.base (Nat.le_of_lt h1), hm.below h.low h2, h.arg.mid' hm (.inl h1), h.cell.mid hm (.inr (Nat.le_refl _)), ho⟩
theorem stG_of {w5 : World} {vo uo : Option Addr} {n m vc uc : Nat} (hb : Below w.heap.size w w5) (hl : Below a3.heap.size a3 w5) (ht : Two w5 w.heap.size 52 A0 A1) (ho : w5.ownsRow glo 97 2 (.slice vo n vc) D.length (rs D)) (ha : AttrsOwn w5 glo (.slice uo m uc) T) (c : Int) :
    StG w a3 A0 A1 (.slice vo n vc) (.slice uo m uc) c glo w5.heap.size D T (w5.alloc (.cells #[.slice vo n vc, .slice uo m uc, .int .i64 c] 30)) := by
  have hal := more (Below.refl w5.heap.size w5) (.cells #[.slice vo n vc, .slice uo m uc, .int .i64 c] 30)
  exact ⟨more hb _, more hl _, ht.alloc _, heap_alloc_new w5 _, (rowIn_of ho).below hal, (attrsMk_of ha _).below hal⟩
end
end Go.Proofs.YtjajpdghamecoaaGreat
/- The law FnExactValueAdd: its walk. -/
namespace Go.Proofs.YtjajpdghamecoaaGreat
open Go.RowKit
attribute [local go_sem ↓] Go.wp_at_zero Go.wp_at_succ

theorem SpecValueAdd_ent (v : Value) (d : RdnL) (l : List AttrV) (nm val : ByteArray) (w : World) (h : EntAt w v d l) (hfd : Fits d) (hfl : FitsA l) (hn : nm.size ≤ maxLen) (hv : val.size ≤ maxLen) : Calls Tryz.prog 14 #[v, .string nm, .string val] w (SpecOut w (addR d l nm val)) := by
  obtain ⟨ao, ca, bo, cb, rfl, h2, h3, _, _⟩ := h
  exact SpecValueAdd_any ao bo d l ca cb nm val w h2 h3 hfd hfl hn hv
set_option maxRecDepth 100000 in
set_option maxHeartbeats 1000000 in
theorem FnExactValueAdd_walk (ao bo : Option Addr) (d : RdnL) (l : List AttrV) (ca cb : Nat) (nm val : ByteArray) (w : World) (hd : DnAt w ao d) (hl : AttrsAt w bo l) (hfd : Long d) (hfl : LongA l) (hnm : nm.size ≤ maxLen) (hval : val.size ≤ maxLen) :
    Calls Tryz.prog 5 #[.agg #[.slice ao d.length ca, .slice bo l.length cb], .string nm, .string val] w fun e w' => e = .returned (.bool true) ∧ Below w.heap.size w w' := by
  have HD := Lib.hid hd; have HL := Lib.hid hl; have LD := Lib.hid hfd; have LL := Lib.hid hfl; have Hnm := Lib.hid hnm; have Hval := Lib.hid hval; clear hd hl hfd hfl
  unfold maxLen at hnm hval
  by_cases hbig : 1048576 < nm.size
  · have g : 1048576 < (nm.size : Int) := by omega
    go_enter Tryz.func5, Tryz.ntmps5
    go_wp2
    go_ret
    exact ⟨rfl, more (Below.refl _ _) _⟩
  have gn : ¬ 1048576 < (nm.size : Int) := by omega
  by_cases hbigv : 1048576 < val.size
  · have g : 1048576 < (val.size : Int) := by omega
    go_enter Tryz.func5, Tryz.ntmps5
    go_wp2
    go_ret
    exact ⟨rfl, more (Below.refl _ _) _⟩
  have gv : ¬ 1048576 < (val.size : Int) := by omega
  go_enter Tryz.func5, Tryz.ntmps5
  have HB0 : Hid (Below w.heap.size w (w.alloc (.cells #[.slice ao d.length ca, .slice bo l.length cb] 52))) := Lib.hid (more (Below.refl _ _) _)
  have HT0 : Hid (Two (w.alloc (.cells #[.slice ao d.length ca, .slice bo l.length cb] 52)) w.heap.size 52 (.slice ao d.length ca) (.slice bo l.length cb)) := Lib.hid (twoNew w 52 _ _)
  go_wp2_with fail
  refine (szEntry_any ao bo d l ca cb 1048576 _ (HD.out.below HB0.out) (HL.out.below HB0.out) LD.out LL.out (by omega) (by omega)).mono ?_
  rintro e w1 ⟨rfl, b1'⟩
  have b1 := HB0.out.trans (b1'.mono HB0.out.size)
  have T1 := Lib.hid (HT0.out.below b1')
  obtain ⟨⟨p0, p1⟩, _⟩ := T1.out.cells
  clear b1'
  by_cases hfit : ((sizeE d l : Nat) : Int) ≤ 1048576
  · rw [leftR_pos hfit]
    obtain ⟨hfd, hfl⟩ := fitsE (d := d) (l := l) (by omega)
    have FD := Lib.hid hfd; have FL := Lib.hid hfl
    have hdl := hfd.1
    have HSz : Hid (sizeE d l ≤ 1048576) := Lib.hid (by omega)
    have HSm := Lib.hid (addR_small (d := d) (nm := nm) (val := val) hfl)
    clear hfd hfl
    have h0 : ¬ (1048576 : Int) - ((sizeE d l : Nat) : Int) < 0 := by omega
    generalize ((sizeE d l : Nat) : Int) = t at *
    go_wp2_with fail
    refine (toEntry_any ao bo d l ca cb w1 (HD.out.below b1) (HL.out.below b1) hdl FL.out).mono ?_
    rintro e w2 ⟨v2, rfl, e2, b2⟩
    have B2 := Lib.hid (b1.trans (b2.mono b1.size))
    have T2 := Lib.hid (T1.out.below b2)
    clear b2 b1 T1 p0 p1
    have HAt : Hid (∀ xo cx yo cy Y, DnAt Y xo d → AttrsAt Y yo l → Calls Tryz.prog 9 #[.agg #[.slice xo d.length cx, .slice yo l.length cy], .string nm, .string val] Y (ImplOut Y (addR d l nm val))) :=
      Lib.hid (fun xo cx yo cy Y h1 h2 => ValueAdd_out xo yo d l cx cy nm val Y h1 h2 FD.out FL.out Hnm.out Hval.out)
    have HSp := Lib.hid (SpecValueAdd_ent v2 d l nm val w2 e2 FD.out FL.out Hnm.out Hval.out)
    clear e2
    generalize addR d l nm val = r at *
    obtain ⟨c, D, T⟩ := r
    have hD6 : D.length ≤ 6 := HSm.out.1
    have hT8 : cntA T T.length ≤ 800 := HSm.out.2.1
    have FT : Hid (FitsA T) := Lib.hid HSm.out.2.2
    clear HSm
    go_wp2_with fail
    refine HSp.out.mono ?_
    rintro e w3 ⟨⟨vo0, vc0, uo0, uc0, rfl, x3', y3'⟩, b3⟩
    have x3 := own_dn x3'; have y3 := y3'.attrs
    dsimp only at x3 y3 ⊢
    clear x3' y3'
    have B3 := Lib.hid (more (B2.out.trans (b3.mono B2.out.size)) (.cells #[.slice vo0 D.length vc0, .slice uo0 T.length uc0, .int .i64 c] 30))
    have T3 := Lib.hid ((T2.out.below b3).alloc (.cells #[.slice vo0 D.length vc0, .slice uo0 T.length uc0, .int .i64 c] 30))
    have hal := more (Below.refl w3.heap.size w3) (.cells #[.slice vo0 D.length vc0, .slice uo0 T.length uc0, .int .i64 c] 30)
    have S3 : Hid (Three (w3.alloc (.cells #[.slice vo0 D.length vc0, .slice uo0 T.length uc0, .int .i64 c] 30)) w3.heap.size 30 (.slice vo0 D.length vc0) (.slice uo0 T.length uc0) (.int .i64 c) ∧ DnAt (w3.alloc (.cells #[.slice vo0 D.length vc0, .slice uo0 T.length uc0, .int .i64 c] 30)) vo0 D ∧ AttrsAt (w3.alloc (.cells #[.slice vo0 D.length vc0, .slice uo0 T.length uc0, .int .i64 c] 30)) uo0 T) :=
      Lib.hid ⟨heap_alloc_new w3 _, x3.below hal, y3.below hal⟩
    obtain ⟨⟨p0, p1⟩, _⟩ := T3.out.cells
    clear b3 x3 y3 B2 T2 HSp hal
    go_wp2_with fail
    clear p0 p1
    refine calls_any' (fun W => Below w.heap.size w W ∧ Two W w.heap.size 52 (.slice ao d.length ca) (.slice bo l.length cb) ∧ Three W w3.heap.size 30 (.slice vo0 D.length vc0) (.slice uo0 T.length uc0) (.int .i64 c) ∧ DnAt W vo0 D ∧ AttrsAt W uo0 T) ⟨B3.out, T3.out, S3.out⟩ ?_
    clear B3 T3 S3
    rintro a3 ⟨bA, tA, sA⟩
    have S3 := Lib.hid sA
    have hg3 : w3.heap.size < a3.heap.size := sA.1.lt
    generalize w3.heap.size = g3 at *
    refine (toEntry_row ao bo d l ca cb a3 (HD.out.below bA) (HL.out.below bA) hdl FL.out).mono ?_
    rintro e w4 ⟨v4, rfl, e4, b4⟩
    have B4 := Lib.hid (bA.trans (b4.mono bA.size)); have C4 := Lib.hid b4
    have T4 := Lib.hid (tA.below b4)
    have E4 := Lib.hid e4
    have L34 := b4.size
    have hwl : w.heap.size < a3.heap.size := tA.lt
    have hwa : w.heap.size ≤ a3.heap.size := bA.size
    obtain ⟨G, g, hve, _⟩ := e4
    subst hve
    clear b4 bA tA sA
    obtain ⟨_, _, _, _, he1, x5, y5, _⟩ := E4.out.ent
    have X5 : Hid (DnAt w4 (some ⟨G, 0, none⟩) d ∧ AttrsAt w4 (some ⟨g, 0, none⟩) l) := Lib.hid (by
      injection he1 with he1
      simp at he1
      obtain ⟨⟨rfl, rfl⟩, rfl, rfl⟩ := he1
      exact ⟨x5, y5⟩)
    clear he1 x5 y5
    have hB4 : Below w4.heap.size w4 (w4.alloc (.cells #[.slice (some ⟨G, 0, none⟩) d.length d.length, .slice (some ⟨g, 0, none⟩) l.length l.length] 26)) := more (Below.refl _ _) _
    have R5 : Hid (Below w.heap.size w (w4.alloc (.cells #[.slice (some ⟨G, 0, none⟩) d.length d.length, .slice (some ⟨g, 0, none⟩) l.length l.length] 26)) ∧ Below a3.heap.size a3 (w4.alloc (.cells #[.slice (some ⟨G, 0, none⟩) d.length d.length, .slice (some ⟨g, 0, none⟩) l.length l.length] 26)) ∧ Below w4.heap.size w4 (w4.alloc (.cells #[.slice (some ⟨G, 0, none⟩) d.length d.length, .slice (some ⟨g, 0, none⟩) l.length l.length] 26)) ∧ Two (w4.alloc (.cells #[.slice (some ⟨G, 0, none⟩) d.length d.length, .slice (some ⟨g, 0, none⟩) l.length l.length] 26)) w.heap.size 52 (.slice ao d.length ca) (.slice bo l.length cb) ∧ Two (w4.alloc (.cells #[.slice (some ⟨G, 0, none⟩) d.length d.length, .slice (some ⟨g, 0, none⟩) l.length l.length] 26)) w4.heap.size 26 (.slice (some ⟨G, 0, none⟩) d.length d.length) (.slice (some ⟨g, 0, none⟩) l.length l.length)) :=
      Lib.hid ⟨more B4.out _, more C4.out _, hB4, T4.out.alloc _, twoNew w4 26 _ _⟩
    clear hB4
    go_wp2_with fail
    refine calls_any' (fun W => Below w.heap.size w W ∧ Below a3.heap.size a3 W ∧ Below w4.heap.size w4 W ∧ Two W w.heap.size 52 (.slice ao d.length ca) (.slice bo l.length cb) ∧ Two W w4.heap.size 26 (.slice (some ⟨G, 0, none⟩) d.length d.length) (.slice (some ⟨g, 0, none⟩) l.length l.length)) R5.out ?_
    clear R5 B4 T4 C4
    rintro W ⟨hbW, hc3, hb4, t0, t1⟩
    refine (HAt.out (some ⟨G, 0, none⟩) d.length (some ⟨g, 0, none⟩) l.length W (X5.out.1.below hb4) (X5.out.2.below hb4)).mono ?_
    rintro e w5 ⟨⟨vo, vc, uo, uc, rfl, o5, a5⟩, b5⟩
    dsimp only at o5 a5 ⊢
    have hlo : w4.heap.size ≤ W.heap.size := hb4.size
    have hgg : W.heap.size ≤ w5.heap.size := b5.size
    have G5 := Lib.hid (stG_of (hbW.trans (b5.mono hbW.size)) (hc3.trans (b5.mono hc3.size)) (t0.below b5) o5 a5 c)
    have C5 := Lib.hid (more (hb4.trans (b5.mono hb4.size)) (.cells #[.slice vo D.length vc, .slice uo T.length uc, .int .i64 c] 30))
    have U5 := Lib.hid ((t1.below b5).alloc (.cells #[.slice vo D.length vc, .slice uo T.length uc, .int .i64 c] 30))
    generalize W.heap.size = glo at *
    clear hbW hc3 hb4 t0 t1 o5 a5 b5
    obtain ⟨⟨s0, s1, s2⟩, _⟩ := G5.out.gcells
    obtain ⟨⟨r0, r1, r2⟩, _⟩ := (S3.out.1.below G5.out.low).cells
    go_wp2_with fail
    clear s0 s1 s2 r0 r1 r2
    refine calls_any' (fun Y => StG w a3 (.slice ao d.length ca) (.slice bo l.length cb) (.slice vo D.length vc) (.slice uo T.length uc) c glo w5.heap.size D T Y ∧ Below w4.heap.size w4 Y ∧ Two Y w4.heap.size 26 (.slice (some ⟨G, 0, none⟩) d.length d.length) (.slice (some ⟨g, 0, none⟩) l.length l.length)) ⟨G5.out, C5.out, U5.out⟩ ?_
    clear G5 C5 U5
    generalize w5.heap.size = ghi at *
    rintro a5 ⟨gA, cA, uA⟩
    have HEq : Hid (∀ (Y : World) (xo : Option Addr) (cx : Nat) (yo : Option Addr) (cy : Nat), Below a3.heap.size a3 Y → DnAt Y xo D → AttrsAt Y yo T → Calls Tryz.prog 32 #[.agg #[.slice xo D.length cx, .slice yo T.length cy, .int .i64 c], .agg #[.slice vo0 D.length vc0, .slice uo0 T.length uc0, .int .i64 c]] Y fun e w' => e = .returned (.bool true) ∧ Below Y.heap.size Y w') :=
      Lib.hid (fun Y xo cx yo cy h h1 h2 => eqEntryOut_same xo yo vo0 uo0 cx cy vc0 uc0 c D T Y h1 h2 (S3.out.2.1.below h) (S3.out.2.2.below h) (by omega) FT.out)
    refine (HEq.out a5 vo vc uo uc gA.low gA.dn gA.attrs).mono ?_
    rintro e w6 ⟨rfl, b6⟩
    have G6 := Lib.hid (gA.below b6); have C6 := Lib.hid (cA.trans (b6.mono cA.size)); have U6 := Lib.hid (uA.below b6)
    clear b6 gA cA uA
    have SK : Hid (∀ Y : World, Below w6.heap.size w6 Y → (Below w6.heap.size w6 Y ∧ Y.cell? ⟨w.heap.size, 0, none⟩ = some (.slice ao d.length ca) ∧ Y.cell? ⟨w.heap.size, 1, none⟩ = some (.slice bo l.length cb) ∧ Y.cell? ⟨w4.heap.size, 0, none⟩ = some (.slice (some ⟨G, 0, none⟩) d.length d.length) ∧ Y.cell? ⟨w4.heap.size, 1, none⟩ = some (.slice (some ⟨g, 0, none⟩) l.length l.length))) :=
      Lib.hid (fun Y h => ⟨h, (G6.out.arg.below h).cells.1.1, (G6.out.arg.below h).cells.1.2, (U6.out.below h).cells.1.1, (U6.out.below h).cells.1.2⟩)
    have H29 : Hid (∀ Y, Below w6.heap.size w6 Y → Calls Tryz.prog 31 #[.agg #[.slice ao d.length ca, .slice bo l.length cb]] Y fun e w' => (∃ zo cz uo cu, e = .returned (.agg #[.slice zo d.length cz, .slice uo l.length cu]) ∧ DnAt w' zo d ∧ AttrsAt w' uo l) ∧ Below w6.heap.size w6 w') :=
      Lib.hid (fun Y h => (toEntry_any ao bo d l ca cb Y (HD.out.below (G6.out.base.trans (h.mono G6.out.base.size))) (HL.out.below (G6.out.base.trans (h.mono G6.out.base.size))) hdl FL.out).mono fun e w' ⟨v, h1, ⟨zo, cz, uo, cu, h2, h3, h4, _⟩, h5⟩ => ⟨⟨zo, cz, uo, cu, by rw [h1, h2], h3, h4⟩, h.trans (h5.mono h.size)⟩)
    have H31 : Hid (∀ Y zo cz uo cu, Below w6.heap.size w6 Y → DnAt Y zo d → AttrsAt Y uo l → Calls Tryz.prog 33 #[.agg #[.slice (some ⟨G, 0, none⟩) d.length d.length, .slice (some ⟨g, 0, none⟩) l.length l.length], .agg #[.slice zo d.length cz, .slice uo l.length cu]] Y fun e w' => e = .returned (.bool true) ∧ Below w6.heap.size w6 w') :=
      Lib.hid (fun Y zo cz uo cu h h3 h4 => (eqEntry_any (some ⟨G, 0, none⟩) (some ⟨g, 0, none⟩) zo uo d l d.length l.length cz cu Y (X5.out.1.below (C6.out.trans (h.mono C6.out.size))) (X5.out.2.below (C6.out.trans (h.mono C6.out.size))) h3 h4 hdl FL.out).mono fun _ _ g => ⟨g.1, h.trans (g.2.mono h.size)⟩)
    have hb0 : Below w6.heap.size w6 w6 := Below.refl _ _
    have hbd := hb0.drew
    go_wp2_with fail
    go_region_held3 (fun Y => Below w6.heap.size w6 Y ∧ Y.cell? ⟨w.heap.size, 0, none⟩ = some (.slice ao d.length ca) ∧ Y.cell? ⟨w.heap.size, 1, none⟩ = some (.slice bo l.length cb) ∧ Y.cell? ⟨w4.heap.size, 0, none⟩ = some (.slice (some ⟨G, 0, none⟩) d.length d.length) ∧ Y.cell? ⟨w4.heap.size, 1, none⟩ = some (.slice (some ⟨g, 0, none⟩) l.length l.length))
      (exact SK.out _ (by assumption))
      (first
        | (go_at_call 31; refine (H29.out _ (by assumption)).mono ?_; rintro e w7 ⟨⟨zo7, cz7, uo7, cu7, rfl, hz6, hu6⟩, hb7⟩; have Z7 := Lib.hid hz6; have W7 := Lib.hid hu6; clear hz6 hu6)
        | (go_at_call 33; refine (H31.out _ _ _ _ _ (by assumption) ?_ ?_).mono ?_; (focus (first | exact Z7.out | exact Z7.out.below ((Below.refl _ _).drew))); (focus (first | exact W7.out | exact W7.out.below ((Below.refl _ _).drew))); rintro e w8 ⟨rfl, hb8⟩)
        | (fail "none"))
    have G8 := Lib.hid (G6.out.below hb8); have C8 := Lib.hid (C6.out.trans (hb8.mono C6.out.size)); have U8 := Lib.hid (U6.out.below hb8)
    clear SK H29 H31 hb0 hbd hb7 hb8 Z7 W7 G6 C6 U6
    obtain ⟨⟨p0, p1⟩, _⟩ := U8.out.cells
    go_wp2_with fail
    refine (markEntry_any _ d l a3.heap.size w4.heap.size w8 w4 E4.out rfl C8.out HSz.out).mono ?_
    rintro e w9 ⟨⟨n9, hn9, rfl⟩, m9⟩
    have G9 := Lib.hid (G8.out.mid m9 hwl hwa hlo hgg)
    clear m9 p0 p1 G8 C8 U8
    have hp9 : ¬ (n9 : Int) < 0 := by omega
    obtain ⟨⟨s0, s1, s2⟩, _⟩ := G9.out.gcells
    obtain ⟨⟨r0, r1, r2⟩, _⟩ := (S3.out.1.below G9.out.low).cells
    go_wp2_with fail
    clear s0 s1 s2 r0 r1 r2
    refine (HEq.out w9 vo vc uo uc G9.out.low G9.out.dn G9.out.attrs).mono ?_
    rintro e w10 ⟨rfl, b10⟩
    have G10 := Lib.hid (G9.out.below b10)
    clear b10 G9
    obtain ⟨⟨s0, s1, s2⟩, _⟩ := G10.out.gcells
    go_wp2_with fail
    clear s0 s1 s2
    refine (markEntryOut_own vo uo vc uc c D T glo ghi w10 G10.out.out (by omega) hT8 (Nat.le_of_lt G10.out.gl)).mono ?_
    rintro e w11 ⟨rfl, o11, m11⟩
    have G11 := Lib.hid (G10.out.marked o11 m11 (by omega) (by omega))
    clear o11 m11 G10
    have HH : Hid (∀ Y, StM w a3 (.slice ao d.length ca) (.slice bo l.length cb) (.slice vo D.length vc) (.slice uo T.length uc) c glo ghi D T Y → Calls Tryz.prog 36 #[.agg #[.slice vo D.length vc, .slice uo T.length uc, .int .i64 c], .int .i64 1] Y fun e w' => e = .returned (.int .i64 (cntE D T : Int)) ∧ Below Y.heap.size Y w') :=
      Lib.hid (fun Y h => heldEntryOut_own vo uo vc uc c D T glo ghi Y h.out (by omega) hT8)
    have hq1 : ¬ (cntE D T : Int) < 0 := by omega
    generalize (cntE D T : Int) = Q at *
    have hq2 : (Q != Q) = false := by simp
    obtain ⟨⟨s0, s1, s2⟩, _⟩ := G11.out.gcells
    go_wp2_with fail
    clear s0 s1 s2
    refine (HH.out w11 G11.out).mono ?_
    rintro e w12 ⟨rfl, b12⟩
    have G12 := Lib.hid (G11.out.below b12)
    clear b12 G11
    obtain ⟨⟨p0, p1⟩, _⟩ := G12.out.arg.cells
    go_wp2_with fail
    clear p0 p1
    refine (toEntry_any ao bo d l ca cb w12 (HD.out.below G12.out.base) (HL.out.below G12.out.base) hdl FL.out).mono ?_
    rintro e w13 ⟨v13, rfl, ⟨xo, cx, yo, cy, rfl, x13, y13, _, _⟩, b13⟩
    have G13 := Lib.hid (G12.out.below b13)
    have X13 := Lib.hid x13; have Y13 := Lib.hid y13
    clear b13 G12 x13 y13
    go_wp2_with fail
    refine (HAt.out xo cx yo cy w13 X13.out Y13.out).mono ?_
    rintro e w14 ⟨⟨ho, hc, io, ic, rfl, o14, a14⟩, b14⟩
    dsimp only at o14 a14 ⊢
    have hal := more (Below.refl w14.heap.size w14) (.cells #[.slice ho D.length hc, .slice io T.length ic, .int .i64 c] 30)
    have G14 := Lib.hid ((G13.out.below b14).below hal)
    have O14 := Lib.hid ((own_dn o14).below hal); have A14 := Lib.hid ((attrsMk_of a14 1).attrs.below hal)
    have V14 : Hid (Three (w14.alloc (.cells #[.slice ho D.length hc, .slice io T.length ic, .int .i64 c] 30)) w14.heap.size 30 (.slice ho D.length hc) (.slice io T.length ic) (.int .i64 c)) := Lib.hid (heap_alloc_new w14 _)
    clear b14 hal G13 X13 Y13 o14 a14
    obtain ⟨⟨s0, s1, s2⟩, _⟩ := V14.out.cells
    obtain ⟨⟨r0, r1, r2⟩, _⟩ := (S3.out.1.below G14.out.low).cells
    go_wp2_with fail
    clear s0 s1 s2 r0 r1 r2
    refine (HEq.out _ ho hc io ic G14.out.low O14.out A14.out).mono ?_
    rintro e w15 ⟨rfl, b15⟩
    have G15 := Lib.hid (G14.out.below b15)
    clear b15 G14 O14 A14 V14
    obtain ⟨⟨s0, s1, s2⟩, _⟩ := G15.out.gcells
    go_wp2_with fail
    clear s0 s1 s2
    refine (HH.out w15 G15.out).mono ?_
    rintro e w16 ⟨rfl, b16⟩
    have G16 := Lib.hid (G15.out.below b16)
    clear b16 G15
    go_wp2
    go_ret
    exact ⟨rfl, G16.out.base⟩
  · rw [leftR_neg hfit]
    clear hfit
    go_wp2
    go_ret
    exact ⟨rfl, b1⟩
end Go.Proofs.YtjajpdghamecoaaGreat
