/- Merged texts: EntA4. -/
import Derived.Test.YtjajpdghamecoaaM7
/- The law FnExactAttrOf: its walk. -/
namespace Go.Proofs.Ytjajpdghamecoaa
open Go.RowKit
attribute [local go_sem ↓] Go.wp_at_zero Go.wp_at_succ

/-- texts of the law's own, in a block from lo to below hi -/
def OwnV (w : World) (lo hi : Nat) (v : Value) (V : List ByteArray) : Prop := w.ownsRow lo 9 1 v V.length (ss V) ∧ ∀ g, v.ownBlock = some g → g < hi
theorem OwnV.below {w w' : World} {lo hi : Nat} {v : Value} {V : List ByteArray} (h : OwnV w lo hi v V) (hb : Below w.heap.size w w') : OwnV w' lo hi v V := ⟨own_below h.1 hb, h.2⟩
theorem ownV_of {w w' : World} {V : List ByteArray} {v : Value} (h : w'.ownsRow w.heap.size 9 1 v V.length (ss V)) : OwnV w' w.heap.size w'.heap.size v V := ⟨h, fun g hg => (h.lt g hg).2⟩
theorem OwnV.mid {w w' : World} {lo hi a b : Nat} {v : Value} {V : List ByteArray} (h : OwnV w lo hi v V) (hm : Mid a b w w') (hx : hi ≤ a ∨ b ≤ lo) : OwnV w' lo hi v V := by
  refine ⟨⟨h.1.1, ?_⟩, h.2⟩
  rcases h.1.2 with h0 | ⟨g, cap, cur, e, hB, hk, hr⟩
  · exact .inl h0
  · have h1 := h.2 g (by rw [e]; rfl)
    exact .inr ⟨g, cap, cur, e, hB, (hm.2.2.2.2 g (Array.getElem?_eq_some_iff.1 hk).1 (by omega)).trans hk, hr⟩
theorem OwnV.strs {w : World} {lo hi n cap : Nat} {ao : Option Addr} {V : List ByteArray} (h : OwnV w lo hi (.slice ao n cap) V) : StrsAt w ao V := own_strs h.1
theorem mid_of_mark {w w' : World} {lo hi : Nat} {v : Value} {V : List ByteArray} (h : OwnV w lo hi v V) (hg : w.grownBy w' v.ownBlock) : Mid lo hi w w' := by
  refine ⟨hg.os, hg.tape, hg.output, hg.size, fun k hk hx => hg.block k hk ?_⟩
  intro e
  have h1 := h.2 k e.symm
  have h2 := (h.1.lt k e.symm).1
  omega
theorem Two.mid {w w' : World} {g a b : Nat} {T : TypeId} {x y : Value} (h : Two w g T x y) (hm : Mid a b w w') (hx : g < a ∨ b ≤ g) : Two w' g T x y := (hm.2.2.2.2 g h.lt hx).trans h
theorem SpecAttrOf_ent (v : Value) (d : RdnL) (l : List AttrV) (nm : ByteArray) (w : World) (h : EntAt w v d l) (hfd : Fits d) (hfl : FitsA l) (hn : nm.size ≤ maxLen) : Calls Try.prog 32 #[v, .string nm] w (GivesV w (attrOfL d l nm)) := by
  obtain ⟨ao, ca, bo, cb, rfl, h2, h3, _, _⟩ := h
  exact SpecAttrOf_any ao bo d l ca cb nm w h2 h3 hfd hfl hn
theorem EntOwn.ent {w : World} {v : Value} {d : RdnL} {l : List AttrV} {lo : Nat} (h : EntOwn w v d l lo) : EntAt w v d l := by
  obtain ⟨G, g, rfl, _, _, h3, _, h5⟩ := h
  exact ⟨_, _, _, _, rfl, h3, h5.attrs, Nat.le_refl _, Nat.le_refl _⟩
set_option maxRecDepth 100000 in
set_option maxHeartbeats 1000000 in
theorem FnExactAttrOf_walk (ao bo : Option Addr) (d : RdnL) (l : List AttrV) (ca cb : Nat) (nm : ByteArray) (w : World) (hd : DnAt w ao d) (hl : AttrsAt w bo l) (hfd : Long d) (hfl : LongA l) (hnm : nm.size ≤ maxLen) :
    Calls Try.prog 6 #[.agg #[.slice ao d.length ca, .slice bo l.length cb], .string nm] w fun e w' => e = .returned (.bool true) ∧ Below w.heap.size w w' := by
  have HD := Lib.hid hd; have HL := Lib.hid hl; have LD := Lib.hid hfd; have LL := Lib.hid hfl; have Hnm := Lib.hid hnm; clear hd hl hfd hfl
  unfold maxLen at hnm
  by_cases hbig : 1048576 < nm.size
  · go_enter Try.func6, Try.ntmps6
    go_wp2
    go_ret
    exact ⟨rfl, more (Below.refl _ _) _⟩
  go_enter Try.func6, Try.ntmps6
  have HB0 : Hid (Below w.heap.size w (w.alloc (.cells #[.slice ao d.length ca, .slice bo l.length cb] 38))) := Lib.hid (more (Below.refl _ _) _)
  have HT0 : Hid (Two (w.alloc (.cells #[.slice ao d.length ca, .slice bo l.length cb] 38)) w.heap.size 38 (.slice ao d.length ca) (.slice bo l.length cb)) := Lib.hid (twoNew w 38 _ _)
  go_wp2_with fail
  refine (szEntry_any ao bo d l ca cb 1048576 _ (HD.out.below HB0.out) (HL.out.below HB0.out) LD.out LL.out (by omega) (by omega)).mono ?_
  rintro e w1 ⟨rfl, b1'⟩
  have b1 := HB0.out.trans (b1'.mono HB0.out.size)
  have T1 := Lib.hid (HT0.out.below b1')
  obtain ⟨⟨p0, p1⟩, _⟩ := T1.out.cells
  clear b1'
  by_cases hfit : ((sizeE d l : Nat) : Int) ≤ 1048576
  · rw [leftR_pos hfit]
    obtain ⟨hfd, hfl⟩ := fitsE (d := d) (l := l) (by omega)
    have FD := Lib.hid hfd; have FL := Lib.hid hfl
    have hdl := hfd.1
    have HSz : Hid (sizeE d l ≤ 1048576) := Lib.hid (by omega)
    have FV := Lib.hid (attrOf_fits (d := d) FL.out nm)
    clear hfd hfl
    have h0 : ¬ (1048576 : Int) - ((sizeE d l : Nat) : Int) < 0 := by omega
    generalize ((sizeE d l : Nat) : Int) = t at *
    go_wp2_with fail
    refine (toEntry_any ao bo d l ca cb w1 (HD.out.below b1) (HL.out.below b1) hdl FL.out).mono ?_
    rintro e w2 ⟨v2, rfl, e2, b2⟩
    have B2 := Lib.hid (b1.trans (b2.mono b1.size))
    have T2 := Lib.hid (T1.out.below b2)
    clear b2 b1 T1 p0 p1
    go_wp2_with fail
    refine (SpecAttrOf_ent v2 d l nm w2 e2 FD.out FL.out Hnm.out).mono ?_
    rintro e w3 ⟨⟨v3, rfl, o3⟩, b3⟩
    obtain ⟨q0, c0, rfl⟩ := own_slice o3
    have B3 := Lib.hid (B2.out.trans (b3.mono B2.out.size))
    have T3 := Lib.hid (T2.out.below b3)
    have V3 := Lib.hid (ownV_of o3)
    have L23 := b3.size
    clear b3 e2 o3 T2
    obtain ⟨⟨p0, p1⟩, _⟩ := T3.out.cells
    go_wp2_with fail
    clear p0 p1
    refine (toEntry_row ao bo d l ca cb w3 (HD.out.below B3.out) (HL.out.below B3.out) hdl FL.out).mono ?_
    rintro e w4 ⟨v4, rfl, e4, b4⟩
    have B4 := Lib.hid (B3.out.trans (b4.mono B3.out.size))
    have T4 := Lib.hid (T3.out.below b4)
    have V4 := Lib.hid (V3.out.below b4)
    have E4 := Lib.hid e4
    have L34 := b4.size
    have hwl : w.heap.size < w3.heap.size := T3.out.lt
    obtain ⟨G, g, hve, _⟩ := e4
    subst hve
    clear b4 T3 V3
    have hB4 : Below w4.heap.size w4 (w4.alloc (.cells #[.slice (some ⟨G, 0, none⟩) d.length d.length, .slice (some ⟨g, 0, none⟩) l.length l.length] 43)) := more (Below.refl _ _) _
    have R5 : Hid (Below w.heap.size w (w4.alloc (.cells #[.slice (some ⟨G, 0, none⟩) d.length d.length, .slice (some ⟨g, 0, none⟩) l.length l.length] 43)) ∧ Below w4.heap.size w4 (w4.alloc (.cells #[.slice (some ⟨G, 0, none⟩) d.length d.length, .slice (some ⟨g, 0, none⟩) l.length l.length] 43)) ∧ Two (w4.alloc (.cells #[.slice (some ⟨G, 0, none⟩) d.length d.length, .slice (some ⟨g, 0, none⟩) l.length l.length] 43)) w.heap.size 38 (.slice ao d.length ca) (.slice bo l.length cb) ∧ Two (w4.alloc (.cells #[.slice (some ⟨G, 0, none⟩) d.length d.length, .slice (some ⟨g, 0, none⟩) l.length l.length] 43)) w4.heap.size 43 (.slice (some ⟨G, 0, none⟩) d.length d.length) (.slice (some ⟨g, 0, none⟩) l.length l.length) ∧ OwnV (w4.alloc (.cells #[.slice (some ⟨G, 0, none⟩) d.length d.length, .slice (some ⟨g, 0, none⟩) l.length l.length] 43)) w2.heap.size w3.heap.size (.slice q0 (attrOfL d l nm).length c0) (attrOfL d l nm)) :=
      Lib.hid ⟨more B4.out _, hB4, T4.out.alloc _, twoNew w4 43 _ _, V4.out.below hB4⟩
    clear hB4
    go_wp2_with fail
    refine calls_any' (fun W => Below w.heap.size w W ∧ Below w4.heap.size w4 W ∧ Two W w.heap.size 38 (.slice ao d.length ca) (.slice bo l.length cb) ∧ Two W w4.heap.size 43 (.slice (some ⟨G, 0, none⟩) d.length d.length) (.slice (some ⟨g, 0, none⟩) l.length l.length) ∧ OwnV W w2.heap.size w3.heap.size (.slice q0 (attrOfL d l nm).length c0) (attrOfL d l nm)) R5.out ?_
    clear R5 B4 T4 V4
    rintro W ⟨hbW, hb4, t0, t1, v0⟩
    obtain ⟨_, _, _, _, he1, x5, y5, _⟩ := E4.out.ent
    have X5 : Hid (DnAt w4 (some ⟨G, 0, none⟩) d ∧ AttrsAt w4 (some ⟨g, 0, none⟩) l) := Lib.hid (by
      injection he1 with he1
      simp at he1
      obtain ⟨⟨rfl, rfl⟩, rfl, rfl⟩ := he1
      exact ⟨x5, y5⟩)
    clear he1 x5 y5
    refine (AttrOf_any (some ⟨G, 0, none⟩) (some ⟨g, 0, none⟩) d l d.length l.length nm W (X5.out.1.below hb4) (X5.out.2.below hb4) FD.out FL.out Hnm.out).mono ?_
    rintro e w5 ⟨⟨v5, rfl, o5⟩, b5⟩
    obtain ⟨r0, c1, rfl⟩ := own_slice o5
    have B5 := Lib.hid (hbW.trans (b5.mono hbW.size)); have C5 := Lib.hid (hb4.trans (b5.mono hb4.size))
    have T5 := Lib.hid (t0.below b5); have U5 := Lib.hid (t1.below b5); have V5 := Lib.hid (v0.below b5); have G5 := Lib.hid (ownV_of o5)
    have hlo : w4.heap.size ≤ W.heap.size := hb4.size
    generalize W.heap.size = glo at *
    generalize w5.heap.size = ghi at G5
    clear hbW hb4 t0 t1 v0 o5 b5
    have hlv := FV.out.1
    have HAt : Hid (∀ xo cx yo cy Y, DnAt Y xo d → AttrsAt Y yo l → Calls Try.prog 33 #[.agg #[.slice xo d.length cx, .slice yo l.length cy], .string nm] Y (GivesV Y (attrOfL d l nm))) :=
      Lib.hid (fun xo cx yo cy Y h1 h2 => AttrOf_any xo yo d l cx cy nm Y h1 h2 FD.out FL.out Hnm.out)
    generalize attrOfL d l nm = V at *
    go_wp2_with fail
    refine (eqStringS_same r0 q0 V c1 c0 w5 G5.out.strs V5.out.strs hlv).mono ?_
    rintro e w6 ⟨rfl, b6⟩
    have B6 := Lib.hid (B5.out.trans (b6.mono B5.out.size)); have C6 := Lib.hid (C5.out.trans (b6.mono C5.out.size))
    have T6 := Lib.hid (T5.out.below b6); have U6 := Lib.hid (U5.out.below b6); have V6 := Lib.hid (V5.out.below b6); have G6 := Lib.hid (G5.out.below b6)
    clear b6 B5 C5 T5 U5 V5 G5
    have SK : Hid (∀ Y : World, Below w6.heap.size w6 Y → (Below w6.heap.size w6 Y ∧ Y.cell? ⟨w.heap.size, 0, none⟩ = some (.slice ao d.length ca) ∧ Y.cell? ⟨w.heap.size, 1, none⟩ = some (.slice bo l.length cb) ∧ Y.cell? ⟨w4.heap.size, 0, none⟩ = some (.slice (some ⟨G, 0, none⟩) d.length d.length) ∧ Y.cell? ⟨w4.heap.size, 1, none⟩ = some (.slice (some ⟨g, 0, none⟩) l.length l.length))) :=
      Lib.hid (fun Y h => ⟨h, (T6.out.below h).cells.1.1, (T6.out.below h).cells.1.2, (U6.out.below h).cells.1.1, (U6.out.below h).cells.1.2⟩)
    have H29 : Hid (∀ Y, Below w6.heap.size w6 Y → Calls Try.prog 29 #[.agg #[.slice ao d.length ca, .slice bo l.length cb]] Y fun e w' => (∃ zo cz uo cu, e = .returned (.agg #[.slice zo d.length cz, .slice uo l.length cu]) ∧ DnAt w' zo d ∧ AttrsAt w' uo l) ∧ Below w6.heap.size w6 w') :=
      Lib.hid (fun Y h => (toEntry_any ao bo d l ca cb Y (HD.out.below (B6.out.trans (h.mono B6.out.size))) (HL.out.below (B6.out.trans (h.mono B6.out.size))) hdl FL.out).mono fun e w' ⟨v, h1, ⟨zo, cz, uo, cu, h2, h3, h4, _⟩, h5⟩ => ⟨⟨zo, cz, uo, cu, by rw [h1, h2], h3, h4⟩, h.trans (h5.mono h.size)⟩)
    have H31 : Hid (∀ Y zo cz uo cu, Below w6.heap.size w6 Y → DnAt Y zo d → AttrsAt Y uo l → Calls Try.prog 31 #[.agg #[.slice (some ⟨G, 0, none⟩) d.length d.length, .slice (some ⟨g, 0, none⟩) l.length l.length], .agg #[.slice zo d.length cz, .slice uo l.length cu]] Y fun e w' => e = .returned (.bool true) ∧ Below w6.heap.size w6 w') :=
      Lib.hid (fun Y zo cz uo cu h h3 h4 => (eqEntry_any (some ⟨G, 0, none⟩) (some ⟨g, 0, none⟩) zo uo d l d.length l.length cz cu Y (X5.out.1.below (C6.out.trans (h.mono C6.out.size))) (X5.out.2.below (C6.out.trans (h.mono C6.out.size))) h3 h4 hdl FL.out).mono fun _ _ g => ⟨g.1, h.trans (g.2.mono h.size)⟩)
    have hb0 : Below w6.heap.size w6 w6 := Below.refl _ _
    have hbd := hb0.drew
    go_wp2_with fail
    go_region_held3 (fun Y => Below w6.heap.size w6 Y ∧ Y.cell? ⟨w.heap.size, 0, none⟩ = some (.slice ao d.length ca) ∧ Y.cell? ⟨w.heap.size, 1, none⟩ = some (.slice bo l.length cb) ∧ Y.cell? ⟨w4.heap.size, 0, none⟩ = some (.slice (some ⟨G, 0, none⟩) d.length d.length) ∧ Y.cell? ⟨w4.heap.size, 1, none⟩ = some (.slice (some ⟨g, 0, none⟩) l.length l.length))
      (exact SK.out _ (by assumption))
      (first
        | (go_at_call 29; refine (H29.out _ (by assumption)).mono ?_; rintro e w7 ⟨⟨zo, cz, uo, cu, rfl, hz6, hu6⟩, hb7⟩; have Z7 := Lib.hid hz6; have W7 := Lib.hid hu6; clear hz6 hu6)
        | (go_at_call 31; refine (H31.out _ _ _ _ _ (by assumption) ?_ ?_).mono ?_; (focus (first | exact Z7.out | exact Z7.out.below ((Below.refl _ _).drew))); (focus (first | exact W7.out | exact W7.out.below ((Below.refl _ _).drew))); rintro e w8 ⟨rfl, hb8⟩)
        | (fail "none"))
    have B8 := Lib.hid (B6.out.trans (hb8.mono B6.out.size)); have C8 := Lib.hid (C6.out.trans (hb8.mono C6.out.size))
    have T8 := Lib.hid (T6.out.below hb8); have U8 := Lib.hid (U6.out.below hb8); have V8 := Lib.hid (V6.out.below hb8); have G8 := Lib.hid (G6.out.below hb8)
    clear SK H29 H31 hb0 hbd hb7 hb8 Z7 W7 B6 C6 T6 U6 V6 G6
    obtain ⟨⟨p0, p1⟩, _⟩ := U8.out.cells
    go_wp2_with fail
    refine (markEntry_any _ d l w3.heap.size w4.heap.size w8 w4 E4.out rfl C8.out HSz.out).mono ?_
    rintro e w9 ⟨⟨n9, hn9, rfl⟩, m9⟩
    have B9 := Lib.hid (m9.below B8.out (Nat.le_of_lt hwl))
    have T9 := Lib.hid (T8.out.mid m9 (.inl hwl)); have V9 := Lib.hid (V8.out.mid m9 (.inl (Nat.le_refl _))); have G9 := Lib.hid (G8.out.mid m9 (.inr hlo))
    clear m9 p0 p1 B8 C8 T8 U8 V8 G8
    have hp9 : ¬ (n9 : Int) < 0 := by omega
    go_wp2_with fail
    refine (eqStringS_same r0 q0 V c1 c0 w9 G9.out.strs V9.out.strs hlv).mono ?_
    rintro e w10 ⟨rfl, b10⟩
    have B10 := Lib.hid (B9.out.trans (b10.mono B9.out.size)); have T10 := Lib.hid (T9.out.below b10); have V10 := Lib.hid (V9.out.below b10); have G10 := Lib.hid (G9.out.below b10)
    clear b10 B9 T9 V9 G9
    go_wp2_with fail
    refine (markStringS_any _ V glo 1 w10 G10.out.1 hlv (by omega) (by omega)).mono ?_
    rintro e w11 ⟨rfl, o11, g11⟩
    have m11 := mid_of_mark G10.out g11
    have hL : (marksS 1 V.length).length = V.length := marksS_len 1 V.length
    have B11 := Lib.hid (m11.below B10.out (by omega))
    have T11 := Lib.hid (T10.out.mid m11 (.inl (by omega))); have V11 := Lib.hid (V10.out.mid m11 (.inl (by omega)))
    have G11 : Hid (OwnV w11 glo ghi (.slice r0 V.length c1) (marksS 1 V.length)) := Lib.hid ⟨o11, G10.out.2⟩
    clear m11 o11 g11 B10 T10 V10 G10
    have H37 : Hid (∀ Y, StrsAt Y r0 (marksS 1 V.length) → Calls Try.prog 37 #[.slice r0 V.length c1, .int .i64 ((1 : Nat) : Int)] Y fun e w' => e = .returned (.int .i64 ((1 + V.length : Nat) : Int)) ∧ Below Y.heap.size Y w') :=
      Lib.hid (fun Y h => heldStringS_any r0 V.length c1 1 Y h hlv (by omega) (by omega))
    have hq1 : ¬ ((1 + V.length : Nat) : Int) < 0 := by omega
    generalize ((1 + V.length : Nat) : Int) = Q at *
    have hq2 : (Q != Q) = false := by simp
    go_wp2_with fail
    refine (H37.out w11 G11.out.strs).mono ?_
    rintro e w12 ⟨rfl, b12⟩
    have B12 := Lib.hid (B11.out.trans (b12.mono B11.out.size)); have T12 := Lib.hid (T11.out.below b12); have V12 := Lib.hid (V11.out.below b12); have G12 := Lib.hid (G11.out.below b12)
    clear b12 B11 T11 V11 G11
    obtain ⟨⟨p0, p1⟩, _⟩ := T12.out.cells
    go_wp2_with fail
    refine (toEntry_any ao bo d l ca cb w12 (HD.out.below B12.out) (HL.out.below B12.out) hdl FL.out).mono ?_
    rintro e w13 ⟨v13, rfl, ⟨xo, cx, yo, cy, rfl, x13, y13, _, _⟩, b13⟩
    have B13 := Lib.hid (B12.out.trans (b13.mono B12.out.size)); have V13 := Lib.hid (V12.out.below b13); have G13 := Lib.hid (G12.out.below b13)
    have X13 := Lib.hid x13; have Y13 := Lib.hid y13
    clear b13 B12 T12 V12 G12 p0 p1 x13 y13
    go_wp2_with fail
    refine (HAt.out xo cx yo cy w13 X13.out Y13.out).mono ?_
    rintro e w14 ⟨⟨v14, rfl, o14⟩, b14⟩
    obtain ⟨s0, c2, rfl⟩ := own_slice o14
    have B14 := Lib.hid (B13.out.trans (b14.mono B13.out.size)); have V14 := Lib.hid (V13.out.below b14); have G14 := Lib.hid (G13.out.below b14); have O14 := Lib.hid (own_strs o14)
    clear b14 B13 V13 G13 X13 Y13 o14
    go_wp2_with fail
    refine (eqStringS_same s0 q0 V c2 c0 w14 O14.out V14.out.strs hlv).mono ?_
    rintro e w15 ⟨rfl, b15⟩
    have B15 := Lib.hid (B14.out.trans (b15.mono B14.out.size)); have G15 := Lib.hid (G14.out.below b15)
    clear b15 B14 V14 G14 O14
    go_wp2_with fail
    refine (H37.out w15 G15.out.strs).mono ?_
    rintro e w16 ⟨rfl, b16⟩
    have B16 := Lib.hid (B15.out.trans (b16.mono B15.out.size))
    clear b16
    go_wp2
    go_ret
    exact ⟨rfl, B16.out⟩
  · rw [leftR_neg hfit]
    clear hfit
    go_wp2
    go_ret
    exact ⟨rfl, b1⟩
end Go.Proofs.Ytjajpdghamecoaa
