/- Merged texts: EntS4. -/
import Derived.Test.YtjajpdghamecoaaM7
/- EntrySame: what the specification returns, and the law's walk. -/
namespace Go.Proofs.Ytjajpdghamecoaa
open Go.RowKit
attribute [local go_sem ↓] Go.wp_at_zero Go.wp_at_succ

set_option maxRecDepth 100000 in
set_option maxHeartbeats 1000000 in
theorem SpecEntrySame_any (ao bo xo yo : Option Addr) (d1 d2 : RdnL) (l1 l2 : List AttrV) (ca cb cx cy : Nat) (w : World) (h1 : DnAt w ao d1) (h2 : AttrsAt w bo l1) (h3 : DnAt w xo d2) (h4 : AttrsAt w yo l2) (f1 : Fits d1) (f2 : FitsA l1) (f3 : Fits d2) (f4 : FitsA l2) :
    Calls Try.prog 40 #[.agg #[.slice ao d1.length ca, .slice bo l1.length cb], .agg #[.slice xo d2.length cx, .slice yo l2.length cy]] w fun e w' => e = .returned (.bool (entB d1 l1 d2 l2)) ∧ Below w.heap.size w w' := by
  have H1 := Lib.hid h1; have H2 := Lib.hid h2; have H3 := Lib.hid h3; have H4 := Lib.hid h4; have F1 := Lib.hid f1; have F2 := Lib.hid f2; have F3 := Lib.hid f3; have F4 := Lib.hid f4
  clear h1 h2 h3 h4 f1 f2 f3 f4
  have HE := Lib.hid (entB_eq d1 l1 d2 l2)
  have HB0 : Hid (Below w.heap.size w ((w.alloc (.cells #[.slice ao d1.length ca, .slice bo l1.length cb] 43)).alloc (.cells #[.slice xo d2.length cx, .slice yo l2.length cy] 43))) := Lib.hid (more (more (Below.refl _ _) _) _)
  have HT0 : Hid (Two ((w.alloc (.cells #[.slice ao d1.length ca, .slice bo l1.length cb] 43)).alloc (.cells #[.slice xo d2.length cx, .slice yo l2.length cy] 43)) w.heap.size 43 (.slice ao d1.length ca) (.slice bo l1.length cb)) := Lib.hid ((twoNew w 43 _ _).alloc _)
  have HT1 : Hid (Two ((w.alloc (.cells #[.slice ao d1.length ca, .slice bo l1.length cb] 43)).alloc (.cells #[.slice xo d2.length cx, .slice yo l2.length cy] 43)) (w.heap.size + 1) 43 (.slice xo d2.length cx) (.slice yo l2.length cy)) := Lib.hid (twoNext w _ 43 _ _)
  go_enter Try.func40, Try.ntmps40
  go_wp2_with fail
  refine calls_any' (fun W => Below w.heap.size w W ∧ Two W w.heap.size 43 (.slice ao d1.length ca) (.slice bo l1.length cb) ∧ Two W (w.heap.size + 1) 43 (.slice xo d2.length cx) (.slice yo l2.length cy)) ⟨HB0.out, HT0.out, HT1.out⟩ ?_
  clear HB0 HT0 HT1
  rintro W ⟨hbW, t0, t1⟩
  refine (SpecEntryRight_any ao bo d1 l1 ca cb W (H1.out.below hbW) (H2.out.below hbW) F1.out F2.out).mono ?_
  rintro e w1 ⟨rfl, hb1⟩
  have B1 := Lib.hid (hbW.trans (hb1.mono hbW.size)); have T0 := Lib.hid (t0.below hb1); have T1 := Lib.hid (t1.below hb1)
  obtain ⟨⟨p0, p1⟩, _⟩ := T0.out.cells
  obtain ⟨⟨q0, q1⟩, _⟩ := T1.out.cells
  clear hbW hb1 t0 t1
  cases hr1 : rightB d1 l1
  · rw [hr1] at HE
    go_wp2
    go_ret
    exact ⟨ret_bool (by rw [HE.out]; rfl), B1.out⟩
  · rw [hr1] at HE
    go_wp2_with fail
    refine (SpecEntryRight_any xo yo d2 l2 cx cy w1 (H3.out.below B1.out) (H4.out.below B1.out) F3.out F4.out).mono ?_
    rintro e w2 ⟨rfl, hb2⟩
    have B2 := Lib.hid (B1.out.trans (hb2.mono B1.out.size)); have T2 := Lib.hid (T0.out.below hb2); have T3 := Lib.hid (T1.out.below hb2)
    obtain ⟨⟨r0, r1⟩, _⟩ := T2.out.cells
    obtain ⟨⟨s0, s1⟩, _⟩ := T3.out.cells
    clear hb2 p0 p1 q0 q1 T0 T1
    cases hr2 : rightB d2 l2
    · rw [hr2] at HE
      go_wp2
      go_ret
      exact ⟨ret_bool (by rw [HE.out]; rfl), B2.out⟩
    · rw [hr2] at HE
      have K1 := Lib.hid (right_dn hr1); have K2 := Lib.hid (right_dn hr2)
      clear hr1 hr2
      go_wp2_with fail
      refine (l03Same_any ao bo xo yo d1 d2 l1 l2 ca cb cx cy w2 (H1.out.below B2.out) (H2.out.below B2.out) (H3.out.below B2.out) (H4.out.below B2.out) F1.out F2.out F3.out F4.out K1.out K2.out).mono ?_
      rintro e w3 ⟨rfl, hb3⟩
      have B3 := Lib.hid (B2.out.trans (hb3.mono B2.out.size))
      clear hb3
      generalize (sameB d1 d2 && pairB attrEq l1 l2) = r at *
      go_wp2
      go_ret
      exact ⟨ret_bool (by rw [HE.out]; rfl), B3.out⟩
theorem SpecSame_ent (v u : Value) (d1 d2 : RdnL) (l1 l2 : List AttrV) (w : World) (h : EntAt w v d1 l1) (g : EntAt w u d2 l2) (f1 : Fits d1) (f2 : FitsA l1) (f3 : Fits d2) (f4 : FitsA l2) :
    Calls Try.prog 40 #[v, u] w fun e w' => e = .returned (.bool (entB d1 l1 d2 l2)) ∧ Below w.heap.size w w' := by
  obtain ⟨ao, ca, bo, cb, rfl, h2, h3, _, _⟩ := h
  obtain ⟨xo, cx, yo, cy, rfl, g2, g3, _, _⟩ := g
  exact SpecEntrySame_any ao bo xo yo d1 d2 l1 l2 ca cb cx cy w h2 h3 g2 g3 f1 f2 f3 f4
set_option maxRecDepth 100000 in
set_option maxHeartbeats 1000000 in
theorem FnExactEntrySame_walk (ao bo xo yo : Option Addr) (d1 d2 : RdnL) (l1 l2 : List AttrV) (ca cb cx cy : Nat) (w : World) (h1 : DnAt w ao d1) (h2 : AttrsAt w bo l1) (h3 : DnAt w xo d2) (h4 : AttrsAt w yo l2) (f1 : Long d1) (f2 : LongA l1) (f3 : Long d2) (f4 : LongA l2) :
    Calls Try.prog 8 #[.agg #[.slice ao d1.length ca, .slice bo l1.length cb], .agg #[.slice xo d2.length cx, .slice yo l2.length cy]] w fun e w' => e = .returned (.bool true) ∧ Below w.heap.size w w' := by
  have H1 := Lib.hid h1; have H2 := Lib.hid h2; have H3 := Lib.hid h3; have H4 := Lib.hid h4; have L1 := Lib.hid f1; have L2 := Lib.hid f2; have L3 := Lib.hid f3; have L4 := Lib.hid f4
  clear h1 h2 h3 h4 f1 f2 f3 f4
  have HB0 : Hid (Below w.heap.size w ((w.alloc (.cells #[.slice ao d1.length ca, .slice bo l1.length cb] 38)).alloc (.cells #[.slice xo d2.length cx, .slice yo l2.length cy] 38))) := Lib.hid (more (more (Below.refl _ _) _) _)
  have HT0 : Hid (Two ((w.alloc (.cells #[.slice ao d1.length ca, .slice bo l1.length cb] 38)).alloc (.cells #[.slice xo d2.length cx, .slice yo l2.length cy] 38)) w.heap.size 38 (.slice ao d1.length ca) (.slice bo l1.length cb)) := Lib.hid ((twoNew w 38 _ _).alloc _)
  have HT1 : Hid (Two ((w.alloc (.cells #[.slice ao d1.length ca, .slice bo l1.length cb] 38)).alloc (.cells #[.slice xo d2.length cx, .slice yo l2.length cy] 38)) (w.heap.size + 1) 38 (.slice xo d2.length cx) (.slice yo l2.length cy)) := Lib.hid (twoNext w _ 38 _ _)
  go_enter Try.func8, Try.ntmps8
  go_wp2_with fail
  refine calls_any' (fun W => Below w.heap.size w W ∧ Two W w.heap.size 38 (.slice ao d1.length ca) (.slice bo l1.length cb) ∧ Two W (w.heap.size + 1) 38 (.slice xo d2.length cx) (.slice yo l2.length cy)) ⟨HB0.out, HT0.out, HT1.out⟩ ?_
  clear HB0 HT0 HT1
  rintro W ⟨hbW, t0, t1⟩
  refine (szEntry_any ao bo d1 l1 ca cb 1048576 W (H1.out.below hbW) (H2.out.below hbW) L1.out L2.out (by omega) (by omega)).mono ?_
  rintro e w1 ⟨rfl, b1'⟩
  have B1 := Lib.hid (hbW.trans (b1'.mono hbW.size)); have T0 := Lib.hid (t0.below b1'); have T1 := Lib.hid (t1.below b1')
  obtain ⟨⟨p0, p1⟩, _⟩ := T0.out.cells
  obtain ⟨⟨q0, q1⟩, _⟩ := T1.out.cells
  clear hbW b1' t0 t1
  by_cases hfit : ((sizeE d1 l1 : Nat) : Int) ≤ 1048576
  · rw [leftR_pos hfit]
    obtain ⟨hfd, hfl⟩ := fitsE (d := d1) (l := l1) (by omega)
    have F1 := Lib.hid hfd; have F2 := Lib.hid hfl
    have hdl := hfd.1
    clear hfd hfl
    have h0 : ¬ (1048576 : Int) - ((sizeE d1 l1 : Nat) : Int) < 0 := by omega
    have h00 : (0 : Int) ≤ ((sizeE d1 l1 : Nat) : Int) := by omega
    generalize ((sizeE d1 l1 : Nat) : Int) = t at *
    go_wp2_with fail
    refine (szEntry_any xo yo d2 l2 cx cy (1048576 - t) w1 (H3.out.below B1.out) (H4.out.below B1.out) L3.out L4.out (by omega) (by omega)).mono ?_
    rintro e w2 ⟨rfl, b2'⟩
    have B2 := Lib.hid (B1.out.trans (b2'.mono B1.out.size)); have T2 := Lib.hid (T0.out.below b2'); have T3 := Lib.hid (T1.out.below b2')
    clear b2' p0 p1 q0 q1
    obtain ⟨⟨p0, p1⟩, _⟩ := T2.out.cells
    obtain ⟨⟨q0, q1⟩, _⟩ := T3.out.cells
    clear T0 T1 B1
    by_cases hfit2 : ((sizeE d2 l2 : Nat) : Int) ≤ 1048576 - t
    · rw [leftR_pos hfit2]
      obtain ⟨hfd, hfl⟩ := fitsE (d := d2) (l := l2) (by omega)
      have F3 := Lib.hid hfd; have F4 := Lib.hid hfl
      have hdl2 := hfd.1
      clear hfd hfl
      have h01 : ¬ (1048576 : Int) - t - ((sizeE d2 l2 : Nat) : Int) < 0 := by omega
      generalize ((sizeE d2 l2 : Nat) : Int) = t2 at *
      clear hfit hfit2 h00
      clear p0 p1 q0 q1
      have SK : Hid (∀ V : World, Below w2.heap.size w2 V → (Below w2.heap.size w2 V ∧ V.cell? ⟨w.heap.size, 0, none⟩ = some (.slice ao d1.length ca) ∧ V.cell? ⟨w.heap.size, 1, none⟩ = some (.slice bo l1.length cb) ∧ V.cell? ⟨w.heap.size + 1, 0, none⟩ = some (.slice xo d2.length cx) ∧ V.cell? ⟨w.heap.size + 1, 1, none⟩ = some (.slice yo l2.length cy))) :=
        Lib.hid (fun V h => ⟨h, (T2.out.below h).cells.1.1, (T2.out.below h).cells.1.2, (T3.out.below h).cells.1.1, (T3.out.below h).cells.1.2⟩)
      have HA : Hid (∀ V, Below w2.heap.size w2 V → Calls Try.prog 29 #[.agg #[.slice ao d1.length ca, .slice bo l1.length cb]] V fun e w' => (∃ v, e = .returned v ∧ EntAt w' v d1 l1) ∧ Below w2.heap.size w2 w' ∧ Below V.heap.size V w') :=
        Lib.hid (fun V h => (toEntry_any ao bo d1 l1 ca cb V (H1.out.below (B2.out.trans (h.mono B2.out.size))) (H2.out.below (B2.out.trans (h.mono B2.out.size))) hdl F2.out).mono fun e w' ⟨v, h1, h2, h3⟩ => ⟨⟨v, h1, h2⟩, h.trans (h3.mono h.size), h3⟩)
      have HC : Hid (∀ V, Below w2.heap.size w2 V → Calls Try.prog 29 #[.agg #[.slice xo d2.length cx, .slice yo l2.length cy]] V fun e w' => (∃ v, e = .returned v ∧ EntAt w' v d2 l2) ∧ Below w2.heap.size w2 w' ∧ Below V.heap.size V w') :=
        Lib.hid (fun V h => (toEntry_any xo yo d2 l2 cx cy V (H3.out.below (B2.out.trans (h.mono B2.out.size))) (H4.out.below (B2.out.trans (h.mono B2.out.size))) hdl2 F4.out).mono fun e w' ⟨v, h1, h2, h3⟩ => ⟨⟨v, h1, h2⟩, h.trans (h3.mono h.size), h3⟩)
      have H40 : Hid (∀ V v u, Below w2.heap.size w2 V → EntAt V v d1 l1 → EntAt V u d2 l2 → Calls Try.prog 40 #[v, u] V fun e w' => e = .returned (.bool (entB d1 l1 d2 l2)) ∧ Below w2.heap.size w2 w') :=
        Lib.hid (fun V v u h h1 h2 => (SpecSame_ent v u d1 d2 l1 l2 V h1 h2 F1.out F2.out F3.out F4.out).mono fun _ _ g => ⟨g.1, h.trans (g.2.mono h.size)⟩)
      have hb0 : Below w2.heap.size w2 w2 := Below.refl _ _
      have hbd := hb0.drew
      go_wp2_with fail
      go_region_held3 (fun V => Below w2.heap.size w2 V ∧ V.cell? ⟨w.heap.size, 0, none⟩ = some (.slice ao d1.length ca) ∧ V.cell? ⟨w.heap.size, 1, none⟩ = some (.slice bo l1.length cb) ∧ V.cell? ⟨w.heap.size + 1, 0, none⟩ = some (.slice xo d2.length cx) ∧ V.cell? ⟨w.heap.size + 1, 1, none⟩ = some (.slice yo l2.length cy))
        (exact SK.out _ (by assumption))
        (first
          | (go_at_call 29; (with_reducible refine (HA.out _ (by assumption)).mono ?_); rintro e w3 ⟨⟨v3, rfl, hv3⟩, hb3, hc3⟩; have E3 := Lib.hid hv3; clear hv3 hc3)
          | (go_at_call 29; (with_reducible refine (HC.out _ (by assumption)).mono ?_); rintro e w4 ⟨⟨v4, rfl, hv4⟩, hb4, hc4⟩; have E4 := Lib.hid hv4; have E34 := Lib.hid (E3.out.below hc4); clear hv4 hc4)
          | (go_at_call 40; refine (H40.out _ _ _ (by assumption) E34.out E4.out).mono ?_; rintro e w5 ⟨rfl, hb5⟩)
          | (fail "none"))
      have B5 := Lib.hid (B2.out.trans (hb5.mono B2.out.size)); have T4 := Lib.hid (T2.out.below hb5); have T5 := Lib.hid (T3.out.below hb5)
      clear SK HA HC H40 hb0 hbd hb3 hb4 hb5 E3 E4 E34 B2 T2 T3
      generalize hrg : entB d1 l1 d2 l2 = r at *
      have HRr := Lib.hid hrg; clear hrg
      obtain ⟨⟨p0, p1⟩, _⟩ := T4.out.cells
      go_wp2_with fail
      refine (toEntry_any ao bo d1 l1 ca cb w5 (H1.out.below B5.out) (H2.out.below B5.out) hdl F2.out).mono ?_
      rintro e w6 ⟨v6, rfl, ⟨mo, cm, no, cn, rfl, x6, y6, _, _⟩, b6⟩
      have B6 := Lib.hid (B5.out.trans (b6.mono B5.out.size)); have T6 := Lib.hid (T4.out.below b6); have T7 := Lib.hid (T5.out.below b6)
      have X6 := Lib.hid x6; have Y6 := Lib.hid y6
      clear b6 x6 y6 p0 p1 T4 T5 B5
      obtain ⟨⟨p0, p1⟩, _⟩ := (T7.out.alloc (.cells #[.slice mo d1.length cm, .slice no l1.length cn] 43)).cells
      go_wp2_with fail
      clear p0 p1
      refine calls_any' (fun W => Below w.heap.size w W ∧ Two W w.heap.size 38 (.slice ao d1.length ca) (.slice bo l1.length cb) ∧ Two W (w.heap.size + 1) 38 (.slice xo d2.length cx) (.slice yo l2.length cy) ∧ Two W w6.heap.size 43 (.slice mo d1.length cm) (.slice no l1.length cn) ∧ DnAt W mo d1 ∧ AttrsAt W no l1) ⟨more B6.out _, T6.out.alloc _, T7.out.alloc _, twoNew w6 43 _ _, X6.out.below (more (Below.refl _ _) _), Y6.out.below (more (Below.refl _ _) _)⟩ ?_
      generalize w6.heap.size = G1
      clear B6 T6 T7 X6 Y6
      rintro W6 ⟨hbW, t0, t1, t2, x6, y6⟩
      refine (toEntry_any xo yo d2 l2 cx cy W6 (H3.out.below hbW) (H4.out.below hbW) hdl2 F4.out).mono ?_
      rintro e w7 ⟨v7, rfl, ⟨io, ci, jo, cj, rfl, x7, y7, _, _⟩, b7⟩
      have B7 := Lib.hid (hbW.trans (b7.mono hbW.size)); have T6 := Lib.hid (t0.below b7); have T7 := Lib.hid (t1.below b7); have T8 := Lib.hid (t2.below b7)
      have X6 := Lib.hid (x6.below b7); have Y6 := Lib.hid (y6.below b7); have X7 := Lib.hid x7; have Y7 := Lib.hid y7
      clear hbW b7 t0 t1 t2 x6 y6 x7 y7
      obtain ⟨⟨p0, p1⟩, _⟩ := (T8.out.alloc (.cells #[.slice io d2.length ci, .slice jo l2.length cj] 43)).cells
      obtain ⟨⟨q0, q1⟩, _⟩ := (twoNew w7 43 (.slice io d2.length ci) (.slice jo l2.length cj)).cells
      go_wp2_with fail
      clear p0 p1 q0 q1
      refine calls_any' (fun W => Below w.heap.size w W ∧ Two W w.heap.size 38 (.slice ao d1.length ca) (.slice bo l1.length cb) ∧ Two W (w.heap.size + 1) 38 (.slice xo d2.length cx) (.slice yo l2.length cy) ∧ Two W G1 43 (.slice mo d1.length cm) (.slice no l1.length cn) ∧ Two W w7.heap.size 43 (.slice io d2.length ci) (.slice jo l2.length cj) ∧ DnAt W mo d1 ∧ AttrsAt W no l1 ∧ DnAt W io d2 ∧ AttrsAt W jo l2) ⟨more B7.out _, T6.out.alloc _, T7.out.alloc _, T8.out.alloc _, twoNew w7 43 _ _, X6.out.below (more (Below.refl _ _) _), Y6.out.below (more (Below.refl _ _) _), X7.out.below (more (Below.refl _ _) _), Y7.out.below (more (Below.refl _ _) _)⟩ ?_
      generalize w7.heap.size = G2
      clear B7 T6 T7 T8 X6 Y6 X7 Y7
      rintro W7 ⟨hbW, t0, t1, t2, t3, x6, y6, x7, y7⟩
      refine (EntrySame_any mo no io jo d1 d2 l1 l2 cm cn ci cj W7 x6 y6 x7 y7 F1.out F2.out F3.out F4.out).mono ?_
      rw [HRr.out]
      rintro e w8 ⟨rfl, b8⟩
      have B8 := Lib.hid (hbW.trans (b8.mono hbW.size)); have T6 := Lib.hid (t0.below b8); have T7 := Lib.hid (t1.below b8); have T8 := Lib.hid (t2.below b8); have T9 := Lib.hid (t3.below b8)
      have X6 := Lib.hid (x6.below b8); have Y6 := Lib.hid (y6.below b8); have X7 := Lib.hid (x7.below b8); have Y7 := Lib.hid (y7.below b8)
      clear hbW b8 t0 t1 t2 t3 x6 y6 x7 y7
      have hrr : (r != r) = false := by simp
      have SK : Hid (∀ V : World, Below w8.heap.size w8 V → (Below w8.heap.size w8 V ∧ V.cell? ⟨w.heap.size, 0, none⟩ = some (.slice ao d1.length ca) ∧ V.cell? ⟨w.heap.size, 1, none⟩ = some (.slice bo l1.length cb) ∧ V.cell? ⟨w.heap.size + 1, 0, none⟩ = some (.slice xo d2.length cx) ∧ V.cell? ⟨w.heap.size + 1, 1, none⟩ = some (.slice yo l2.length cy) ∧ V.cell? ⟨G1, 0, none⟩ = some (.slice mo d1.length cm) ∧ V.cell? ⟨G1, 1, none⟩ = some (.slice no l1.length cn) ∧ V.cell? ⟨G2, 0, none⟩ = some (.slice io d2.length ci) ∧ V.cell? ⟨G2, 1, none⟩ = some (.slice jo l2.length cj))) :=
        Lib.hid (fun V h => ⟨h, (T6.out.below h).cells.1.1, (T6.out.below h).cells.1.2, (T7.out.below h).cells.1.1, (T7.out.below h).cells.1.2, (T8.out.below h).cells.1.1, (T8.out.below h).cells.1.2, (T9.out.below h).cells.1.1, (T9.out.below h).cells.1.2⟩)
      have HA : Hid (∀ V, Below w8.heap.size w8 V → Calls Try.prog 29 #[.agg #[.slice ao d1.length ca, .slice bo l1.length cb]] V fun e w' => (∃ zo cz uo cu, e = .returned (.agg #[.slice zo d1.length cz, .slice uo l1.length cu]) ∧ DnAt w' zo d1 ∧ AttrsAt w' uo l1) ∧ Below w8.heap.size w8 w') :=
        Lib.hid (fun V h => (toEntry_any ao bo d1 l1 ca cb V (H1.out.below (B8.out.trans (h.mono B8.out.size))) (H2.out.below (B8.out.trans (h.mono B8.out.size))) hdl F2.out).mono fun e w' ⟨v, h1, ⟨zo, cz, uo, cu, h2, h3, h4, _⟩, h5⟩ => ⟨⟨zo, cz, uo, cu, by rw [h1, h2], h3, h4⟩, h.trans (h5.mono h.size)⟩)
      have HC : Hid (∀ V, Below w8.heap.size w8 V → Calls Try.prog 29 #[.agg #[.slice xo d2.length cx, .slice yo l2.length cy]] V fun e w' => (∃ zo cz uo cu, e = .returned (.agg #[.slice zo d2.length cz, .slice uo l2.length cu]) ∧ DnAt w' zo d2 ∧ AttrsAt w' uo l2) ∧ Below w8.heap.size w8 w') :=
        Lib.hid (fun V h => (toEntry_any xo yo d2 l2 cx cy V (H3.out.below (B8.out.trans (h.mono B8.out.size))) (H4.out.below (B8.out.trans (h.mono B8.out.size))) hdl2 F4.out).mono fun e w' ⟨v, h1, ⟨zo, cz, uo, cu, h2, h3, h4, _⟩, h5⟩ => ⟨⟨zo, cz, uo, cu, by rw [h1, h2], h3, h4⟩, h.trans (h5.mono h.size)⟩)
      have HE1 : Hid (∀ V zo cz uo cu, Below w8.heap.size w8 V → DnAt V zo d1 → AttrsAt V uo l1 → Calls Try.prog 31 #[.agg #[.slice mo d1.length cm, .slice no l1.length cn], .agg #[.slice zo d1.length cz, .slice uo l1.length cu]] V fun e w' => e = .returned (.bool true) ∧ Below w8.heap.size w8 w') :=
        Lib.hid (fun V zo cz uo cu h h3 h4 => (eqEntry_any mo no zo uo d1 l1 cm cn cz cu V (X6.out.below h) (Y6.out.below h) h3 h4 hdl F2.out).mono fun _ _ g => ⟨g.1, h.trans (g.2.mono h.size)⟩)
      have HE2 : Hid (∀ V zo cz uo cu, Below w8.heap.size w8 V → DnAt V zo d2 → AttrsAt V uo l2 → Calls Try.prog 31 #[.agg #[.slice io d2.length ci, .slice jo l2.length cj], .agg #[.slice zo d2.length cz, .slice uo l2.length cu]] V fun e w' => e = .returned (.bool true) ∧ Below w8.heap.size w8 w') :=
        Lib.hid (fun V zo cz uo cu h h3 h4 => (eqEntry_any io jo zo uo d2 l2 ci cj cz cu V (X7.out.below h) (Y7.out.below h) h3 h4 hdl2 F4.out).mono fun _ _ g => ⟨g.1, h.trans (g.2.mono h.size)⟩)
      have hb0 : Below w8.heap.size w8 w8 := Below.refl _ _
      have hbd := hb0.drew
      go_wp2_with fail
      go_region_held3 (fun V => Below w8.heap.size w8 V ∧ V.cell? ⟨w.heap.size, 0, none⟩ = some (.slice ao d1.length ca) ∧ V.cell? ⟨w.heap.size, 1, none⟩ = some (.slice bo l1.length cb) ∧ V.cell? ⟨w.heap.size + 1, 0, none⟩ = some (.slice xo d2.length cx) ∧ V.cell? ⟨w.heap.size + 1, 1, none⟩ = some (.slice yo l2.length cy) ∧ V.cell? ⟨G1, 0, none⟩ = some (.slice mo d1.length cm) ∧ V.cell? ⟨G1, 1, none⟩ = some (.slice no l1.length cn) ∧ V.cell? ⟨G2, 0, none⟩ = some (.slice io d2.length ci) ∧ V.cell? ⟨G2, 1, none⟩ = some (.slice jo l2.length cj))
        (exact SK.out _ (by assumption))
        (first
          | (go_at_call 29; refine (HA.out _ (by assumption)).mono ?_; rintro e w9 ⟨⟨zo, cz, uo, cu, rfl, hz6, hu6⟩, hb9⟩; have Z9 := Lib.hid hz6; have V9 := Lib.hid hu6; clear hz6 hu6)
          | (go_at_call 31; refine (HE1.out _ _ _ _ _ (by assumption) ?_ ?_).mono ?_; (focus (first | exact Z9.out | exact Z9.out.below ((Below.refl _ _).drew))); (focus (first | exact V9.out | exact V9.out.below ((Below.refl _ _).drew))); rintro e w10 ⟨rfl, hb10⟩)
          | (fail "none"))
      have hb10d := hb10.drew
      clear hb0 hbd hb9 Z9 V9
      go_wp2_with fail
      go_region_held3 (fun V => Below w8.heap.size w8 V ∧ V.cell? ⟨w.heap.size, 0, none⟩ = some (.slice ao d1.length ca) ∧ V.cell? ⟨w.heap.size, 1, none⟩ = some (.slice bo l1.length cb) ∧ V.cell? ⟨w.heap.size + 1, 0, none⟩ = some (.slice xo d2.length cx) ∧ V.cell? ⟨w.heap.size + 1, 1, none⟩ = some (.slice yo l2.length cy) ∧ V.cell? ⟨G1, 0, none⟩ = some (.slice mo d1.length cm) ∧ V.cell? ⟨G1, 1, none⟩ = some (.slice no l1.length cn) ∧ V.cell? ⟨G2, 0, none⟩ = some (.slice io d2.length ci) ∧ V.cell? ⟨G2, 1, none⟩ = some (.slice jo l2.length cj))
        (exact SK.out _ (by assumption))
        (first
          | (go_at_call 29; refine (HC.out _ (by assumption)).mono ?_; rintro e w11 ⟨⟨zo', cz', uo', cu', rfl, hz6, hu6⟩, hb11⟩; have Z9 := Lib.hid hz6; have V9 := Lib.hid hu6; clear hz6 hu6)
          | (go_at_call 31; refine (HE2.out _ _ _ _ _ (by assumption) ?_ ?_).mono ?_; (focus (first | exact Z9.out | exact Z9.out.below ((Below.refl _ _).drew))); (focus (first | exact V9.out | exact V9.out.below ((Below.refl _ _).drew))); rintro e w12 ⟨rfl, hb12⟩)
          | (fail "none"))
      all_goals
        go_wp2
        go_ret
        exact ⟨rfl, B8.out.trans (hb12.mono B8.out.size)⟩
    · rw [leftR_neg hfit2]
      clear hfit2
      go_wp2
      go_ret
      exact ⟨rfl, B2.out⟩
  · rw [leftR_neg hfit]
    clear hfit
    go_wp2
    go_ret
    exact ⟨rfl, B1.out⟩
end Go.Proofs.Ytjajpdghamecoaa
