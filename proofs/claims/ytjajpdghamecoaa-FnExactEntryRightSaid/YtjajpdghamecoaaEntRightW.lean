/- The law FnExactEntryRight: its walk. -/
import Derived.Test.YtjajpdghamecoaaEntR4
import Derived.Test.YtjajpdghamecoaaEntOpen
namespace Go.Proofs.Ytjajpdghamecoaa
open Go.RowKit
attribute [local go_sem ↓] Go.wp_at_zero Go.wp_at_succ

theorem EntAt.below {w w' : World} {v : Value} {d : RdnL} {l : List AttrV} (h : EntAt w v d l) (hb : Below w.heap.size w w') : EntAt w' v d l := by
  obtain ⟨ao, ca, bo, cb, h1, h2, h3, h4⟩ := h
  exact ⟨ao, ca, bo, cb, h1, h2.below hb, h3.below hb, h4⟩
theorem fitsE {d : RdnL} {l : List AttrV} (h : sizeE d l ≤ 1048576) : Fits d ∧ FitsA l := by
  unfold sizeE at h
  exact ⟨fits_of (by omega), fitsA_of (by omega)⟩
theorem Right_ent (v : Value) (d : RdnL) (l : List AttrV) (w : World) (h : EntAt w v d l) (hfd : Fits d) (hfl : FitsA l) :
    Calls Try.prog 30 #[v] w fun e w' => e = .returned (.bool (rightB d l)) ∧ Below w.heap.size w w' := by
  obtain ⟨ao, ca, bo, cb, rfl, h2, h3, _, _⟩ := h
  exact EntryRight_any ao bo d l ca cb w h2 h3 hfd hfl
theorem SpecRight_ent (v : Value) (d : RdnL) (l : List AttrV) (w : World) (h : EntAt w v d l) (hfd : Fits d) (hfl : FitsA l) :
    Calls Try.prog 28 #[v] w fun e w' => e = .returned (.bool (rightB d l)) ∧ Below w.heap.size w w' := by
  obtain ⟨ao, ca, bo, cb, rfl, h2, h3, _, _⟩ := h
  exact SpecEntryRight_any ao bo d l ca cb w h2 h3 hfd hfl
theorem eqEntry_any (ao bo xo yo : Option Addr) (d : RdnL) (l : List AttrV) (ca cb cx cy : Nat) (w : World) (h1 : DnAt w ao d) (h2 : AttrsAt w bo l) (h3 : DnAt w xo d) (h4 : AttrsAt w yo l) (hd : d.length ≤ 1048576) (hf : FitsA l) :
    Calls Try.prog 31 #[.agg #[.slice ao d.length ca, .slice bo l.length cb], .agg #[.slice xo d.length cx, .slice yo l.length cy]] w fun e w' => e = .returned (.bool true) ∧ Below w.heap.size w w' :=
  eqEntry_at ao bo xo yo d l ca cb cx cy w h1 h2 h3 h4 hd hf
set_option maxRecDepth 100000 in
set_option maxHeartbeats 1000000 in
theorem FnExactEntryRight_walk (ao bo : Option Addr) (d : RdnL) (l : List AttrV) (ca cb : Nat) (w : World) (hd : DnAt w ao d) (hl : AttrsAt w bo l) (hfd : Long d) (hfl : LongA l) :
    Calls Try.prog 5 #[.agg #[.slice ao d.length ca, .slice bo l.length cb]] w fun e w' => e = .returned (.bool true) ∧ Below w.heap.size w w' := by
  have HD := Lib.hid hd; have HL := Lib.hid hl; have LD := Lib.hid hfd; have LL := Lib.hid hfl; clear hd hl hfd hfl
  go_enter Try.func5, Try.ntmps5
  have HB0 : Hid (Below w.heap.size w (w.alloc (.cells #[.slice ao d.length ca, .slice bo l.length cb] 38))) := Lib.hid (more (Below.refl _ _) _)
  have HT0 : Hid (Two (w.alloc (.cells #[.slice ao d.length ca, .slice bo l.length cb] 38)) w.heap.size 38 (.slice ao d.length ca) (.slice bo l.length cb)) := Lib.hid (twoNew w 38 _ _)
  go_wp2_with fail
  refine (szEntry_any ao bo d l ca cb 1048576 _ (HD.out.below HB0.out) (HL.out.below HB0.out) LD.out LL.out (by omega) (by omega)).mono ?_
  rintro e w1 ⟨rfl, b1'⟩
  have b1 := HB0.out.trans (b1'.mono HB0.out.size)
  have T1 := Lib.hid (HT0.out.below b1')
  obtain ⟨⟨p0, p1⟩, _⟩ := T1.out.cells
  clear b1'
  by_cases hfit : ((sizeE d l : Nat) : Int) ≤ 1048576
  · rw [leftR_pos hfit]
    obtain ⟨hfd, hfl⟩ := fitsE (d := d) (l := l) (by omega)
    have FD := Lib.hid hfd; have FL := Lib.hid hfl
    have hdl := hfd.1
    clear hfd hfl
    have h0 : ¬ (1048576 : Int) - ((sizeE d l : Nat) : Int) < 0 := by omega
    generalize ((sizeE d l : Nat) : Int) = t at *
    go_wp2_with fail
    refine (toEntry_any ao bo d l ca cb w1 (HD.out.below b1) (HL.out.below b1) hdl FL.out).mono ?_
    rintro e w2 ⟨v2, rfl, e2, b2⟩
    have B2 := Lib.hid (b1.trans (b2.mono b1.size))
    obtain ⟨⟨q0, q1⟩, _⟩ := (T1.out.below b2).cells
    have T2 := Lib.hid (T1.out.below b2)
    clear b2
    go_wp2_with fail
    refine (SpecRight_ent v2 d l w2 e2 FD.out FL.out).mono ?_
    rintro e w3 ⟨rfl, b3⟩
    have B3 := Lib.hid (B2.out.trans (b3.mono B2.out.size))
    have T3 := Lib.hid (T2.out.below b3)
    obtain ⟨⟨r0, r1⟩, _⟩ := T3.out.cells
    clear b3 e2
    go_wp2_with fail
    refine (toEntry_any ao bo d l ca cb w3 (HD.out.below B3.out) (HL.out.below B3.out) hdl FL.out).mono ?_
    rintro e w4 ⟨v4, rfl, e4, b4⟩
    have B4 := Lib.hid (B3.out.trans (b4.mono B3.out.size))
    have T4 := Lib.hid (T3.out.below b4)
    obtain ⟨xo, cx, yo, cy, rfl, x4, y4, _, _⟩ := e4
    have X4 := Lib.hid x4; have Y4 := Lib.hid y4
    clear b4 x4 y4
    go_wp2_with fail
    refine calls_any' (fun W => Below w.heap.size w W ∧ Two W w.heap.size 38 (.slice ao d.length ca) (.slice bo l.length cb) ∧ Two W w4.heap.size 43 (.slice xo d.length cx) (.slice yo l.length cy) ∧ DnAt W xo d ∧ AttrsAt W yo l) ⟨more B4.out _, T4.out.alloc _, twoNew w4 43 _ _, X4.out.below (more (Below.refl _ _) _), Y4.out.below (more (Below.refl _ _) _)⟩ ?_
    generalize w4.heap.size = G
    clear B4 T4 X4 Y4 T3 T2 T1 r0 r1 q0 q1 p0 p1
    rintro W ⟨hbW, t0, t1, x5, y5⟩
    refine (EntryRight_any xo yo d l cx cy W x5 y5 FD.out FL.out).mono ?_
    rintro e w5 ⟨rfl, b5⟩
    have B5 := Lib.hid (hbW.trans (b5.mono hbW.size))
    have T5 := Lib.hid (t0.below b5); have U5 := Lib.hid (t1.below b5); have X5 := Lib.hid (x5.below b5); have Y5 := Lib.hid (y5.below b5)
    obtain ⟨⟨p0, p1⟩, _⟩ := T5.out.cells
    obtain ⟨⟨q0, q1⟩, _⟩ := U5.out.cells
    clear hbW t0 t1 x5 y5 b5
    generalize rightB d l = r at *
    have hrr : (r != r) = false := by simp
    have SK : Hid (∀ V : World, Below w5.heap.size w5 V → (Below w5.heap.size w5 V ∧ V.cell? ⟨w.heap.size, 0, none⟩ = some (.slice ao d.length ca) ∧ V.cell? ⟨w.heap.size, 1, none⟩ = some (.slice bo l.length cb) ∧ V.cell? ⟨G, 0, none⟩ = some (.slice xo d.length cx) ∧ V.cell? ⟨G, 1, none⟩ = some (.slice yo l.length cy))) :=
      Lib.hid (fun V h => ⟨h, (T5.out.below h).cells.1.1, (T5.out.below h).cells.1.2, (U5.out.below h).cells.1.1, (U5.out.below h).cells.1.2⟩)
    have H29 : Hid (∀ V, Below w5.heap.size w5 V → Calls Try.prog 29 #[.agg #[.slice ao d.length ca, .slice bo l.length cb]] V fun e w' => (∃ zo cz uo cu, e = .returned (.agg #[.slice zo d.length cz, .slice uo l.length cu]) ∧ DnAt w' zo d ∧ AttrsAt w' uo l) ∧ Below w5.heap.size w5 w') :=
      Lib.hid (fun V h => (toEntry_any ao bo d l ca cb V (HD.out.below (B5.out.trans (h.mono B5.out.size))) (HL.out.below (B5.out.trans (h.mono B5.out.size))) hdl FL.out).mono fun e w' ⟨v, h1, ⟨zo, cz, uo, cu, h2, h3, h4, _⟩, h5⟩ => ⟨⟨zo, cz, uo, cu, by rw [h1, h2], h3, h4⟩, h.trans (h5.mono h.size)⟩)
    have H31 : Hid (∀ V zo cz uo cu, Below w5.heap.size w5 V → DnAt V zo d → AttrsAt V uo l → Calls Try.prog 31 #[.agg #[.slice xo d.length cx, .slice yo l.length cy], .agg #[.slice zo d.length cz, .slice uo l.length cu]] V fun e w' => e = .returned (.bool true) ∧ Below w5.heap.size w5 w') :=
      Lib.hid (fun V zo cz uo cu h h3 h4 => (eqEntry_any xo yo zo uo d l cx cy cz cu V (X5.out.below h) (Y5.out.below h) h3 h4 hdl FL.out).mono fun _ _ g => ⟨g.1, h.trans (g.2.mono h.size)⟩)
    have hb0 : Below w5.heap.size w5 w5 := Below.refl _ _
    have hbd := hb0.drew
    clear p0 p1 q0 q1
    go_wp2_with fail
    go_region_held3 (fun V => Below w5.heap.size w5 V ∧ V.cell? ⟨w.heap.size, 0, none⟩ = some (.slice ao d.length ca) ∧ V.cell? ⟨w.heap.size, 1, none⟩ = some (.slice bo l.length cb) ∧ V.cell? ⟨G, 0, none⟩ = some (.slice xo d.length cx) ∧ V.cell? ⟨G, 1, none⟩ = some (.slice yo l.length cy))
      (exact SK.out _ (by assumption))
      (first
        | (go_at_call 29; refine (H29.out _ (by assumption)).mono ?_; rintro e w6 ⟨⟨zo, cz, uo, cu, rfl, hz6, hu6⟩, hb6⟩; have Z6 := Lib.hid hz6; have V6 := Lib.hid hu6; clear hz6 hu6)
        | (go_at_call 31; refine (H31.out _ _ _ _ _ (by assumption) ?_ ?_).mono ?_; (focus (first | exact Z6.out | exact Z6.out.below ((Below.refl _ _).drew))); (focus (first | exact V6.out | exact V6.out.below ((Below.refl _ _).drew))); rintro e w7 ⟨rfl, hb7⟩)
        | (fail "none"))
    all_goals
      go_wp2
      go_ret
      exact ⟨rfl, B5.out.trans (hb7.mono B5.out.size)⟩
  · rw [leftR_neg hfit]
    clear hfit
    go_wp2
    go_ret
    exact ⟨rfl, b1⟩
end Go.Proofs.Ytjajpdghamecoaa
