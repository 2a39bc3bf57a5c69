/- The law FnDn: its walk. -/
import Derived.Test.YtjajpdghamecoaaDraw8
import Derived.Test.YtjajpdghamecoaaDraw5
import Derived.Test.YtjajpdghamecoaaFnJoinW
namespace Go.Proofs.Ytjajpdghamecoaa
open Go.RowKit
attribute [local go_sem ↓] Go.wp_at_zero Go.wp_at_succ

set_option maxRecDepth 100000 in
set_option maxHeartbeats 20000000 in
theorem FnDn_walk (a0 a1 : Option Addr) (len0 cap0 len1 cap1 : Nat) (w : World) (hR0 : Row w w.heap.size a0 len0) (hR1 : Row w w.heap.size a1 len1) (hl0 : len0 ≤ 1048576) (hl1 : len1 ≤ 1048576) :
    Calls Try.prog 3 #[.slice a0 len0 cap0, .slice a1 len1 cap1] w fun e w' => e = .returned (.bool true) ∧ Below w.heap.size w w' := by
  have R0 := Lib.hid hR0; have R1 := Lib.hid hR1; clear hR0 hR1
  go_enter Try.func3, Try.ntmps3
  go_wp2_with fail
  refine (DrawDnText_any a0 len0 cap0 w R0.out hl0).mono ?_
  rintro e w1 ⟨⟨u, d, rfl, hd, hsd, hod⟩, hg1⟩
  obtain ⟨xo, xc, rfl⟩ := own_slice hod
  have B1 := Lib.hid (below_of_grown hg1)
  have X1 := Lib.hid (own_dn hod)
  have FD := Lib.hid (show Fits d from ⟨by omega, fun r hr => ⟨by have := (hsd r hr).1; omega, by have := (hsd r hr).2; omega⟩⟩)
  clear hg1 hsd hod
  go_wp2_with fail
  refine (DnText_any xo d xc w1 X1.out FD.out).mono ?_
  rintro e w2 ⟨rfl, hb2⟩
  have B2 := Lib.hid (B1.out.trans (hb2.mono B1.out.size)); have X2 := Lib.hid (X1.out.below hb2)
  clear hb2 X1 B1
  have hts := dnText_short d
  have hM : (dnTextS d).size ≤ maxLen := by unfold maxLen; omega
  have HB := Lib.hid (@back d)
  have hkk : ((dnTextS d).toList == (dnTextS d).toList) = true := by simp
  have H12 : Hid (∀ W, Below w2.heap.size w2 W → Calls Try.prog 12 #[.slice xo d.length xc] W fun e w' => e = .returned (.string (dnTextS d)) ∧ Below w2.heap.size w2 w') :=
    Lib.hid (fun W h => (SpecDnText_any xo d xc W (X2.out.below h) FD.out).mono fun _ _ g => ⟨g.1, h.trans (g.2.mono h.size)⟩)
  have H13 : Hid (∀ W, Below w2.heap.size w2 W → Calls Try.prog 13 #[.slice xo d.length xc] W fun e w' => e = .returned (.bool (dnB d)) ∧ Below w2.heap.size w2 w') :=
    Lib.hid (fun W h => (DnRight_any xo d xc W (X2.out.below h) FD.out).mono fun _ _ g => ⟨g.1, h.trans (g.2.mono h.size)⟩)
  have H14 : Hid (∀ W, Below w2.heap.size w2 W → Calls Try.prog 14 #[.slice xo d.length xc] W fun e w' => e = .returned (.bool (dnB d)) ∧ Below w2.heap.size w2 w') :=
    Lib.hid (fun W h => (SpecDnRight_any xo d xc W (X2.out.below h) FD.out).mono fun _ _ g => ⟨g.1, h.trans (g.2.mono h.size)⟩)
  have H16 : Hid (∀ W, Below w2.heap.size w2 W → Calls Try.prog 16 #[.string (dnTextS d)] W fun e w' => OutDn w2 (readD (dnTextS d)) (readC (dnTextS d)) e w') :=
    Lib.hid (fun W h => (DnRead_any (dnTextS d) W hM).mono fun e w' g => GivesOut.dn g h)
  have hb0 : Below w2.heap.size w2 w2 := Below.refl _ _
  have hf1 := field33b
  have hf0 := field33a
  cases hrd : dnB d
  · rw [hrd] at H13 H14
    generalize dnTextS d = t at *
    go_wp2_with (first
      | (go_at_call 12; refine (H12.out _ hb0).mono ?_; rintro e w4 ⟨rfl, hb4⟩; clear hb0)
      | (go_at_call 13; refine (H13.out _ hb4).mono ?_; rintro e w5 ⟨rfl, hb5⟩; clear hb4)
      | (go_at_call 14; refine (H14.out _ hb5).mono ?_; rintro e w6 ⟨rfl, hb6⟩; clear hb5)
      | (go_at_call 14; refine (H14.out _ hb6).mono ?_; rintro e w7 ⟨rfl, hb7⟩; clear hb6)
      | (fail "none"))
    refine calls_any (fun W => Below w.heap.size w W) (B2.out.trans (hb7.mono B2.out.size)) ?_
    clear H12 H13 H14 H16 B2 X2 FD HB
    intro W hW
    have BW := Lib.hid hW
    refine (DrawDnRead_any a1 len1 cap1 W (R1.out.on (grown_of_below hW)) hl1).mono ?_
    rintro e w10 ⟨⟨s, rfl, hs⟩, hg10⟩
    have B10 := Lib.hid (hW.trans ((below_of_grown hg10).mono hW.size))
    clear hW hg10 BW
    have hsM : s.size ≤ maxLen := by unfold maxLen; omega
    go_wp2_with fail
    refine (DnRead_any s w10 hsM).mono ?_
    rintro e w11 g11
    obtain ⟨⟨po, pc, rfl, hp11⟩, hb11⟩ := GivesOut.dn g11 (Below.refl _ _)
    have B11 := Lib.hid (B10.out.trans (hb11.mono B10.out.size)); have P11 := Lib.hid hp11
    clear g11 hb11 hp11 B10
    go_wp2_with fail
    have H18' : Hid (∀ V0 U : World, Below V0.heap.size V0 U → Calls Try.prog 18 #[.string s] U fun e w' => OutDn V0 (readD s) (readC s) e w') :=
      Lib.hid (fun V0 U h => (SpecDnRead_any s U hsM).mono fun e w' g => GivesOut.dn g h)
    have hcode : readC s = 0 ∨ readC s = 2 ∨ readC s = 3 := by unfold readC; split; exact .inr (.inl rfl); split; exact .inl rfl; exact .inr (.inr rfl)
    have hT := @told s
    have hFt := read_fits s
    generalize readD s = D at *
    generalize readC s = c at *
    have HT := Lib.hid hT; have HFt := Lib.hid hFt
    have hl6 : D.length ≤ 6 := hFt.1
    clear hT hFt
    refine wp_world (fun W => Below w.heap.size w W ∧ OutAt W w11.heap.size (.slice po D.length pc) c ∧ DnAt W po D) ⟨more B11.out _, look_z1 w11 _, P11.out.below (more (Below.refl _ _) _)⟩ ?_
    generalize w11.heap.size = Rx
    clear P11 B11
    rintro V ⟨hbV, hoV, hpV⟩
    have BV := Lib.hid hbV; have PV := Lib.hid hpV; have OV := Lib.hid hoV
    clear hbV hoV hpV
    have SK : Hid (∀ U : World, Below V.heap.size V U → (Below V.heap.size V U ∧ U.cell? ⟨Rx, 0, none⟩ = some (.slice po D.length pc) ∧ U.cell? ⟨Rx, 1, none⟩ = some (.int .i64 c))) :=
      Lib.hid (fun U h => ⟨h, (OV.out.below h).cells.1, (OV.out.below h).cells.2⟩)
    have H18 := Lib.hid (H18'.out V)
    clear H18'
    have H11 : Hid (∀ U, Below V.heap.size V U → Calls Try.prog 11 #[.slice po D.length pc] U fun e w' => e = .returned (.string (dnTextS D)) ∧ Below V.heap.size V w') :=
      Lib.hid (fun U h => (DnText_any po D pc U (PV.out.below h) HFt.out.2).mono fun _ _ g => ⟨g.1, h.trans (g.2.mono h.size)⟩)
    have hbV : Below V.heap.size V V := Below.refl _ _
    have hbd := hbV.drew
    have hcc : (c == c) = true := by simp
    have hss : (s.toList == s.toList) = true := by simp
    rcases hcode with rfl | hc
    · rw [HT.out rfl] at H11
      go_region_held3 (fun U => Below V.heap.size V U ∧ U.cell? ⟨Rx, 0, none⟩ = some (.slice po D.length pc) ∧ U.cell? ⟨Rx, 1, none⟩ = some (.int .i64 0))
        (exact SK.out _ (by assumption))
        (first
          | (go_at_call 18; refine (H18.out _ (by assumption)).mono ?_; rintro e w12 ⟨⟨qo, qc, rfl, hq12⟩, hb12⟩; have Q12 := Lib.hid hq12; clear hq12)
          | (go_at_call 15; refine (lw_from V _ _ _ _ _ _ ?_ ?_ (by assumption) ?_).mono ?_; (focus (exact PV.out.below (by assumption))); (focus (first | exact Q12.out | exact Q12.out.below ((Below.refl _ _).drew))); (focus (omega)); rintro e w13 ⟨rfl, hb13⟩)
          | (go_at_call 11; refine (H11.out _ (by assumption)).mono ?_; rintro e w14 ⟨rfl, hb14⟩)
          | (fail "none"))
      all_goals
        go_wp2
        go_ret
        exact ⟨rfl, BV.out.trans (hb14.mono BV.out.size)⟩
    · rcases hc with rfl | rfl
      · obtain ⟨_, x0, x1⟩ := SK.out _ hbV
        obtain ⟨_, y0, y1⟩ := SK.out _ hbd
        first | (go_region_with (first | (go_at_call 18; refine (H18.out _ (by assumption)).mono ?_; rintro e w12 ⟨⟨qo, qc, rfl, hq12⟩, hb12⟩; have Q12 := Lib.hid hq12; clear hq12; obtain ⟨_, z0, z1⟩ := SK.out _ hb12) | (go_at_call 15; refine (lw_from V _ _ _ _ _ _ ?_ ?_ (by assumption) ?_).mono ?_; (focus (exact PV.out.below (by assumption))); (focus (first | exact Q12.out | exact Q12.out.below ((Below.refl _ _).drew))); (focus (omega)); rintro e w13 ⟨rfl, hb13⟩; obtain ⟨_, t0, t1⟩ := SK.out _ hb13) | (fail "none"))) | (fail "region")
        all_goals
          go_wp2
          go_ret
          exact ⟨rfl, BV.out.trans (hb13.mono BV.out.size)⟩
      · obtain ⟨_, x0, x1⟩ := SK.out _ hbV
        obtain ⟨_, y0, y1⟩ := SK.out _ hbd
        first | (go_region_with (first | (go_at_call 18; refine (H18.out _ (by assumption)).mono ?_; rintro e w12 ⟨⟨qo, qc, rfl, hq12⟩, hb12⟩; have Q12 := Lib.hid hq12; clear hq12; obtain ⟨_, z0, z1⟩ := SK.out _ hb12) | (go_at_call 15; refine (lw_from V _ _ _ _ _ _ ?_ ?_ (by assumption) ?_).mono ?_; (focus (exact PV.out.below (by assumption))); (focus (first | exact Q12.out | exact Q12.out.below ((Below.refl _ _).drew))); (focus (omega)); rintro e w13 ⟨rfl, hb13⟩; obtain ⟨_, t0, t1⟩ := SK.out _ hb13) | (fail "none"))) | (fail "region")
        all_goals
          go_wp2
          go_ret
          exact ⟨rfl, BV.out.trans (hb13.mono BV.out.size)⟩
  · obtain ⟨hc0, hd0⟩ := HB.out hrd
    rw [hrd] at H13 H14
    rw [hc0, hd0] at H16
    clear hc0 hd0 HB
    generalize dnTextS d = t at *
    go_wp2_with (first
      | (go_at_call 12; refine (H12.out _ hb0).mono ?_; rintro e w4 ⟨rfl, hb4⟩; clear hb0)
      | (go_at_call 13; refine (H13.out _ hb4).mono ?_; rintro e w5 ⟨rfl, hb5⟩; clear hb4)
      | (go_at_call 14; refine (H14.out _ hb5).mono ?_; rintro e w6 ⟨rfl, hb6⟩; clear hb5)
      | (go_at_call 14; refine (H14.out _ hb6).mono ?_; rintro e w7 ⟨rfl, hb7⟩; clear hb6)
      | (go_at_call 16; refine (H16.out _ hb7).mono ?_; rintro e w8 ⟨⟨vo, vc, rfl, hv8⟩, hb8⟩; have V8 := Lib.hid hv8; clear hv8 hb7)
      | (fail "none"))
    refine (lwDn_same vo xo d vc xc w8 V8.out (X2.out.below hb8) (by omega)).mono ?_
    rintro e w9 ⟨rfl, hb9⟩
    have B9 := Lib.hid (B2.out.trans ((hb8.trans (hb9.mono hb8.size)).mono B2.out.size))
    go_wp2_with fail
    refine calls_any (fun W => Below w.heap.size w W) B9.out ?_
    clear H12 H13 H14 H16 B2 X2 FD B9 V8
    intro W hW
    have BW := Lib.hid hW
    refine (DrawDnRead_any a1 len1 cap1 W (R1.out.on (grown_of_below hW)) hl1).mono ?_
    rintro e w10 ⟨⟨s, rfl, hs⟩, hg10⟩
    have B10 := Lib.hid (hW.trans ((below_of_grown hg10).mono hW.size))
    clear hW hg10 BW
    have hsM : s.size ≤ maxLen := by unfold maxLen; omega
    go_wp2_with fail
    refine (DnRead_any s w10 hsM).mono ?_
    rintro e w11 g11
    obtain ⟨⟨po, pc, rfl, hp11⟩, hb11⟩ := GivesOut.dn g11 (Below.refl _ _)
    have B11 := Lib.hid (B10.out.trans (hb11.mono B10.out.size)); have P11 := Lib.hid hp11
    clear g11 hb11 hp11 B10
    go_wp2_with fail
    have H18' : Hid (∀ V0 U : World, Below V0.heap.size V0 U → Calls Try.prog 18 #[.string s] U fun e w' => OutDn V0 (readD s) (readC s) e w') :=
      Lib.hid (fun V0 U h => (SpecDnRead_any s U hsM).mono fun e w' g => GivesOut.dn g h)
    have hcode : readC s = 0 ∨ readC s = 2 ∨ readC s = 3 := by unfold readC; split; exact .inr (.inl rfl); split; exact .inl rfl; exact .inr (.inr rfl)
    have hT := @told s
    have hFt := read_fits s
    generalize readD s = D at *
    generalize readC s = c at *
    have HT := Lib.hid hT; have HFt := Lib.hid hFt
    have hl6 : D.length ≤ 6 := hFt.1
    clear hT hFt
    refine wp_world (fun W => Below w.heap.size w W ∧ OutAt W w11.heap.size (.slice po D.length pc) c ∧ DnAt W po D) ⟨more B11.out _, look_z1 w11 _, P11.out.below (more (Below.refl _ _) _)⟩ ?_
    generalize w11.heap.size = Rx
    clear P11 B11
    rintro V ⟨hbV, hoV, hpV⟩
    have BV := Lib.hid hbV; have PV := Lib.hid hpV; have OV := Lib.hid hoV
    clear hbV hoV hpV
    have SK : Hid (∀ U : World, Below V.heap.size V U → (Below V.heap.size V U ∧ U.cell? ⟨Rx, 0, none⟩ = some (.slice po D.length pc) ∧ U.cell? ⟨Rx, 1, none⟩ = some (.int .i64 c))) :=
      Lib.hid (fun U h => ⟨h, (OV.out.below h).cells.1, (OV.out.below h).cells.2⟩)
    have H18 := Lib.hid (H18'.out V)
    clear H18'
    have H11 : Hid (∀ U, Below V.heap.size V U → Calls Try.prog 11 #[.slice po D.length pc] U fun e w' => e = .returned (.string (dnTextS D)) ∧ Below V.heap.size V w') :=
      Lib.hid (fun U h => (DnText_any po D pc U (PV.out.below h) HFt.out.2).mono fun _ _ g => ⟨g.1, h.trans (g.2.mono h.size)⟩)
    have hbV : Below V.heap.size V V := Below.refl _ _
    have hbd := hbV.drew
    have hcc : (c == c) = true := by simp
    have hss : (s.toList == s.toList) = true := by simp
    rcases hcode with rfl | hc
    · rw [HT.out rfl] at H11
      go_region_held3 (fun U => Below V.heap.size V U ∧ U.cell? ⟨Rx, 0, none⟩ = some (.slice po D.length pc) ∧ U.cell? ⟨Rx, 1, none⟩ = some (.int .i64 0))
        (exact SK.out _ (by assumption))
        (first
          | (go_at_call 18; refine (H18.out _ (by assumption)).mono ?_; rintro e w12 ⟨⟨qo, qc, rfl, hq12⟩, hb12⟩; have Q12 := Lib.hid hq12; clear hq12)
          | (go_at_call 15; refine (lw_from V _ _ _ _ _ _ ?_ ?_ (by assumption) ?_).mono ?_; (focus (exact PV.out.below (by assumption))); (focus (first | exact Q12.out | exact Q12.out.below ((Below.refl _ _).drew))); (focus (omega)); rintro e w13 ⟨rfl, hb13⟩)
          | (go_at_call 11; refine (H11.out _ (by assumption)).mono ?_; rintro e w14 ⟨rfl, hb14⟩)
          | (fail "none"))
      all_goals
        go_wp2
        go_ret
        exact ⟨rfl, BV.out.trans (hb14.mono BV.out.size)⟩
    · rcases hc with rfl | rfl
      · obtain ⟨_, x0, x1⟩ := SK.out _ hbV
        obtain ⟨_, y0, y1⟩ := SK.out _ hbd
        first | (go_region_with (first | (go_at_call 18; refine (H18.out _ (by assumption)).mono ?_; rintro e w12 ⟨⟨qo, qc, rfl, hq12⟩, hb12⟩; have Q12 := Lib.hid hq12; clear hq12; obtain ⟨_, z0, z1⟩ := SK.out _ hb12) | (go_at_call 15; refine (lw_from V _ _ _ _ _ _ ?_ ?_ (by assumption) ?_).mono ?_; (focus (exact PV.out.below (by assumption))); (focus (first | exact Q12.out | exact Q12.out.below ((Below.refl _ _).drew))); (focus (omega)); rintro e w13 ⟨rfl, hb13⟩; obtain ⟨_, t0, t1⟩ := SK.out _ hb13) | (fail "none"))) | (fail "region")
        all_goals
          go_wp2
          go_ret
          exact ⟨rfl, BV.out.trans (hb13.mono BV.out.size)⟩
      · obtain ⟨_, x0, x1⟩ := SK.out _ hbV
        obtain ⟨_, y0, y1⟩ := SK.out _ hbd
        first | (go_region_with (first | (go_at_call 18; refine (H18.out _ (by assumption)).mono ?_; rintro e w12 ⟨⟨qo, qc, rfl, hq12⟩, hb12⟩; have Q12 := Lib.hid hq12; clear hq12; obtain ⟨_, z0, z1⟩ := SK.out _ hb12) | (go_at_call 15; refine (lw_from V _ _ _ _ _ _ ?_ ?_ (by assumption) ?_).mono ?_; (focus (exact PV.out.below (by assumption))); (focus (first | exact Q12.out | exact Q12.out.below ((Below.refl _ _).drew))); (focus (omega)); rintro e w13 ⟨rfl, hb13⟩; obtain ⟨_, t0, t1⟩ := SK.out _ hb13) | (fail "none"))) | (fail "region")
        all_goals
          go_wp2
          go_ret
          exact ⟨rfl, BV.out.trans (hb13.mono BV.out.size)⟩
end Go.Proofs.Ytjajpdghamecoaa
