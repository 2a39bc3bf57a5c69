/- The law FnUnder: its walk. -/
import Derived.Test.YtjajpdghamecoaaDraw7
import Derived.Test.YtjajpdghamecoaaUnderMath
namespace Go.Proofs.Ytjajpdghamecoaa
open Go.RowKit
attribute [local go_sem ↓] Go.wp_at_zero Go.wp_at_succ

set_option maxRecDepth 100000 in
set_option maxHeartbeats 2000000 in
theorem FnUnder_walk (a0 a1 : Option Addr) (len0 cap0 len1 cap1 : Nat) (w : World) (hR0 : Row w w.heap.size a0 len0) (hR1 : Row w w.heap.size a1 len1) (hl0 : len0 ≤ 1048576) (hl1 : len1 ≤ 1048576) :
    Calls Try.prog 4 #[.slice a0 len0 cap0, .slice a1 len1 cap1] w fun e w' => e = .returned (.bool true) ∧ Below w.heap.size w w' := by
  have R0 := Lib.hid hR0; have R1 := Lib.hid hR1; clear hR0 hR1
  go_enter Try.func4, Try.ntmps4
  go_wp2_with fail
  refine (DrawDnUnder_any a0 len0 cap0 w R0.out hl0).mono ?_
  rintro e w1 ⟨⟨u, v, d, p, rfl, hd, hp, hsd, hsp, hod, hop⟩, hg1⟩
  obtain ⟨xo, xc, rfl⟩ := own_slice hod
  obtain ⟨yo, yc, rfl⟩ := own_slice hop
  have B1 := Lib.hid (below_of_grown hg1)
  have X1 := Lib.hid (own_dn hod); have Y1 := Lib.hid (own_dn hop)
  have hxc : d.length ≤ xc := own_cap hod
  have FD := Lib.hid (hsd.fit hd); have FP := Lib.hid (hsp.fit hp)
  clear hg1 hsd hsp hod hop
  go_wp2_with fail
  refine (DrawDnSame_any a1 len1 cap1 w1 (R1.out.on (grown_of_below B1.out)) hl1).mono ?_
  rintro e w2 ⟨⟨u, v, a, b, rfl, ha, hb, hfa, hfb, hoa, hob⟩, hg2⟩
  obtain ⟨ao, ac, rfl⟩ := own_slice hoa
  obtain ⟨bo, bc, rfl⟩ := own_slice hob
  have hb2 := below_of_grown hg2
  have B2 := Lib.hid (B1.out.trans (hb2.mono B1.out.size))
  have X2 := Lib.hid (X1.out.below hb2); have Y2 := Lib.hid (Y1.out.below hb2); have A2 := Lib.hid (own_dn hoa); have C2 := Lib.hid (own_dn hob)
  have hac : a.length ≤ ac := own_cap hoa
  have hbc : b.length ≤ bc := own_cap hob
  have FA := Lib.hid hfa; have FB := Lib.hid hfb
  clear hg2 hb2 hoa hob X1 Y1 B1 hfa hfb
  go_wp2_with fail
  refine (DnSame_any ao bo a b ac bc w2 A2.out C2.out FA.out FB.out).mono ?_
  rintro e w3 ⟨rfl, hb3⟩
  have B3 := Lib.hid (B2.out.trans (hb3.mono B2.out.size)); have X3 := Lib.hid (X2.out.below hb3); have Y3 := Lib.hid (Y2.out.below hb3); have A3 := Lib.hid (A2.out.below hb3); have C3 := Lib.hid (C2.out.below hb3)
  clear hb3 X2 Y2 A2 C2 B2
  have H22 : Hid (∀ W, Below w3.heap.size w3 W → Calls Try.prog 22 #[.slice xo d.length xc, .slice yo p.length yc] W fun e w' => e = .returned (.bool (underB d p)) ∧ Below w3.heap.size w3 w') :=
    Lib.hid (fun W h => (DnUnder_any xo yo d p xc yc W hxc (X3.out.below h) (Y3.out.below h) FD.out FP.out).mono fun _ _ g => ⟨g.1, h.trans (g.2.mono h.size)⟩)
  have H23 : Hid (∀ W, Below w3.heap.size w3 W → Calls Try.prog 23 #[.slice xo d.length xc, .slice yo p.length yc] W fun e w' => e = .returned (.bool (underB d p)) ∧ Below w3.heap.size w3 w') :=
    Lib.hid (fun W h => (SpecDnUnder_any xo yo d p xc yc W hxc (X3.out.below h) (Y3.out.below h) FD.out FP.out).mono fun _ _ g => ⟨g.1, h.trans (g.2.mono h.size)⟩)
  have H24 : Hid (∀ W, Below w3.heap.size w3 W → Calls Try.prog 24 #[.slice ao a.length ac, .slice bo b.length bc] W fun e w' => e = .returned (.bool (dnSameB a b)) ∧ Below w3.heap.size w3 w') :=
    Lib.hid (fun W h => (SpecDnSame_any ao bo a b ac bc W (A3.out.below h) (C3.out.below h) FA.out FB.out).mono fun _ _ g => ⟨g.1, h.trans (g.2.mono h.size)⟩)
  have H25 : Hid (∀ W, Below w3.heap.size w3 W → Calls Try.prog 25 #[.slice ao a.length ac] W fun e w' => e = .returned (.string (dnKeyS a)) ∧ Below w3.heap.size w3 w') :=
    Lib.hid (fun W h => (DnKey_any ao a ac W (A3.out.below h) FA.out).mono fun _ _ g => ⟨g.1, h.trans (g.2.mono h.size)⟩)
  have H26 : Hid (∀ W, Below w3.heap.size w3 W → Calls Try.prog 26 #[.slice ao a.length ac] W fun e w' => e = .returned (.string (dnKeyS a)) ∧ Below w3.heap.size w3 w') :=
    Lib.hid (fun W h => (SpecDnKey_any ao a ac W (A3.out.below h) FA.out).mono fun _ _ g => ⟨g.1, h.trans (g.2.mono h.size)⟩)
  have H25b : Hid (∀ W, Below w3.heap.size w3 W → Calls Try.prog 25 #[.slice bo b.length bc] W fun e w' => e = .returned (.string (dnKeyS b)) ∧ Below w3.heap.size w3 w') :=
    Lib.hid (fun W h => (DnKey_any bo b bc W (C3.out.below h) FB.out).mono fun _ _ g => ⟨g.1, h.trans (g.2.mono h.size)⟩)
  have H14a : Hid (∀ W, Below w3.heap.size w3 W → Calls Try.prog 14 #[.slice ao a.length ac] W fun e w' => e = .returned (.bool (dnB a)) ∧ Below w3.heap.size w3 w') :=
    Lib.hid (fun W h => (SpecDnRight_any ao a ac W (A3.out.below h) FA.out).mono fun _ _ g => ⟨g.1, h.trans (g.2.mono h.size)⟩)
  have H14b : Hid (∀ W, Below w3.heap.size w3 W → Calls Try.prog 14 #[.slice bo b.length bc] W fun e w' => e = .returned (.bool (dnB b)) ∧ Below w3.heap.size w3 w') :=
    Lib.hid (fun W h => (SpecDnRight_any bo b bc W (C3.out.below h) FB.out).mono fun _ _ g => ⟨g.1, h.trans (g.2.mono h.size)⟩)
  have H14d : Hid (∀ W, Below w3.heap.size w3 W → Calls Try.prog 14 #[.slice xo d.length xc] W fun e w' => e = .returned (.bool (dnB d)) ∧ Below w3.heap.size w3 w') :=
    Lib.hid (fun W h => (SpecDnRight_any xo d xc W (X3.out.below h) FD.out).mono fun _ _ g => ⟨g.1, h.trans (g.2.mono h.size)⟩)
  have H22a : Hid (∀ W, Below w3.heap.size w3 W → Calls Try.prog 22 #[.slice ao a.length ac, .slice bo b.length bc] W fun e w' => e = .returned (.bool (underB a b)) ∧ Below w3.heap.size w3 w') :=
    Lib.hid (fun W h => (DnUnder_any ao bo a b ac bc W hac (A3.out.below h) (C3.out.below h) FA.out FB.out).mono fun _ _ g => ⟨g.1, h.trans (g.2.mono h.size)⟩)
  have H22b : Hid (∀ W, Below w3.heap.size w3 W → Calls Try.prog 22 #[.slice bo b.length bc, .slice ao a.length ac] W fun e w' => e = .returned (.bool (underB b a)) ∧ Below w3.heap.size w3 w') :=
    Lib.hid (fun W h => (DnUnder_any bo ao b a bc ac W hbc (C3.out.below h) (A3.out.below h) FB.out FA.out).mono fun _ _ g => ⟨g.1, h.trans (g.2.mono h.size)⟩)
  have hcut : Hid (dnB d = true → ∀ k : Nat, k ≤ d.length → ∃ zo, (∀ W : World, (Instr.slice 23 (.slice xo d.length xc) (some (.int .i64 (k : Int))) none none).run Try.prog W = .ok (.slice zo (d.length - k) (xc - k)) W) ∧
      (∀ W, Below w3.heap.size w3 W → Calls Try.prog 22 #[.slice xo d.length xc, .slice zo (d.length - k) (xc - k)] W fun e w' => e = .returned (.bool true) ∧ Below w3.heap.size w3 w')) := Lib.hid (by
    intro hrd k hk
    obtain ⟨zo, h1, h2⟩ := cut27 w3 xo d k xc hk hxc X3.out
    refine ⟨zo, h1, fun W h => ?_⟩
    have hfk : Fits (d.drop k) := ⟨by have := FD.out.1; rw [List.length_drop]; omega, fun r hr => FD.out.2 r (List.mem_of_mem_drop hr)⟩
    have := DnUnder_any xo zo d (d.drop k) xc (xc - k) W hxc (X3.out.below h) (h2.below h) FD.out hfk
    rw [under_drop hrd hk, List.length_drop] at this
    exact this.mono fun _ _ g => ⟨g.1, h.trans (g.2.mono h.size)⟩)
  have hb0 : Below w3.heap.size w3 w3 := Below.refl _ _
  have FINB : Hid (∀ W, Below w3.heap.size w3 W → Below w.heap.size w W) := Lib.hid (fun W h => B3.out.trans (h.mono B3.out.size))
  have HS : Hid ((dnB a = true → dnB b = true → dnSameB a b = sameB a b ∧ ((dnKeyS a).toList == (dnKeyS b).toList) = sameB a b ∧ sameB a b = (underB a b && underB b a))) :=
    Lib.hid (fun h1 h2 => ⟨by unfold dnSameB; rw [h1, h2]; rfl, key_two h1 h2, under_two h1 h2⟩)
  clear A3 C3 X3 Y3 B3 FA FB FD FP
  generalize underB d p = u at *
  have key : ∀ (ra rb s kk u1 u2 : Bool) , dnB a = ra → dnB b = rb → dnSameB a b = s → ((dnKeyS a).toList == (dnKeyS b).toList) = kk → underB a b = u1 → underB b a = u2 → True := fun _ _ _ _ _ _ _ _ _ _ _ _ => trivial
  clear key
  generalize hs : dnSameB a b = s at *
  generalize hka : dnKeyS a = ka at *
  generalize hkb : dnKeyS b = kb at *
  generalize hu1 : underB a b = u1 at *
  generalize hu2 : underB b a = u2 at *
  have hkk : (ka.toList == ka.toList) = true := by simp
  cases hra : dnB a
  all_goals cases hrb : dnB b
  all_goals rw [hra] at H14a
  all_goals rw [hrb] at H14b
  all_goals clear hs hka hkb hu1 hu2
  rotate_left 3
  · obtain ⟨e1, e2, e3⟩ := HS.out hra hrb
    rw [e3] at e1 e2
    subst e1
    clear HS e3
    cases u1
    all_goals cases u2
    all_goals simp only [Bool.and_true, Bool.and_false, Bool.true_and, Bool.false_and] at e2 H24 ⊢
    all_goals
      go_wp2_with (first
        | (go_at_call 22; refine (H22.out _ hb0).mono ?_; rintro e w4 ⟨rfl, hb4⟩; clear hb0)
        | (go_at_call 23; refine (H23.out _ hb4).mono ?_; rintro e w5 ⟨rfl, hb5⟩; clear hb4)
        | (go_at_call 24; refine (H24.out _ hb5).mono ?_; rintro e w6 ⟨rfl, hb6⟩; clear hb5)
        | (go_at_call 25; refine (H25.out _ hb6).mono ?_; rintro e w7 ⟨rfl, hb7⟩; clear hb6)
        | (go_at_call 26; refine (H26.out _ hb7).mono ?_; rintro e w8 ⟨rfl, hb8⟩; clear hb7)
        | (go_at_call 14; refine (H14a.out _ hb8).mono ?_; rintro e w9 ⟨rfl, hb9⟩; clear hb8)
        | (go_at_call 14; refine (H14b.out _ hb9).mono ?_; rintro e w10 ⟨rfl, hb10⟩; clear hb9)
        | (go_at_call 25; refine (H25.out _ hb10).mono ?_; rintro e w11 ⟨rfl, hb11⟩; clear hb10)
        | (go_at_call 25; refine (H25b.out _ hb11).mono ?_; rintro e w12 ⟨rfl, hb12⟩; clear hb11)
        | (go_at_call 22; refine (H22a.out _ hb12).mono ?_; rintro e w13 ⟨rfl, hb13⟩; clear hb12)
        | (go_at_call 22; refine (H22b.out _ hb13).mono ?_; rintro e w14 ⟨rfl, hb14⟩; clear hb13)
        | (fail "none"))
    all_goals
      clear H22 H23 H24 H25 H26 H25b H14a H14b H22a H22b
      go_loopw [10] (fun i wr => ∃ k : Nat, k ≤ d.length + 1 ∧ i = .int .i64 k ∧ Below w3.heap.size w3 wr) (fun i _ => d.length + 1 - (intOf i).toNat)
      case atStart => exact ⟨0, Nat.zero_le _, rfl, by assumption⟩
      case round =>
        obtain ⟨k, hk, rfl, hbel⟩ := hrel
        by_cases hlt : k ≤ d.length
        · have g1 : (k : Int) ≤ (d.length : Int) := by omega
          cases hrd : dnB d
          · rw [hrd] at H14d
            go_wp2_with (first | (go_at_call 14; refine (H14d.out _ hbel).mono ?_; rintro e w15 ⟨rfl, hb15⟩) | (fail "none"))
            go_ret
            exact ⟨rfl, FINB.out _ hb15⟩
          · obtain ⟨zo, h1, h2⟩ := hcut.out hrd k hlt
            have H2 := Lib.hid h2; clear h2
            rw [hrd] at H14d
            go_wp2_with (first | (go_at_call 14; refine (H14d.out _ hbel).mono ?_; rintro e w15 ⟨rfl, hb15⟩; clear hbel) | (go_at_call 22; refine (H2.out _ hb15).mono ?_; rintro e w16 ⟨rfl, hb16⟩) | (fail "none"))
            go_roundw
            case rel => exact ⟨k + 1, by omega, by go_num, hb16⟩
            case measure => simp [intOf]; omega
        · have g1 : ¬ (k : Int) ≤ (d.length : Int) := by omega
          go_wp2
          go_ret
          exact ⟨rfl, FINB.out _ hbel⟩
  all_goals
    clear HS
    go_wp2_with (first
      | (go_at_call 22; refine (H22.out _ hb0).mono ?_; rintro e w4 ⟨rfl, hb4⟩; clear hb0)
      | (go_at_call 23; refine (H23.out _ hb4).mono ?_; rintro e w5 ⟨rfl, hb5⟩; clear hb4)
      | (go_at_call 24; refine (H24.out _ hb5).mono ?_; rintro e w6 ⟨rfl, hb6⟩; clear hb5)
      | (go_at_call 25; refine (H25.out _ hb6).mono ?_; rintro e w7 ⟨rfl, hb7⟩; clear hb6)
      | (go_at_call 26; refine (H26.out _ hb7).mono ?_; rintro e w8 ⟨rfl, hb8⟩; clear hb7)
      | (go_at_call 14; refine (H14a.out _ hb8).mono ?_; rintro e w9 ⟨rfl, hb9⟩; clear hb8)
      | (go_at_call 14; refine (H14b.out _ hb9).mono ?_; rintro e w10 ⟨rfl, hb10⟩; clear hb9)
      | (fail "none"))
  all_goals
    clear H22 H23 H24 H25 H26 H25b H14a H14b H22a H22b
    go_loopw [10] (fun i wr => ∃ k : Nat, k ≤ d.length + 1 ∧ i = .int .i64 k ∧ Below w3.heap.size w3 wr) (fun i _ => d.length + 1 - (intOf i).toNat)
    case atStart => exact ⟨0, Nat.zero_le _, rfl, by assumption⟩
    case round =>
      obtain ⟨k, hk, rfl, hbel⟩ := hrel
      by_cases hlt : k ≤ d.length
      · have g1 : (k : Int) ≤ (d.length : Int) := by omega
        cases hrd : dnB d
        · rw [hrd] at H14d
          go_wp2_with (first | (go_at_call 14; refine (H14d.out _ hbel).mono ?_; rintro e w15 ⟨rfl, hb15⟩) | (fail "none"))
          go_ret
          exact ⟨rfl, FINB.out _ hb15⟩
        · obtain ⟨zo, h1, h2⟩ := hcut.out hrd k hlt
          have H2 := Lib.hid h2; clear h2
          rw [hrd] at H14d
          go_wp2_with (first | (go_at_call 14; refine (H14d.out _ hbel).mono ?_; rintro e w15 ⟨rfl, hb15⟩; clear hbel) | (go_at_call 22; refine (H2.out _ hb15).mono ?_; rintro e w16 ⟨rfl, hb16⟩) | (fail "none"))
          go_roundw
          case rel => exact ⟨k + 1, by omega, by go_num, hb16⟩
          case measure => simp [intOf]; omega
      · have g1 : ¬ (k : Int) ≤ (d.length : Int) := by omega
        go_wp2
        go_ret
        exact ⟨rfl, FINB.out _ hbel⟩
end Go.Proofs.Ytjajpdghamecoaa
