/- For every list of pairs, the program's DnParent and the specification's return the same list, in memory of its own, and the argument reads as before, so the law FnExactDnParent returns true. No condition. -/
import Derived.Test.YtadbjpfgjkicaaaRows
import Derived.Test.YtadbjpfgjkicaaaHeld
import Derived.WalkKit
import Derived.ProofKit
import Derived.OpenShut
import Derived.ShutString
import Derived.ChangeOld
import Derived.Below
import Derived.Lib.SmallJoins
namespace Go.Proofs.Ytadbjpfgjkicaaa.fnExactDnParent
open Go.ChangeShapes Go.WideShapes Go.ChangeAt Go.RowKit Go.Joins
open Go.ChangeMaps (open_string shut_string)
set_option linter.unusedVariables false

theorem own : ownKnob Try.prog.godebug = none := by kernel_rfl
theorem laidOut : laidOutB Try.prog = true := by kernel_rfl
theorem parent_len (d : RdnL) : (parentL d).length ≤ d.length := by
  unfold parentL; split <;> simp
set_option maxRecDepth 100000 in
set_option maxHeartbeats 2000000 in
theorem walk (ao : Option Addr) (d : RdnL) (cap : Nat) (w : World) (hd : DnAt w ao d) (hf : Long d) (hc : d.length ≤ cap) (hn : ao = none → cap = 0) :
    Calls Try.prog 14 #[.slice ao d.length cap] w fun e w' => e = .returned (.bool true) ∧ Below w.heap.size w w' := by
  clear hn
  have HD := Lib.hid hd; clear hd
  go_enter Try.func14, Try.ntmps14
  go_wp2_with fail
  refine (szRdnS_any ao d cap 1048576 w HD.out hf (by omega) (by omega)).mono ?_
  rintro e w1 ⟨rfl, b1⟩
  by_cases hfit : ((d.length + sizeS d : Nat) : Int) ≤ 1048576
  · rw [leftR_pos hfit]
    have HF := Lib.hid (fits_of (d := d) (by omega))
    have hl : d.length ≤ 1048576 := by omega
    have h0 : ¬ (1048576 : Int) - ((d.length + sizeS d : Nat) : Int) < 0 := by omega
    generalize ((d.length + sizeS d : Nat) : Int) = t at *
    have hpl : (parentL d).length ≤ 1048576 := Nat.le_trans (parent_len d) hl
    have hpos : ¬ (1 : Int) + 2 * (d.length : Int) < 0 := by omega
    go_wp2_with fail
    refine (toRdnS_any ao d cap w1 (HD.out.below b1) hl).mono ?_
    rintro e w2 ⟨rfl, o2, b2⟩
    have B2 := Lib.hid (b1.trans (b2.mono b1.size))
    have O2 := Lib.hid (own_of_copy o2)
    clear o2 b2
    go_wp2_with fail
    refine (SpecDnParent_any _ d _ _ (Nat.le_refl _) O2.out.dn HF.out).mono ?_
    rintro e w3 ⟨⟨v0, rfl, o3⟩, b3⟩
    obtain ⟨p0, c0, rfl⟩ := own_slice o3
    have B3 := Lib.hid (B2.out.trans (b3.mono B2.out.size))
    have V3 := Lib.hid (own_of_copy o3)
    clear o3 b3
    go_wp2_with fail
    refine (toRdnS_any ao d cap w3 (HD.out.below B3.out) hl).mono ?_
    rintro e w4 ⟨rfl, o4, b4⟩
    have B4 := Lib.hid (B3.out.trans (b4.mono B3.out.size))
    have V4 := Lib.hid (V3.out.below b4)
    have X4 := Lib.hid (own_of_copy o4)
    have L34 := Lib.hid b4.size
    clear o4 b4
    go_wp2_with fail
    refine (DnParent_any _ d _ _ (Nat.le_refl _) X4.out.dn HF.out).mono ?_
    rintro e w5 ⟨⟨v1, rfl, o5⟩, b5⟩
    obtain ⟨p1, c1, rfl⟩ := own_slice o5
    have B5 := Lib.hid (B4.out.trans (b5.mono B4.out.size))
    have V5 := Lib.hid (V4.out.below b5)
    have X5 := Lib.hid (X4.out.below b5)
    have G5 := Lib.hid (own_of_copy o5)
    clear o5 b5
    go_wp2_with fail
    refine (eqRdnS_same _ _ (parentL d) _ _ _ G5.out.dn V5.out.dn hpl).mono ?_
    rintro e w6 ⟨rfl, b6⟩
    have B6 := Lib.hid (B5.out.trans (b6.mono B5.out.size))
    have V6 := Lib.hid (V5.out.below b6)
    have X6 := Lib.hid (X5.out.below b6)
    have G6 := Lib.hid (G5.out.below b6)
    clear b6
    go_wp2_with fail
    refine (toRdnS_any ao d cap w6 (HD.out.below B6.out) hl).mono ?_
    rintro e w7 ⟨rfl, o7, b7⟩
    have B7 := Lib.hid (B6.out.trans (b7.mono B6.out.size))
    have V7 := Lib.hid (V6.out.below b7)
    have X7 := Lib.hid (X6.out.below b7)
    have G7 := Lib.hid (G6.out.below b7)
    have D7 := Lib.hid (own_dn o7)
    clear o7 b7
    go_wp2_with fail
    refine (eqRdnS_same _ _ d _ _ _ X7.out.dn D7.out hl).mono ?_
    rintro e w8 ⟨rfl, b8⟩
    have B8 := Lib.hid (B7.out.trans (b8.mono B7.out.size))
    have V8 := Lib.hid (V7.out.below b8)
    have X8 := Lib.hid (X7.out.below b8)
    have G8 := Lib.hid (G7.out.below b8)
    clear b8
    have s1 := b1.size
    have L3 : Hid (w.heap.size ≤ w3.heap.size) := Lib.hid B3.out.size
    have L4 : Hid (w.heap.size ≤ w4.heap.size) := Lib.hid B4.out.size
    go_wp2_with fail
    refine (markDn _ d _ _ 1 _ X8.out hl (by omega) (by omega)).mono ?_
    rintro e w9 ⟨rfl, o9, g9⟩
    have B9 := Lib.hid (below_mark B8.out X8.out g9 B8.out.size L3.out)
    have V9 := Lib.hid (V8.out.far X8.out g9 (.inl (Nat.le_refl _)))
    have G9 := Lib.hid (G8.out.far X8.out g9 (.inr (Nat.le_refl _)))
    clear o9 g9
    go_wp2_with fail
    refine (eqRdnS_same _ _ (parentL d) _ _ _ G9.out.dn V9.out.dn hpl).mono ?_
    rintro e w10 ⟨rfl, b10⟩
    have B10 := Lib.hid (B9.out.trans (b10.mono B9.out.size))
    have V10 := Lib.hid (V9.out.below b10)
    have G10 := Lib.hid (G9.out.below b10)
    clear b10
    go_wp2_with fail
    refine (markDn _ (parentL d) _ _ 1 _ G10.out hpl (by omega) (by omega)).mono ?_
    rintro e w11 ⟨rfl, o11, g11⟩
    have B11 := Lib.hid (below_mark B10.out G10.out g11 B10.out.size L4.out)
    have V11 := Lib.hid (V10.out.far G10.out g11 (.inl L34.out))
    have G11 := Lib.hid o11
    clear o11 g11
    go_wp2_with fail
    refine (heldDn p1 (parentL d) _ c1 1 _ _ _ G11.out rfl hpl (by omega) (by omega)).mono ?_
    rintro e w12 ⟨rfl, b12⟩
    have B12 := Lib.hid (B11.out.trans (b12.mono B11.out.size))
    have V12 := Lib.hid (V11.out.below b12)
    have G12 := Lib.hid (G11.out.below b12)
    clear b12
    have hpos2 : ¬ (1 : Int) + 2 * ((parentL d).length : Int) < 0 := by omega
    go_wp2_with fail
    refine (toRdnS_any ao d cap w12 (HD.out.below B12.out) hl).mono ?_
    rintro e w13 ⟨rfl, o13, b13⟩
    have B13 := Lib.hid (B12.out.trans (b13.mono B12.out.size))
    have V13 := Lib.hid (V12.out.below b13)
    have G13 := Lib.hid (G12.out.below b13)
    have D13 := Lib.hid (own_dn o13)
    clear o13 b13
    go_wp2_with fail
    refine (DnParent_any _ d _ _ (Nat.le_refl _) D13.out HF.out).mono ?_
    rintro e w14 ⟨⟨v2, rfl, o14⟩, b14⟩
    obtain ⟨p2, c2, rfl⟩ := own_slice o14
    have B14 := Lib.hid (B13.out.trans (b14.mono B13.out.size))
    have V14 := Lib.hid (V13.out.below b14)
    have G14 := Lib.hid (G13.out.below b14)
    have D14 := Lib.hid (own_dn o14)
    clear o14 b14
    go_wp2_with fail
    refine (eqRdnS_same _ _ (parentL d) _ _ _ D14.out V14.out.dn hpl).mono ?_
    rintro e w15 ⟨rfl, b15⟩
    have B15 := Lib.hid (B14.out.trans (b15.mono B14.out.size))
    have G15 := Lib.hid (G14.out.below b15)
    clear b15
    go_wp2_with fail
    refine (heldDn p1 (parentL d) _ c1 1 _ _ _ G15.out rfl hpl (by omega) (by omega)).mono ?_
    rintro e w16 ⟨rfl, b16⟩
    have B16 := Lib.hid (B15.out.trans (b16.mono B15.out.size))
    clear b16
    go_wp2
    go_ret
    exact ⟨rfl, B16.out⟩
  · rw [leftR_neg hfit]
    clear hfit
    go_wp2
    go_ret
    exact ⟨rfl, b1⟩

set_option maxRecDepth 100000 in
theorem lifted (os : Os) (started : os.Started) (H : Type) (enc : TypeId × Value → H) :
    ReturnsInHanded {} Try.checked os 14 .any (Rows.fnExactDnParentSpec.pre6 enc Try.prog Try.f14 Rows.fnExactDnParentRow.domain false) (Rows.fnExactDnParentSpec.post enc Try.prog Try.f14 false true false false) := by
  refine returnsInHanded_of_change (C := Try.checked) own started (by kernel_rfl) Try.func14
    (ChangeSpec.witness6 (enc := enc) (C := Try.checked) false ⟨#[], #[.slice none 0 0], []⟩ 8 (by kernel_rfl) (by kernel_rfl) (by kernel_rfl) (by kernel_rfl)) ?_
  intro W base args ds gs before hval0 hW hcnd _
  have hval : ∀ (j : Nat) t v, Try.f14.params[j]? = some t → args[j]? = some v → Value.okWide Try.prog W .any base t v := hval0
  have hW' := hW
  obtain ⟨p, q, hA0, hV, rfl, hfz, hnd⟩ := hW
  have hA : DataW.TrodAll enc Try.prog W 0 (fun _ => true) true Try.f14.params.toList args.toList ds p := hA0
  rw [Try.params14] at hA hval
  obtain ⟨v0, vs0, d0, ds0, p0, q0, hargs, rfl, rfl, h0, r0⟩ := trodAll_cons hA
  obtain ⟨rfl, rfl, rfl⟩ := trodAll_nil r0
  obtain rfl : args = #[v0] := by cases args; simp_all
  obtain ⟨rfl, rfl⟩ := trodVars_none hV
  obtain ⟨a0, len0, cap0, rfl⟩ := okWide_slice Try.underlying45 (hval 0 45 v0 rfl rfl)
  have k0 := h0
  have lt0 : ∀ x ∈ p0, x.block < W.heap.size := by obtain ⟨m, hm⟩ := k0; exact DataW.trod_lt m _ _ _ hm
  obtain ⟨e0, rfl, w0, z0, y0, x0⟩ : ∃ e : RdnL, len0 = e.length ∧ DnAt W a0 e ∧ Long e ∧ len0 ≤ cap0 ∧ (a0 = none → cap0 = 0) := by
    obtain ⟨fuel, hf⟩ := h0
    exact open_dn (by simpa [Value.cells] using hf)
  clear hA0 hval0
  refine (walk a0 e0 cap0 W w0 z0 y0 x0).mono fun e W' ⟨he, bel⟩ => ?_
  subst he
  exact ⟨_, rfl, _, _, _, [], _, [], hW', trodAll_mk1 (shut_bool Try.underlying4 _), (trodAll_cons_mk (Below.trod laidOut (by kernel_rfl) (of_decide_eq_true (by kernel_rfl)) k0 bel lt0) trodAll_mk0), rfl, bel.frame _, fun h => by cases h⟩

theorem over : Rows.fnExactDnParentRow.holds Try.pinned (OpenSpec.ofChange Rows.fnExactDnParentSpec) :=
  OpenClaim.holds_of_wide 14 Try.f14 rfl rfl rfl rfl rfl rfl rfl ⟨rfl, rfl, rfl, rfl, rfl⟩ rfl rfl rfl rfl rfl (by kernel_rfl) Try.func14 (by kernel_rfl)
    (of_decide_eq_true (by kernel_rfl)) (by unfold Func.isWrapper; first | (rw [if_pos (by decide +kernel)]; kernel_rfl) | (rw [if_neg (by decide +kernel)]; exact ⟨rfl, rfl⟩))
    (fun os started H enc _ => lifted os started H enc)

theorem proved : Rows.FnExactDnParentSaid := over
#print axioms proved
end Go.Proofs.Ytadbjpfgjkicaaa.fnExactDnParent
