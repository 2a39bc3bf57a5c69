/- For every list of pairs, the program's DnRight and the specification's return the same, and the argument reads as before, so the law FnExactDnRight returns true. No condition. -/
import Derived.Test.YtadbjpfgjkicaaaRows
import Derived.Test.YtadbjpfgjkicaaaOpen
import Derived.WalkKit
import Derived.ProofKit
import Derived.OpenShut
import Derived.ShutString
import Derived.ChangeOld
import Derived.Below
import Derived.Lib.SmallJoins
namespace Go.Proofs.Ytadbjpfgjkicaaa.fnExactDnRight
open Go.ChangeShapes Go.WideShapes Go.ChangeAt Go.RowKit Go.Joins
open Go.ChangeMaps (open_string shut_string)
set_option linter.unusedVariables false

theorem own : ownKnob Try.prog.godebug = none := by kernel_rfl
theorem laidOut : laidOutB Try.prog = true := by kernel_rfl
set_option maxHeartbeats 1000000 in
theorem walk (ao : Option Addr) (d : RdnL) (cap : Nat) (w : World) (hd : DnAt w ao d) (hf : Long d) (hc : d.length ≤ cap) (hn : ao = none → cap = 0) :
    Calls Try.prog 8 #[.slice ao d.length cap] w fun e w' => e = .returned (.bool true) ∧ Below w.heap.size w w' := by
  have HN := Lib.hid hn; clear hn
  go_enter Try.func8, Try.ntmps8
  go_wp2_with fail
  refine (szRdnS_any ao d cap 1048576 w hd hf (by omega) (by omega)).mono ?_
  rintro e w1 ⟨rfl, b1⟩
  by_cases hfit : ((d.length + sizeS d : Nat) : Int) ≤ 1048576
  · rw [leftR_pos hfit]
    have HF := Lib.hid (fits_of (d := d) (by omega))
    have hl : d.length ≤ 1048576 := by omega
    have h0 : ¬ (1048576 : Int) - ((d.length + sizeS d : Nat) : Int) < 0 := by omega
    generalize ((d.length + sizeS d : Nat) : Int) = t at *
    go_wp2_with fail
    refine (toRdnS_any ao d cap w1 (hd.below b1) hl).mono ?_
    rintro e w2 ⟨rfl, o2, b2⟩
    have B2 := b1.trans (b2.mono b1.size)
    go_wp2_with fail
    refine (SpecDnRight_any _ d _ _ (own_dn o2) HF.out).mono ?_
    rintro e w3 ⟨rfl, b3⟩
    have B3 := B2.trans (b3.mono B2.size)
    go_wp2_with fail
    refine (toRdnS_any ao d cap w3 (hd.below B3) hl).mono ?_
    rintro e w4 ⟨rfl, o4, b4⟩
    have B4 := B3.trans (b4.mono B3.size)
    go_wp2_with fail
    refine (DnRight_any _ d _ _ (own_dn o4) HF.out).mono ?_
    rintro e w5 ⟨rfl, b5⟩
    have B5 := B4.trans (b5.mono B4.size)
    have O5 := own_below o4 b5
    go_wp2_with fail
    refine (toRdnS_any ao d cap w5 (hd.below B5) hl).mono ?_
    rintro e w6 ⟨rfl, o6, b6⟩
    have B6 := B5.trans (b6.mono B5.size)
    have O6 := own_below O5 b6
    go_wp2_with fail
    refine (eqRdnS_same _ _ d _ _ _ (own_dn O6) (own_dn o6) hl).mono ?_
    rintro e w7 ⟨rfl, b7⟩
    go_wp2
    go_ret
    exact ⟨rfl, B6.trans (b7.mono B6.size)⟩
  · rw [leftR_neg hfit]
    clear hfit
    go_wp2
    go_ret
    exact ⟨rfl, b1⟩

set_option maxRecDepth 100000 in
theorem lifted (os : Os) (started : os.Started) (H : Type) (enc : TypeId × Value → H) :
    ReturnsInHanded {} Try.checked os 8 .any (Rows.fnExactDnRightSpec.pre6 enc Try.prog Try.f8 Rows.fnExactDnRightRow.domain false) (Rows.fnExactDnRightSpec.post enc Try.prog Try.f8 false true false false) := by
  refine returnsInHanded_of_change (C := Try.checked) own started (by kernel_rfl) Try.func8
    (ChangeSpec.witness6 (enc := enc) (C := Try.checked) false ⟨#[], #[.slice none 0 0], []⟩ 8 (by kernel_rfl) (by kernel_rfl) (by kernel_rfl) (by kernel_rfl)) ?_
  intro W base args ds gs before hval0 hW hcnd _
  have hval : ∀ (j : Nat) t v, Try.f8.params[j]? = some t → args[j]? = some v → Value.okWide Try.prog W .any base t v := hval0
  have hW' := hW
  obtain ⟨p, q, hA0, hV, rfl, hfz, hnd⟩ := hW
  have hA : DataW.TrodAll enc Try.prog W 0 (fun _ => true) true Try.f8.params.toList args.toList ds p := hA0
  rw [Try.params8] at hA hval
  obtain ⟨v0, vs0, d0, ds0, p0, q0, hargs, rfl, rfl, h0, r0⟩ := trodAll_cons hA
  obtain ⟨rfl, rfl, rfl⟩ := trodAll_nil r0
  obtain rfl : args = #[v0] := by cases args; simp_all
  obtain ⟨rfl, rfl⟩ := trodVars_none hV
  obtain ⟨a0, len0, cap0, rfl⟩ := okWide_slice Try.underlying45 (hval 0 45 v0 rfl rfl)
  have k0 := h0
  have lt0 : ∀ x ∈ p0, x.block < W.heap.size := by obtain ⟨m, hm⟩ := k0; exact DataW.trod_lt m _ _ _ hm
  obtain ⟨e0, rfl, w0, z0, y0, x0⟩ : ∃ e : RdnL, len0 = e.length ∧ DnAt W a0 e ∧ Long e ∧ len0 ≤ cap0 ∧ (a0 = none → cap0 = 0) := by
    obtain ⟨fuel, hf⟩ := h0
    exact open_dn (by simpa [Value.cells] using hf)
  clear hA0 hval0
  refine (walk a0 e0 cap0 W w0 z0 y0 x0).mono fun e W' ⟨he, bel⟩ => ?_
  subst he
  exact ⟨_, rfl, _, _, _, [], _, [], hW', trodAll_mk1 (shut_bool Try.underlying4 _), (trodAll_cons_mk (Below.trod laidOut (by kernel_rfl) (of_decide_eq_true (by kernel_rfl)) k0 bel lt0) trodAll_mk0), rfl, bel.frame _, fun h => by cases h⟩

theorem over : Rows.fnExactDnRightRow.holds Try.pinned (OpenSpec.ofChange Rows.fnExactDnRightSpec) :=
  OpenClaim.holds_of_wide 8 Try.f8 rfl rfl rfl rfl rfl rfl rfl ⟨rfl, rfl, rfl, rfl, rfl⟩ rfl rfl rfl rfl rfl (by kernel_rfl) Try.func8 (by kernel_rfl)
    (of_decide_eq_true (by kernel_rfl)) (by unfold Func.isWrapper; first | (rw [if_pos (by decide +kernel)]; kernel_rfl) | (rw [if_neg (by decide +kernel)]; exact ⟨rfl, rfl⟩))
    (fun os started H enc _ => lifted os started H enc)

theorem proved : Rows.FnExactDnRightSaid := over
#print axioms proved
end Go.Proofs.Ytadbjpfgjkicaaa.fnExactDnRight
