/- For every two lists of pairs, the program's DnUnder and the specification's return the same, and the arguments read as before, so the law FnExactDnUnder returns true. No condition. -/
import Derived.Test.YtadbjpfgjkicaaaRows
import Derived.Test.YtadbjpfgjkicaaaOpen
import Derived.WalkKit
import Derived.ProofKit
import Derived.OpenShut
import Derived.ShutString
import Derived.ChangeOld
import Derived.Below
import Derived.Lib.SmallJoins
namespace Go.Proofs.Ytadbjpfgjkicaaa.fnExactDnUnder
open Go.ChangeShapes Go.WideShapes Go.ChangeAt Go.RowKit Go.Joins
open Go.ChangeMaps (open_string shut_string)
set_option linter.unusedVariables false

theorem own : ownKnob Try.prog.godebug = none := by kernel_rfl
theorem laidOut : laidOutB Try.prog = true := by kernel_rfl
set_option maxHeartbeats 1000000 in
theorem walk (ao : Option Addr) (a : RdnL) (ca : Nat) (bo : Option Addr) (b : RdnL) (cb : Nat) (w : World) (hda : DnAt w ao a) (hla : Long a) (hca : a.length ≤ ca) (hna : ao = none → ca = 0) (hdb : DnAt w bo b) (hlb : Long b) (hcb : b.length ≤ cb) (hnb : bo = none → cb = 0) :
    Calls Try.prog 13 #[.slice ao a.length ca, .slice bo b.length cb] w fun e w' => e = .returned (.bool true) ∧ Below w.heap.size w w' := by
  have HNa := Lib.hid hna; have HNb := Lib.hid hnb; clear hna hnb
  go_enter Try.func13, Try.ntmps13
  go_wp2_with fail
  refine (szRdnS_any ao a ca 1048576 w hda hla (by omega) (by omega)).mono ?_
  rintro e w1 ⟨rfl, b1⟩
  by_cases hfit : ((a.length + sizeS a : Nat) : Int) ≤ 1048576
  · rw [leftR_pos hfit]
    have FA := Lib.hid (fits_of (d := a) (by omega))
    have ha : a.length ≤ 1048576 := by omega
    have h0 : ¬ (1048576 : Int) - ((a.length + sizeS a : Nat) : Int) < 0 := by omega
    have h1 : (1048576 : Int) - ((a.length + sizeS a : Nat) : Int) ≤ 1048576 := by omega
    generalize ((a.length + sizeS a : Nat) : Int) = t at *
    go_wp2_with fail
    refine (szRdnS_any bo b cb (1048576 - t) w1 (hdb.below b1) hlb (by omega) (by omega)).mono ?_
    rintro e w1b ⟨rfl, b1b⟩
    have B1 := b1.trans (b1b.mono b1.size)
    by_cases hfit2 : ((b.length + sizeS b : Nat) : Int) ≤ 1048576 - t
    · rw [leftR_pos hfit2]
      have FB := Lib.hid (fits_of (d := b) (by omega))
      have hb : b.length ≤ 1048576 := by omega
      have h2 : ¬ (1048576 : Int) - t - ((b.length + sizeS b : Nat) : Int) < 0 := by omega
      generalize ((b.length + sizeS b : Nat) : Int) = t2 at *
      go_wp2_with fail
      refine (toRdnS_any ao a ca w1b (hda.below B1) ha).mono ?_
      rintro e w2 ⟨rfl, o2, b2⟩
      have B2 := B1.trans (b2.mono B1.size)
      go_wp2_with fail
      refine (toRdnS_any bo b cb w2 (hdb.below B2) hb).mono ?_
      rintro e w3 ⟨rfl, o3, b3⟩
      have B3 := B2.trans (b3.mono B2.size)
      have O2 := own_below o2 b3
      go_wp2_with fail
      refine (SpecDnUnder_any _ _ a b _ _ _ (Nat.le_refl _) (own_dn O2) (own_dn o3) FA.out FB.out).mono ?_
      rintro e w4 ⟨rfl, b4⟩
      have B4 := B3.trans (b4.mono B3.size)
      go_wp2_with fail
      refine (toRdnS_any ao a ca w4 (hda.below B4) ha).mono ?_
      rintro e w5 ⟨rfl, o5, b5⟩
      have B5 := B4.trans (b5.mono B4.size)
      go_wp2_with fail
      refine (toRdnS_any bo b cb w5 (hdb.below B5) hb).mono ?_
      rintro e w6 ⟨rfl, o6, b6⟩
      have B6 := B5.trans (b6.mono B5.size)
      have O5 := own_below o5 b6
      go_wp2_with fail
      refine (DnUnder_any _ _ a b _ _ _ (Nat.le_refl _) (own_dn O5) (own_dn o6) FA.out FB.out).mono ?_
      rintro e w7 ⟨rfl, b7⟩
      have B7 := B6.trans (b7.mono B6.size)
      have O5b := own_below O5 b7
      have O6b := own_below o6 b7
      go_wp2_with fail
      refine (toRdnS_any ao a ca w7 (hda.below B7) ha).mono ?_
      rintro e w8 ⟨rfl, o8, b8⟩
      have B8 := B7.trans (b8.mono B7.size)
      have O5c := own_below O5b b8
      have O6c := own_below O6b b8
      go_wp2_with fail
      refine (eqRdnS_same _ _ a _ _ _ (own_dn O5c) (own_dn o8) ha).mono ?_
      rintro e w9 ⟨rfl, b9⟩
      have B9 := B8.trans (b9.mono B8.size)
      have O6d := own_below O6c b9
      go_wp2_with fail
      refine (toRdnS_any bo b cb w9 (hdb.below B9) hb).mono ?_
      rintro e w10 ⟨rfl, o10, b10⟩
      have B10 := B9.trans (b10.mono B9.size)
      have O6e := own_below O6d b10
      go_wp2_with fail
      refine (eqRdnS_same _ _ b _ _ _ (own_dn O6e) (own_dn o10) hb).mono ?_
      rintro e w11 ⟨rfl, b11⟩
      go_wp2
      go_ret
      exact ⟨rfl, B10.trans (b11.mono B10.size)⟩
    · rw [leftR_neg hfit2]
      clear hfit2
      go_wp2
      go_ret
      exact ⟨rfl, B1⟩
  · rw [leftR_neg hfit]
    clear hfit
    go_wp2
    go_ret
    exact ⟨rfl, b1⟩

set_option maxRecDepth 100000 in
theorem lifted (os : Os) (started : os.Started) (H : Type) (enc : TypeId × Value → H) :
    ReturnsInHanded {} Try.checked os 13 .any (Rows.fnExactDnUnderSpec.pre6 enc Try.prog Try.f13 Rows.fnExactDnUnderRow.domain false) (Rows.fnExactDnUnderSpec.post enc Try.prog Try.f13 false true false false) := by
  refine returnsInHanded_of_change (C := Try.checked) own started (by kernel_rfl) Try.func13
    (ChangeSpec.witness6 (enc := enc) (C := Try.checked) false ⟨#[], #[.slice none 0 0, .slice none 0 0], []⟩ 8 (by kernel_rfl) (by kernel_rfl) (by kernel_rfl) (by kernel_rfl)) ?_
  intro W base args ds gs before hval0 hW hcnd _
  have hval : ∀ (j : Nat) t v, Try.f13.params[j]? = some t → args[j]? = some v → Value.okWide Try.prog W .any base t v := hval0
  have hW' := hW
  obtain ⟨p, q, hA0, hV, rfl, hfz, hnd⟩ := hW
  have hA : DataW.TrodAll enc Try.prog W 0 (fun _ => true) true Try.f13.params.toList args.toList ds p := hA0
  rw [Try.params13] at hA hval
  obtain ⟨v0, vs0, d0, ds0, p0, q0, hargs, rfl, rfl, h0, r0⟩ := trodAll_cons hA
  obtain ⟨v1, vs1, d1, ds1, p1, q1, rfl, rfl, rfl, h1, r1⟩ := trodAll_cons r0
  obtain ⟨rfl, rfl, rfl⟩ := trodAll_nil r1
  obtain rfl : args = #[v0, v1] := by cases args; simp_all
  obtain ⟨rfl, rfl⟩ := trodVars_none hV
  obtain ⟨a0, len0, cap0, rfl⟩ := okWide_slice Try.underlying45 (hval 0 45 v0 rfl rfl)
  have k0 := h0
  have lt0 : ∀ x ∈ p0, x.block < W.heap.size := by obtain ⟨m, hm⟩ := k0; exact DataW.trod_lt m _ _ _ hm
  obtain ⟨e0, rfl, w0, z0, y0, x0⟩ : ∃ e : RdnL, len0 = e.length ∧ DnAt W a0 e ∧ Long e ∧ len0 ≤ cap0 ∧ (a0 = none → cap0 = 0) := by
    obtain ⟨fuel, hf⟩ := h0
    exact open_dn (by simpa [Value.cells] using hf)
  obtain ⟨a1, len1, cap1, rfl⟩ := okWide_slice Try.underlying45 (hval 1 45 v1 rfl rfl)
  have k1 := h1
  have lt1 : ∀ x ∈ p1, x.block < W.heap.size := by obtain ⟨m, hm⟩ := k1; exact DataW.trod_lt m _ _ _ hm
  obtain ⟨e1, rfl, w1, z1, y1, x1⟩ : ∃ e : RdnL, len1 = e.length ∧ DnAt W a1 e ∧ Long e ∧ len1 ≤ cap1 ∧ (a1 = none → cap1 = 0) := by
    obtain ⟨fuel, hf⟩ := h1
    exact open_dn (by simpa [Value.cells] using hf)
  clear hA0 hval0
  refine (walk a0 e0 cap0 a1 e1 cap1 W w0 z0 y0 x0 w1 z1 y1 x1).mono fun e W' ⟨he, bel⟩ => ?_
  subst he
  exact ⟨_, rfl, _, _, _, [], _, [], hW', trodAll_mk1 (shut_bool Try.underlying4 _), (trodAll_cons_mk (Below.trod laidOut (by kernel_rfl) (of_decide_eq_true (by kernel_rfl)) k0 bel lt0) (trodAll_cons_mk (Below.trod laidOut (by kernel_rfl) (of_decide_eq_true (by kernel_rfl)) k1 bel lt1) trodAll_mk0)), rfl, bel.frame _, fun h => by cases h⟩

theorem over : Rows.fnExactDnUnderRow.holds Try.pinned (OpenSpec.ofChange Rows.fnExactDnUnderSpec) :=
  OpenClaim.holds_of_wide 13 Try.f13 rfl rfl rfl rfl rfl rfl rfl ⟨rfl, rfl, rfl, rfl, rfl⟩ rfl rfl rfl rfl rfl (by kernel_rfl) Try.func13 (by kernel_rfl)
    (of_decide_eq_true (by kernel_rfl)) (by unfold Func.isWrapper; first | (rw [if_pos (by decide +kernel)]; kernel_rfl) | (rw [if_neg (by decide +kernel)]; exact ⟨rfl, rfl⟩))
    (fun os started H enc _ => lifted os started H enc)

theorem proved : Rows.FnExactDnUnderSaid := over
#print axioms proved
end Go.Proofs.Ytadbjpfgjkicaaa.fnExactDnUnder
