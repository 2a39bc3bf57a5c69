/- For every string, the program's BerIntRead and the specification's return the same in every field, so the law FnExactBerIntRead returns true. No condition. -/
import Derived.Test.YtohcdpoffpnfhaaRows
import Derived.Test.YtohcdpoffpnfhaaM2
import Derived.Test.YtohcdpoffpnfhaaM4
import Derived.Test.YtohcdpoffpnfhaaM1
import Derived.WalkKit
import Derived.ProofKit
import Derived.OpenShut
import Derived.ShutString
import Derived.ChangeOld
import Derived.Below
namespace Go.Proofs.Ytohcdpoffpnfhaa.fnExactBerIntRead
open Go.ChangeShapes Go.WideShapes Go.ChangeAt Go.RowKit
open Go.ChangeMaps (open_string shut_string)
set_option linter.unusedVariables false

theorem own : ownKnob Try.prog.godebug = none := by kernel_rfl

set_option maxHeartbeats 1000000 in
theorem walk (a0 : ByteArray) (w0 : a0.size ≤ maxLen) (w : World) :
    Calls Try.prog 7 #[.string a0] w fun e w' => e = .returned (.bool true) ∧ Below w.heap.size w w' := by
  have HS := Lib.hid (fun W => SpecBerIntRead_any a0 W w0)
  have HI := Lib.hid (fun W => BerIntRead_any a0 W w0)
  unfold numAgg at HS HI
  generalize rdV a0 = R at *
  obtain ⟨b0, b1, b2⟩ := R
  dsimp only at HS HI
  have hM0 := w0
  unfold maxLen at hM0
  by_cases big0 : 1048576 < a0.size
  · go_enter Try.func7, Try.ntmps7
    go_wp2
    go_ret
    exact ⟨rfl, Below.refl _ _⟩
  go_enter Try.func7, Try.ntmps7
  go_wp2_with fail
  refine (HS.out _).mono ?_
  rintro e w1 ⟨rfl, hb1⟩
  go_wp2_with fail
  refine calls_by (fun W => Below w.heap.size w W ∧ Blk W w1.heap.size [.int .i64 b0, .int .i64 b1, .int .i64 b2]) ⟨more' hb1 _, Blk.new _ _ _⟩ ?_
  rintro W2 ⟨c2, t2⟩
  have T2 := Lib.hid t2; clear t2 hb1
  refine (HI.out W2).mono ?_
  rintro e w3 ⟨rfl, hb3⟩
  have B3 := Lib.hid (c2.trans (hb3.mono c2.size)); have T3 := Lib.hid (T2.out.below hb3)
  clear hb3 c2 T2
  have m0 := (T3.out.alloc (.cells #[.int .i64 b0, .int .i64 b1, .int .i64 b2] 41)).cell 0 rfl
  have m1 := (T3.out.alloc (.cells #[.int .i64 b0, .int .i64 b1, .int .i64 b2] 41)).cell 1 rfl
  have m2 := (T3.out.alloc (.cells #[.int .i64 b0, .int .i64 b1, .int .i64 b2] 41)).cell 2 rfl
  go_wp2_with fail
  clear m0 m1 m2
  have B4 := more' B3.out (.cells #[.int .i64 b0, .int .i64 b1, .int .i64 b2] 41)
  refine (eqNumOut_at _ b0 b1 b2 _ (Below.refl _ _)).mono ?_
  rintro e w4 ⟨rfl, hb4⟩
  go_wp2
  go_ret
  exact ⟨rfl, B4.trans (hb4.mono B4.size)⟩

set_option maxRecDepth 100000 in
theorem lifted (os : Os) (started : os.Started) (H : Type) (enc : TypeId × Value → H) :
    ReturnsInHanded {} Try.checked os 7 .any (Rows.fnExactBerIntReadSpec.pre6 enc Try.prog Try.f7 Rows.fnExactBerIntReadRow.domain false) (Rows.fnExactBerIntReadSpec.post enc Try.prog Try.f7 false true false false) := by
  refine returnsInHanded_of_change (C := Try.checked) own started (by kernel_rfl) Try.func7
    (ChangeSpec.witness6 (enc := enc) (C := Try.checked) false ⟨#[], #[.string ByteArray.empty], []⟩ 8 (by kernel_rfl) (by kernel_rfl) (by kernel_rfl) (by kernel_rfl)) ?_
  intro W base args ds gs before hval0 hW hcnd _
  have hval : ∀ (j : Nat) t v, Try.f7.params[j]? = some t → args[j]? = some v → Value.okWide Try.prog W .any base t v := hval0
  have hW' := hW
  obtain ⟨p, q, hA0, hV, rfl, hfz, hnd⟩ := hW
  have hA : DataW.TrodAll enc Try.prog W 0 (fun _ => true) true Try.f7.params.toList args.toList ds p := hA0
  rw [Try.params7] at hA hval
  obtain ⟨v0, vs0, d0, ds0, p0, q0, hargs, rfl, rfl, h0, r0⟩ := trodAll_cons hA
  obtain ⟨rfl, rfl, rfl⟩ := trodAll_nil r0
  obtain rfl : args = #[v0] := by cases args; simp_all
  obtain ⟨rfl, rfl⟩ := trodVars_none hV
  obtain ⟨a0, rfl, rfl, rfl, w0⟩ := open_string Try.underlying9 (hval 0 9 v0 rfl rfl) h0
  clear hA0 hval0
  simp only [List.append_nil] at hW'
  refine (walk a0 w0 W).mono fun e W' ⟨he, bel⟩ => ?_
  subst he
  exact ⟨_, rfl, _, _, _, [], _, [], hW', (trodAll_cons_mk (shut_bool Try.underlying4 _) trodAll_mk0), (trodAll_cons_mk (shut_string Try.underlying9 w0) trodAll_mk0), rfl, bel.frame _, fun h => by cases h⟩

theorem over : Rows.fnExactBerIntReadRow.holds Try.pinned (OpenSpec.ofChange Rows.fnExactBerIntReadSpec) :=
  OpenClaim.holds_of_wide 7 Try.f7 rfl rfl rfl rfl rfl rfl rfl ⟨rfl, rfl, rfl, rfl, rfl⟩ rfl rfl rfl rfl rfl (by kernel_rfl) Try.func7 (by kernel_rfl)
    (of_decide_eq_true (by kernel_rfl)) (by unfold Func.isWrapper; first | (rw [if_pos (by decide +kernel)]; kernel_rfl) | (rw [if_neg (by decide +kernel)]; exact ⟨rfl, rfl⟩))
    (fun os started H enc _ => lifted os started H enc)

theorem proved : Rows.FnExactBerIntReadSaid :=
  over
#print axioms proved
end Go.Proofs.Ytohcdpoffpnfhaa.fnExactBerIntRead
