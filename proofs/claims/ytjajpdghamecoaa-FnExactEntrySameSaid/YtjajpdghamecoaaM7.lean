/- Merged texts: EntS2, EntHelp, EntS3, Open, EntEq, EntOpen, EntRightW. -/
import Derived.Test.YtjajpdghamecoaaM4
import Derived.Test.YtjajpdghamecoaaM6
import Derived.Test.YtjajpdghamecoaaM3
import Derived.Deep.SlicePairs
import Derived.OpenShut
import Derived.ProofKit
import Derived.SliceStrings
import Derived.Lib.SmallJoins
/- EntrySame: what the program and the specification return. -/
namespace Go.Proofs.Ytjajpdghamecoaa
open Go.RowKit
attribute [local go_sem ↓] Go.wp_at_zero Go.wp_at_succ

noncomputable def entB (d1 : RdnL) (l1 : List AttrV) (d2 : RdnL) (l2 : List AttrV) : Bool := rightB d1 l1 && rightB d2 l2 && (sameB d1 d2 && pairB attrEq l1 l2)
theorem entB_eq (d1 : RdnL) (l1 : List AttrV) (d2 : RdnL) (l2 : List AttrV) : entB d1 l1 d2 l2 = (rightB d1 l1 && rightB d2 l2 && (sameB d1 d2 && pairB attrEq l1 l2)) := rfl
theorem right_dn {d : RdnL} {l : List AttrV} (h : rightB d l = true) : dnB d = true := by
  unfold rightB at h; simp only [Bool.and_eq_true] at h; exact h.1.1
theorem same_right {d1 d2 : RdnL} {l1 l2 : List AttrV} (h1 : rightB d1 l1 = true) (h2 : rightB d2 l2 = true) : dnSameB d1 d2 = sameB d1 d2 := by
  unfold dnSameB; rw [right_dn h1, right_dn h2]; rfl
set_option maxRecDepth 100000 in
set_option maxHeartbeats 1000000 in
theorem EntrySame_any (ao bo xo yo : Option Addr) (d1 d2 : RdnL) (l1 l2 : List AttrV) (ca cb cx cy : Nat) (w : World) (h1 : DnAt w ao d1) (h2 : AttrsAt w bo l1) (h3 : DnAt w xo d2) (h4 : AttrsAt w yo l2) (f1 : Fits d1) (f2 : FitsA l1) (f3 : Fits d2) (f4 : FitsA l2) :
    Calls Try.prog 41 #[.agg #[.slice ao d1.length ca, .slice bo l1.length cb], .agg #[.slice xo d2.length cx, .slice yo l2.length cy]] w fun e w' => e = .returned (.bool (entB d1 l1 d2 l2)) ∧ Below w.heap.size w w' := by
  have H1 := Lib.hid h1; have H2 := Lib.hid h2; have H3 := Lib.hid h3; have H4 := Lib.hid h4; have F1 := Lib.hid f1; have F2 := Lib.hid f2; have F3 := Lib.hid f3; have F4 := Lib.hid f4
  clear h1 h2 h3 h4 f1 f2 f3 f4
  have HE := Lib.hid (entB_eq d1 l1 d2 l2)
  have HS := Lib.hid (@same_right d1 d2 l1 l2)
  have HB0 : Hid (Below w.heap.size w ((w.alloc (.cells #[.slice ao d1.length ca, .slice bo l1.length cb] 43)).alloc (.cells #[.slice xo d2.length cx, .slice yo l2.length cy] 43))) := Lib.hid (more (more (Below.refl _ _) _) _)
  have HT0 : Hid (Two ((w.alloc (.cells #[.slice ao d1.length ca, .slice bo l1.length cb] 43)).alloc (.cells #[.slice xo d2.length cx, .slice yo l2.length cy] 43)) w.heap.size 43 (.slice ao d1.length ca) (.slice bo l1.length cb)) := Lib.hid ((twoNew w 43 _ _).alloc _)
  have HT1 : Hid (Two ((w.alloc (.cells #[.slice ao d1.length ca, .slice bo l1.length cb] 43)).alloc (.cells #[.slice xo d2.length cx, .slice yo l2.length cy] 43)) (w.heap.size + 1) 43 (.slice xo d2.length cx) (.slice yo l2.length cy)) := Lib.hid (by have := twoNew (w.alloc (.cells #[.slice ao d1.length ca, .slice bo l1.length cb] 43)) 43 (.slice xo d2.length cx) (.slice yo l2.length cy); simpa using this)
  go_enter Try.func41, Try.ntmps41
  go_wp2_with fail
  refine calls_any' (fun W => Below w.heap.size w W ∧ Two W w.heap.size 43 (.slice ao d1.length ca) (.slice bo l1.length cb) ∧ Two W (w.heap.size + 1) 43 (.slice xo d2.length cx) (.slice yo l2.length cy)) ⟨HB0.out, HT0.out, HT1.out⟩ ?_
  clear HB0 HT0 HT1
  rintro W ⟨hbW, t0, t1⟩
  refine (EntryRight_any ao bo d1 l1 ca cb W (H1.out.below hbW) (H2.out.below hbW) F1.out F2.out).mono ?_
  rintro e w1 ⟨rfl, hb1⟩
  have B1 := Lib.hid (hbW.trans (hb1.mono hbW.size)); have T0 := Lib.hid (t0.below hb1); have T1 := Lib.hid (t1.below hb1)
  obtain ⟨⟨p0, p1⟩, _⟩ := T0.out.cells
  obtain ⟨⟨q0, q1⟩, _⟩ := T1.out.cells
  clear hbW hb1 t0 t1
  cases hr1 : rightB d1 l1
  · rw [hr1] at HE
    go_wp2
    go_ret
    exact ⟨ret_bool (by rw [HE.out]; rfl), B1.out⟩
  · rw [hr1] at HE
    go_wp2_with fail
    refine (EntryRight_any xo yo d2 l2 cx cy w1 (H3.out.below B1.out) (H4.out.below B1.out) F3.out F4.out).mono ?_
    rintro e w2 ⟨rfl, hb2⟩
    have B2 := Lib.hid (B1.out.trans (hb2.mono B1.out.size)); have T2 := Lib.hid (T0.out.below hb2); have T3 := Lib.hid (T1.out.below hb2)
    obtain ⟨⟨r0, r1⟩, _⟩ := T2.out.cells
    obtain ⟨⟨s0, s1⟩, _⟩ := T3.out.cells
    clear hb2 p0 p1 q0 q1 T0 T1
    cases hr2 : rightB d2 l2
    · rw [hr2] at HE
      go_wp2
      go_ret
      exact ⟨ret_bool (by rw [HE.out]; rfl), B2.out⟩
    · rw [hr2] at HE
      have HS' := Lib.hid (HS.out hr1 hr2)
      go_wp2_with fail
      refine (DnSame_any ao xo d1 d2 ca cx w2 (H1.out.below B2.out) (H3.out.below B2.out) F1.out F3.out).mono ?_
      rw [HS'.out]
      rintro e w3 ⟨rfl, hb3⟩
      have B3 := Lib.hid (B2.out.trans (hb3.mono B2.out.size)); have T4 := Lib.hid (T2.out.below hb3); have T5 := Lib.hid (T3.out.below hb3)
      obtain ⟨⟨m0, m1⟩, _⟩ := T4.out.cells
      obtain ⟨⟨n0, n1⟩, _⟩ := T5.out.cells
      clear hb3 r0 r1 s0 s1 T2 T3
      cases hs : sameB d1 d2
      · rw [hs] at HE
        go_wp2
        go_ret
        exact ⟨ret_bool (by rw [HE.out]; rfl), B3.out⟩
      · rw [hs] at HE
        go_wp2_with fail
        refine (eqAttrs_any bo yo l1 l2 cb cy w3 (H2.out.below B3.out) (H4.out.below B3.out) F2.out F4.out).mono ?_
        rintro e w4 ⟨rfl, hb4⟩
        have B4 := Lib.hid (B3.out.trans (hb4.mono B3.out.size))
        clear hb4
        generalize pairB attrEq l1 l2 = r at *
        go_wp2
        go_ret
        exact ⟨ret_bool (by rw [HE.out]; rfl), B4.out⟩
end Go.Proofs.Ytjajpdghamecoaa
/- Small helpers of the walks over entries. -/
namespace Go.Proofs.Ytjajpdghamecoaa
open Go.RowKit

theorem then_world {K : Act → World → Prop} {Q : Exit → Act → World → Prop} {x : Exit} {a : Act} {w : World} (R : World → Prop) (h : R w) (k : ∀ W, R W → Exit.then K Q x a W) : Exit.then K Q x a w := k w h
theorem two_drew {w : World} {g : Nat} {T : TypeId} {a b : Value} (h : Two w g T a b) : Two w.drew g T a b := h
theorem twoNext (w : World) (o : Obj) (T : TypeId) (a b : Value) : Two ((w.alloc o).alloc (.cells #[a, b] T)) (w.heap.size + 1) T a b := by
  have := twoNew (w.alloc o) T a b; simpa using this
end Go.Proofs.Ytjajpdghamecoaa
/- EntrySame: what the specification returns. -/
namespace Go.Proofs.Ytjajpdghamecoaa
open Go.RowKit
attribute [local go_sem ↓] Go.wp_at_zero Go.wp_at_succ

set_option maxRecDepth 100000 in
set_option maxHeartbeats 2000000 in
theorem l03Same_any (ao bo xo yo : Option Addr) (d1 d2 : RdnL) (l1 l2 : List AttrV) (ca cb cx cy : Nat) (w : World) (h1 : DnAt w ao d1) (h2 : AttrsAt w bo l1) (h3 : DnAt w xo d2) (h4 : AttrsAt w yo l2) (f1 : Fits d1) (f2 : FitsA l1) (f3 : Fits d2) (f4 : FitsA l2) (k1 : dnB d1 = true) (k2 : dnB d2 = true) :
    Calls Try.prog 77 #[.agg #[.slice ao d1.length ca, .slice bo l1.length cb], .agg #[.slice xo d2.length cx, .slice yo l2.length cy]] w fun e w' => e = .returned (.bool (sameB d1 d2 && pairB attrEq l1 l2)) ∧ Below w.heap.size w w' := by
  have hl1 := f2.1
  have hl2 := f4.1
  have H1 := Lib.hid h1; have H2 := Lib.hid h2; have H3 := Lib.hid h3; have H4 := Lib.hid h4; have F1 := Lib.hid f1; have F2 := Lib.hid f2; have F3 := Lib.hid f3; have F4 := Lib.hid f4
  have HKey := Lib.hid (key_same (dnB_rdns k1) (dnB_rdns k2))
  have K6 : Hid (d1.length ≤ 6 ∧ d2.length ≤ 6) := Lib.hid ⟨dnB_six k1, dnB_six k2⟩
  clear h1 h2 h3 h4 f1 f2 f3 f4 k1 k2
  go_enter Try.func77, Try.ntmps77
  go_wp2_with fail
  refine wp_world (fun W => Below w.heap.size w W ∧ Two W w.heap.size 43 (.slice ao d1.length ca) (.slice bo l1.length cb) ∧ Two W (w.heap.size + 1) 43 (.slice xo d2.length cx) (.slice yo l2.length cy)) ⟨more (more (Below.refl _ _) _) _, (twoNew w 43 _ _).alloc _, (by have := twoNew (w.alloc (.cells #[.slice ao d1.length ca, .slice bo l1.length cb] 43)) 43 (.slice xo d2.length cx) (.slice yo l2.length cy); simpa using this)⟩ ?_
  rintro W ⟨hbW, t0, t1⟩
  have BW := Lib.hid hbW; have T0 := Lib.hid t0; have T1 := Lib.hid t1
  clear hbW t0 t1
  have SK : Hid (∀ V : World, Below W.heap.size W V → (Below W.heap.size W V ∧ V.cell? ⟨w.heap.size, 0, none⟩ = some (.slice ao d1.length ca) ∧ V.cell? ⟨w.heap.size, 1, none⟩ = some (.slice bo l1.length cb) ∧ V.cell? ⟨w.heap.size + 1, 0, none⟩ = some (.slice xo d2.length cx) ∧ V.cell? ⟨w.heap.size + 1, 1, none⟩ = some (.slice yo l2.length cy))) :=
    Lib.hid (fun V h => ⟨h, (T0.out.below h).cells.1.1, (T0.out.below h).cells.1.2, (T1.out.below h).cells.1.1, (T1.out.below h).cells.1.2⟩)
  have HK1 : Hid (∀ V, Below W.heap.size W V → Calls Try.prog 59 #[.slice ao d1.length ca] V fun e w' => e = .returned (.string (keyS d1)) ∧ Below W.heap.size W w') :=
    Lib.hid (fun V h => (l02Key_any ao d1 ca V (H1.out.below (BW.out.trans (h.mono BW.out.size))) F1.out K6.out.1).mono fun _ _ g => ⟨g.1, h.trans (g.2.mono h.size)⟩)
  have HK2 : Hid (∀ V, Below W.heap.size W V → Calls Try.prog 59 #[.slice xo d2.length cx] V fun e w' => e = .returned (.string (keyS d2)) ∧ Below W.heap.size W w') :=
    Lib.hid (fun V h => (l02Key_any xo d2 cx V (H3.out.below (BW.out.trans (h.mono BW.out.size))) F3.out K6.out.2).mono fun _ _ g => ⟨g.1, h.trans (g.2.mono h.size)⟩)
  have hb0 : Below W.heap.size W W := Below.refl _ _
  have hbd := hb0.drew
  generalize keyS d1 = q1 at *
  generalize keyS d2 = q2 at *
  cases hs : sameB d1 d2
  · have hkk : (q1.toList == q2.toList) = false := HKey.out.trans hs
    have FIN : Hid (∀ V, Below W.heap.size W V → Below w.heap.size w V) := Lib.hid (fun V h => BW.out.trans (h.mono BW.out.size))
    refine wp_region_held_drew (S := (fun V => Below W.heap.size W V ∧ V.cell? ⟨w.heap.size, 0, none⟩ = some (.slice ao d1.length ca) ∧ V.cell? ⟨w.heap.size, 1, none⟩ = some (.slice bo l1.length cb) ∧ V.cell? ⟨w.heap.size + 1, 0, none⟩ = some (.slice xo d2.length cx) ∧ V.cell? ⟨w.heap.size + 1, 1, none⟩ = some (.slice yo l2.length cy))) (by kernel_rfl) ?_ (fun hHeld => ?_)
    · (try dsimp only)
      exact SK.out _ (by assumption)
    refine wpAnyH_take (i := 0) (oi := { dst := some 9, op := Op.fieldAddr 43 (Operand.tmp 2) 0, type := 0, pos := "l03_entry.go:201", after := #[], guard := none }) (v := ?_) rfl (by kernel_rfl) (by kernel_rfl) (by kernel_rfl) (fun _ _ _ h => h) (Or.inl ⟨by rfl, ?_⟩) (by assumption) ?_
    rotate_left
    · intro w hSw; (try dsimp only at hSw); go_simp; (try with_reducible rfl)
    (try simp only [Act.put, List.setIfInBounds_toArray, List.set_cons_zero, List.set_cons_succ])
    refine wpAnyH_take (i := 1) (oi := { dst := some 10, op := Op.load 23 (Operand.tmp 9), type := 23, pos := "l03_entry.go:201", after := #[{ on := 0, ground := Ground.data }], guard := none }) (v := ?_) rfl (by kernel_rfl) (by kernel_rfl) (by kernel_rfl) (fun _ _ _ h => h) (Or.inl ⟨by rfl, ?_⟩) (by assumption) ?_
    rotate_left
    · intro w hSw; (try dsimp only at hSw); go_simp; (try with_reducible rfl)
    (try simp only [Act.put, List.setIfInBounds_toArray, List.set_cons_zero, List.set_cons_succ])
    refine wpAnyH_take (i := 3) (oi := { dst := some 12, op := Op.fieldAddr 43 (Operand.tmp 3) 0, type := 0, pos := "l03_entry.go:201", after := #[], guard := none }) (v := ?_) rfl (by kernel_rfl) (by kernel_rfl) (by kernel_rfl) (fun _ _ _ h => h) (Or.inl ⟨by rfl, ?_⟩) (by assumption) ?_
    rotate_left
    · intro w hSw; (try dsimp only at hSw); go_simp; (try with_reducible rfl)
    (try simp only [Act.put, List.setIfInBounds_toArray, List.set_cons_zero, List.set_cons_succ])
    refine wpAnyH_take (i := 4) (oi := { dst := some 13, op := Op.load 23 (Operand.tmp 12), type := 23, pos := "l03_entry.go:201", after := #[{ on := 3, ground := Ground.data }], guard := none }) (v := ?_) rfl (by kernel_rfl) (by kernel_rfl) (by kernel_rfl) (fun _ _ _ h => h) (Or.inl ⟨by rfl, ?_⟩) (by assumption) ?_
    rotate_left
    · intro w hSw; (try dsimp only at hSw); go_simp; (try with_reducible rfl)
    (try simp only [Act.put, List.setIfInBounds_toArray, List.set_cons_zero, List.set_cons_succ])
    refine wpAnyH_ready (rs := [2]) (by kernel_rfl) (by simp) ?_
    refine AllReadyH.cons (o := { dst := some 11, op := Op.call { callee := Callee.value (Operand.func 59), args := #[Operand.tmp 10], argTypes := #[23] }, type := 9, pos := "l03_entry.go:201", after := #[{ on := 1, ground := Ground.data }], guard := none }) rfl (fun K hK => ?_) AllReadyH.nil
    go_simp
    (refine (HK1.out _ (by assumption)).mono ?_; rintro e w1 ⟨rfl, hb1⟩; go_wp2_with fail)
    clear hHeld
    refine hK.out _ _ ?_ (fun hHeld => ?_)
    · (try dsimp only)
      exact SK.out _ (by assumption)
    clear hK K
    (try simp only [Act.put, List.setIfInBounds_toArray, List.set_cons_zero, List.set_cons_succ])
    refine wpAnyH_ready (rs := [5]) (by kernel_rfl) (by simp) ?_
    refine AllReadyH.cons (o := { dst := some 14, op := Op.call { callee := Callee.value (Operand.func 59), args := #[Operand.tmp 13], argTypes := #[23] }, type := 9, pos := "l03_entry.go:201", after := #[{ on := 4, ground := Ground.data }, { on := 2, ground := Ground.chain }], guard := none }) rfl (fun K hK => ?_) AllReadyH.nil
    go_simp
    (refine (HK2.out _ (by assumption)).mono ?_; rintro e w2 ⟨rfl, hb2⟩; go_wp2_with fail)
    clear hHeld
    refine hK.out _ _ ?_ (fun hHeld => ?_)
    · (try dsimp only)
      exact SK.out _ (by assumption)
    clear hK K
    (try simp only [Act.put, List.setIfInBounds_toArray, List.set_cons_zero, List.set_cons_succ])
    refine wpAnyH_take (i := 6) (oi := { dst := some 15, op := Op.binOp BinOp.neq 9 (Operand.tmp 11) (Operand.tmp 14) 9, type := 4, pos := "l03_entry.go:201", after := #[{ on := 2, ground := Ground.data }, { on := 5, ground := Ground.data }], guard := none }) (v := ?_) rfl (by kernel_rfl) (by kernel_rfl) (by kernel_rfl) (fun _ _ _ h => h) (Or.inl ⟨by rfl, ?_⟩) (by assumption) ?_
    rotate_left
    · intro w hSw; (try dsimp only at hSw); go_simp; (try with_reducible rfl)
    (try simp only [Act.put, List.setIfInBounds_toArray, List.set_cons_zero, List.set_cons_succ])
    refine wpAnyH_take (i := 7) (oi := { dst := some 16, op := Op.move (Operand.tmp 15), type := 4, pos := "l03_entry.go:201", after := #[{ on := 6, ground := Ground.data }, { on := 5, ground := Ground.chain }], guard := none }) (v := ?_) rfl (by kernel_rfl) (by kernel_rfl) (by kernel_rfl) (fun _ _ _ h => h) (Or.inl ⟨by rfl, ?_⟩) (by assumption) ?_
    rotate_left
    · intro w hSw; (try dsimp only at hSw); go_simp; (try with_reducible rfl)
    (try simp only [Act.put, List.setIfInBounds_toArray, List.set_cons_zero, List.set_cons_succ])
    refine wpAnyH_take (i := 8) (oi := { dst := some 17, op := Op.fieldAddr 43 (Operand.tmp 2) 1, type := 0, pos := "l03_entry.go:201", after := #[{ on := 7, ground := Ground.guard }], guard := some (7, false) }) (v := undef) rfl (by kernel_rfl) (by kernel_rfl) (by kernel_rfl) (fun _ _ _ h => h) (Or.inr ⟨by rfl, rfl⟩) (by assumption) ?_
    (try simp only [Act.put, List.setIfInBounds_toArray, List.set_cons_zero, List.set_cons_succ])
    refine wpAnyH_take (i := 9) (oi := { dst := some 18, op := Op.load 41 (Operand.tmp 17), type := 41, pos := "l03_entry.go:201", after := #[{ on := 8, ground := Ground.data }, { on := 7, ground := Ground.guard }], guard := some (7, false) }) (v := undef) rfl (by kernel_rfl) (by kernel_rfl) (by kernel_rfl) (fun _ _ _ h => h) (Or.inr ⟨by rfl, rfl⟩) (by assumption) ?_
    (try simp only [Act.put, List.setIfInBounds_toArray, List.set_cons_zero, List.set_cons_succ])
    refine wpAnyH_take (i := 10) (oi := { dst := some 19, op := Op.call { callee := Callee.builtin Builtin.len, args := #[Operand.tmp 18], argTypes := #[41] }, type := 3, pos := "l03_entry.go:201", after := #[{ on := 9, ground := Ground.data }, { on := 7, ground := Ground.guard }], guard := some (7, false) }) (v := undef) rfl (by kernel_rfl) (by kernel_rfl) (by kernel_rfl) (fun _ _ _ h => h) (Or.inr ⟨by rfl, rfl⟩) (by assumption) ?_
    (try simp only [Act.put, List.setIfInBounds_toArray, List.set_cons_zero, List.set_cons_succ])
    refine wpAnyH_take (i := 11) (oi := { dst := some 20, op := Op.fieldAddr 43 (Operand.tmp 3) 1, type := 0, pos := "l03_entry.go:201", after := #[{ on := 7, ground := Ground.guard }], guard := some (7, false) }) (v := undef) rfl (by kernel_rfl) (by kernel_rfl) (by kernel_rfl) (fun _ _ _ h => h) (Or.inr ⟨by rfl, rfl⟩) (by assumption) ?_
    (try simp only [Act.put, List.setIfInBounds_toArray, List.set_cons_zero, List.set_cons_succ])
    refine wpAnyH_take (i := 12) (oi := { dst := some 21, op := Op.load 41 (Operand.tmp 20), type := 41, pos := "l03_entry.go:201", after := #[{ on := 11, ground := Ground.data }, { on := 7, ground := Ground.guard }], guard := some (7, false) }) (v := undef) rfl (by kernel_rfl) (by kernel_rfl) (by kernel_rfl) (fun _ _ _ h => h) (Or.inr ⟨by rfl, rfl⟩) (by assumption) ?_
    (try simp only [Act.put, List.setIfInBounds_toArray, List.set_cons_zero, List.set_cons_succ])
    refine wpAnyH_take (i := 13) (oi := { dst := some 22, op := Op.call { callee := Callee.builtin Builtin.len, args := #[Operand.tmp 21], argTypes := #[41] }, type := 3, pos := "l03_entry.go:201", after := #[{ on := 12, ground := Ground.data }, { on := 7, ground := Ground.guard }], guard := some (7, false) }) (v := undef) rfl (by kernel_rfl) (by kernel_rfl) (by kernel_rfl) (fun _ _ _ h => h) (Or.inr ⟨by rfl, rfl⟩) (by assumption) ?_
    (try simp only [Act.put, List.setIfInBounds_toArray, List.set_cons_zero, List.set_cons_succ])
    refine wpAnyH_take (i := 14) (oi := { dst := some 23, op := Op.binOp BinOp.neq 3 (Operand.tmp 19) (Operand.tmp 22) 3, type := 4, pos := "l03_entry.go:201", after := #[{ on := 10, ground := Ground.data }, { on := 13, ground := Ground.data }, { on := 7, ground := Ground.guard }], guard := some (7, false) }) (v := undef) rfl (by kernel_rfl) (by kernel_rfl) (by kernel_rfl) (fun _ _ _ h => h) (Or.inr ⟨by rfl, rfl⟩) (by assumption) ?_
    (try simp only [Act.put, List.setIfInBounds_toArray, List.set_cons_zero, List.set_cons_succ])
    refine wpAnyH_take (i := 15) (oi := { dst := some 24, op := Op.pick (Operand.tmp 16) (Operand.const (Value.bool true)) (Operand.tmp 23), type := 4, pos := "l03_entry.go:201", after := #[{ on := 7, ground := Ground.data }, { on := 14, ground := Ground.data }], guard := none }) (v := ?_) rfl (by kernel_rfl) (by kernel_rfl) (by kernel_rfl) (fun _ _ _ h => h) (Or.inl ⟨by rfl, ?_⟩) (by assumption) ?_
    rotate_left
    · intro w hSw; (try dsimp only at hSw); go_simp; (try with_reducible rfl)
    (try simp only [Act.put, List.setIfInBounds_toArray, List.set_cons_zero, List.set_cons_succ])
    refine wpAnyH_done (by kernel_rfl) ?_ _
    go_wp2
    go_ret
    exact ⟨ret_bool (by rw [hs]; rfl), FIN.out _ (by assumption)⟩
  · have hkk : (q1.toList == q2.toList) = true := HKey.out.trans hs
    by_cases hl : l1.length = l2.length
    · have gl : ((l1.length : Int) != (l2.length : Int)) = false := by simp [hl]
      have HLen := Lib.hid hl
      clear hl
      refine wp_region_held_drew (S := (fun V => Below W.heap.size W V ∧ V.cell? ⟨w.heap.size, 0, none⟩ = some (.slice ao d1.length ca) ∧ V.cell? ⟨w.heap.size, 1, none⟩ = some (.slice bo l1.length cb) ∧ V.cell? ⟨w.heap.size + 1, 0, none⟩ = some (.slice xo d2.length cx) ∧ V.cell? ⟨w.heap.size + 1, 1, none⟩ = some (.slice yo l2.length cy))) (by kernel_rfl) ?_ (fun hHeld => ?_)
      · (try dsimp only)
        exact SK.out _ (by assumption)
      refine wpAnyH_take (i := 0) (oi := { dst := some 9, op := Op.fieldAddr 43 (Operand.tmp 2) 0, type := 0, pos := "l03_entry.go:201", after := #[], guard := none }) (v := ?_) rfl (by kernel_rfl) (by kernel_rfl) (by kernel_rfl) (fun _ _ _ h => h) (Or.inl ⟨by rfl, ?_⟩) (by assumption) ?_
      rotate_left
      · intro w hSw; (try dsimp only at hSw); go_simp; (try with_reducible rfl)
      (try simp only [Act.put, List.setIfInBounds_toArray, List.set_cons_zero, List.set_cons_succ])
      refine wpAnyH_take (i := 1) (oi := { dst := some 10, op := Op.load 23 (Operand.tmp 9), type := 23, pos := "l03_entry.go:201", after := #[{ on := 0, ground := Ground.data }], guard := none }) (v := ?_) rfl (by kernel_rfl) (by kernel_rfl) (by kernel_rfl) (fun _ _ _ h => h) (Or.inl ⟨by rfl, ?_⟩) (by assumption) ?_
      rotate_left
      · intro w hSw; (try dsimp only at hSw); go_simp; (try with_reducible rfl)
      (try simp only [Act.put, List.setIfInBounds_toArray, List.set_cons_zero, List.set_cons_succ])
      refine wpAnyH_take (i := 3) (oi := { dst := some 12, op := Op.fieldAddr 43 (Operand.tmp 3) 0, type := 0, pos := "l03_entry.go:201", after := #[], guard := none }) (v := ?_) rfl (by kernel_rfl) (by kernel_rfl) (by kernel_rfl) (fun _ _ _ h => h) (Or.inl ⟨by rfl, ?_⟩) (by assumption) ?_
      rotate_left
      · intro w hSw; (try dsimp only at hSw); go_simp; (try with_reducible rfl)
      (try simp only [Act.put, List.setIfInBounds_toArray, List.set_cons_zero, List.set_cons_succ])
      refine wpAnyH_take (i := 4) (oi := { dst := some 13, op := Op.load 23 (Operand.tmp 12), type := 23, pos := "l03_entry.go:201", after := #[{ on := 3, ground := Ground.data }], guard := none }) (v := ?_) rfl (by kernel_rfl) (by kernel_rfl) (by kernel_rfl) (fun _ _ _ h => h) (Or.inl ⟨by rfl, ?_⟩) (by assumption) ?_
      rotate_left
      · intro w hSw; (try dsimp only at hSw); go_simp; (try with_reducible rfl)
      (try simp only [Act.put, List.setIfInBounds_toArray, List.set_cons_zero, List.set_cons_succ])
      refine wpAnyH_ready (rs := [2]) (by kernel_rfl) (by simp) ?_
      refine AllReadyH.cons (o := { dst := some 11, op := Op.call { callee := Callee.value (Operand.func 59), args := #[Operand.tmp 10], argTypes := #[23] }, type := 9, pos := "l03_entry.go:201", after := #[{ on := 1, ground := Ground.data }], guard := none }) rfl (fun K hK => ?_) AllReadyH.nil
      go_simp
      (refine (HK1.out _ (by assumption)).mono ?_; rintro e w1 ⟨rfl, hb1⟩; go_wp2_with fail)
      clear hHeld
      refine hK.out _ _ ?_ (fun hHeld => ?_)
      · (try dsimp only)
        exact SK.out _ (by assumption)
      clear hK K
      (try simp only [Act.put, List.setIfInBounds_toArray, List.set_cons_zero, List.set_cons_succ])
      refine wpAnyH_ready (rs := [5]) (by kernel_rfl) (by simp) ?_
      refine AllReadyH.cons (o := { dst := some 14, op := Op.call { callee := Callee.value (Operand.func 59), args := #[Operand.tmp 13], argTypes := #[23] }, type := 9, pos := "l03_entry.go:201", after := #[{ on := 4, ground := Ground.data }, { on := 2, ground := Ground.chain }], guard := none }) rfl (fun K hK => ?_) AllReadyH.nil
      go_simp
      (refine (HK2.out _ (by assumption)).mono ?_; rintro e w2 ⟨rfl, hb2⟩; go_wp2_with fail)
      clear hHeld
      refine hK.out _ _ ?_ (fun hHeld => ?_)
      · (try dsimp only)
        exact SK.out _ (by assumption)
      clear hK K
      (try simp only [Act.put, List.setIfInBounds_toArray, List.set_cons_zero, List.set_cons_succ])
      refine wpAnyH_take (i := 6) (oi := { dst := some 15, op := Op.binOp BinOp.neq 9 (Operand.tmp 11) (Operand.tmp 14) 9, type := 4, pos := "l03_entry.go:201", after := #[{ on := 2, ground := Ground.data }, { on := 5, ground := Ground.data }], guard := none }) (v := ?_) rfl (by kernel_rfl) (by kernel_rfl) (by kernel_rfl) (fun _ _ _ h => h) (Or.inl ⟨by rfl, ?_⟩) (by assumption) ?_
      rotate_left
      · intro w hSw; (try dsimp only at hSw); go_simp; (try with_reducible rfl)
      (try simp only [Act.put, List.setIfInBounds_toArray, List.set_cons_zero, List.set_cons_succ])
      refine wpAnyH_take (i := 7) (oi := { dst := some 16, op := Op.move (Operand.tmp 15), type := 4, pos := "l03_entry.go:201", after := #[{ on := 6, ground := Ground.data }, { on := 5, ground := Ground.chain }], guard := none }) (v := ?_) rfl (by kernel_rfl) (by kernel_rfl) (by kernel_rfl) (fun _ _ _ h => h) (Or.inl ⟨by rfl, ?_⟩) (by assumption) ?_
      rotate_left
      · intro w hSw; (try dsimp only at hSw); go_simp; (try with_reducible rfl)
      (try simp only [Act.put, List.setIfInBounds_toArray, List.set_cons_zero, List.set_cons_succ])
      refine wpAnyH_take (i := 8) (oi := { dst := some 17, op := Op.fieldAddr 43 (Operand.tmp 2) 1, type := 0, pos := "l03_entry.go:201", after := #[{ on := 7, ground := Ground.guard }], guard := some (7, false) }) (v := ?_) rfl (by kernel_rfl) (by kernel_rfl) (by kernel_rfl) (fun _ _ _ h => h) (Or.inl ⟨by rfl, ?_⟩) (by assumption) ?_
      rotate_left
      · intro w hSw; (try dsimp only at hSw); go_simp; (try with_reducible rfl)
      (try simp only [Act.put, List.setIfInBounds_toArray, List.set_cons_zero, List.set_cons_succ])
      refine wpAnyH_take (i := 9) (oi := { dst := some 18, op := Op.load 41 (Operand.tmp 17), type := 41, pos := "l03_entry.go:201", after := #[{ on := 8, ground := Ground.data }, { on := 7, ground := Ground.guard }], guard := some (7, false) }) (v := ?_) rfl (by kernel_rfl) (by kernel_rfl) (by kernel_rfl) (fun _ _ _ h => h) (Or.inl ⟨by rfl, ?_⟩) (by assumption) ?_
      rotate_left
      · intro w hSw; (try dsimp only at hSw); go_simp; (try with_reducible rfl)
      (try simp only [Act.put, List.setIfInBounds_toArray, List.set_cons_zero, List.set_cons_succ])
      refine wpAnyH_take (i := 10) (oi := { dst := some 19, op := Op.call { callee := Callee.builtin Builtin.len, args := #[Operand.tmp 18], argTypes := #[41] }, type := 3, pos := "l03_entry.go:201", after := #[{ on := 9, ground := Ground.data }, { on := 7, ground := Ground.guard }], guard := some (7, false) }) (v := ?_) rfl (by kernel_rfl) (by kernel_rfl) (by kernel_rfl) (fun _ _ _ h => h) (Or.inl ⟨by rfl, ?_⟩) (by assumption) ?_
      rotate_left
      · intro w hSw; (try dsimp only at hSw); go_simp; (try with_reducible rfl)
      (try simp only [Act.put, List.setIfInBounds_toArray, List.set_cons_zero, List.set_cons_succ])
      refine wpAnyH_take (i := 11) (oi := { dst := some 20, op := Op.fieldAddr 43 (Operand.tmp 3) 1, type := 0, pos := "l03_entry.go:201", after := #[{ on := 7, ground := Ground.guard }], guard := some (7, false) }) (v := ?_) rfl (by kernel_rfl) (by kernel_rfl) (by kernel_rfl) (fun _ _ _ h => h) (Or.inl ⟨by rfl, ?_⟩) (by assumption) ?_
      rotate_left
      · intro w hSw; (try dsimp only at hSw); go_simp; (try with_reducible rfl)
      (try simp only [Act.put, List.setIfInBounds_toArray, List.set_cons_zero, List.set_cons_succ])
      refine wpAnyH_take (i := 12) (oi := { dst := some 21, op := Op.load 41 (Operand.tmp 20), type := 41, pos := "l03_entry.go:201", after := #[{ on := 11, ground := Ground.data }, { on := 7, ground := Ground.guard }], guard := some (7, false) }) (v := ?_) rfl (by kernel_rfl) (by kernel_rfl) (by kernel_rfl) (fun _ _ _ h => h) (Or.inl ⟨by rfl, ?_⟩) (by assumption) ?_
      rotate_left
      · intro w hSw; (try dsimp only at hSw); go_simp; (try with_reducible rfl)
      (try simp only [Act.put, List.setIfInBounds_toArray, List.set_cons_zero, List.set_cons_succ])
      refine wpAnyH_take (i := 13) (oi := { dst := some 22, op := Op.call { callee := Callee.builtin Builtin.len, args := #[Operand.tmp 21], argTypes := #[41] }, type := 3, pos := "l03_entry.go:201", after := #[{ on := 12, ground := Ground.data }, { on := 7, ground := Ground.guard }], guard := some (7, false) }) (v := ?_) rfl (by kernel_rfl) (by kernel_rfl) (by kernel_rfl) (fun _ _ _ h => h) (Or.inl ⟨by rfl, ?_⟩) (by assumption) ?_
      rotate_left
      · intro w hSw; (try dsimp only at hSw); go_simp; (try with_reducible rfl)
      (try simp only [Act.put, List.setIfInBounds_toArray, List.set_cons_zero, List.set_cons_succ])
      refine wpAnyH_take (i := 14) (oi := { dst := some 23, op := Op.binOp BinOp.neq 3 (Operand.tmp 19) (Operand.tmp 22) 3, type := 4, pos := "l03_entry.go:201", after := #[{ on := 10, ground := Ground.data }, { on := 13, ground := Ground.data }, { on := 7, ground := Ground.guard }], guard := some (7, false) }) (v := ?_) rfl (by kernel_rfl) (by kernel_rfl) (by kernel_rfl) (fun _ _ _ h => h) (Or.inl ⟨by rfl, ?_⟩) (by assumption) ?_
      rotate_left
      · intro w hSw; (try dsimp only at hSw); go_simp; (try with_reducible rfl)
      (try simp only [Act.put, List.setIfInBounds_toArray, List.set_cons_zero, List.set_cons_succ])
      refine wpAnyH_take (i := 15) (oi := { dst := some 24, op := Op.pick (Operand.tmp 16) (Operand.const (Value.bool true)) (Operand.tmp 23), type := 4, pos := "l03_entry.go:201", after := #[{ on := 7, ground := Ground.data }, { on := 14, ground := Ground.data }], guard := none }) (v := ?_) rfl (by kernel_rfl) (by kernel_rfl) (by kernel_rfl) (fun _ _ _ h => h) (Or.inl ⟨by rfl, ?_⟩) (by assumption) ?_
      rotate_left
      · intro w hSw; (try dsimp only at hSw); go_simp; (try with_reducible rfl)
      (try simp only [Act.put, List.setIfInBounds_toArray, List.set_cons_zero, List.set_cons_succ])
      refine wpAnyH_done (by kernel_rfl) ?_ _
      have BH := Lib.hid hb2
      have HSm := Lib.hid hs
      clear HK1 HK2 HKey hs hkk hbd hb0 hb1 hb2 gl H1 H3 F1 F3 K6
      go_wp2_with fail
      go_loopw [5] (fun i wr => ∃ k : Nat, k ≤ l1.length ∧ i = .int .i64 k ∧ (∀ j (h : j < l1.length) (h' : j < l2.length), j < k → attrEq l1[j] l2[j] = true) ∧ Below W.heap.size W wr) (fun i _ => l1.length - (intOf i).toNat)
      case atStart => exact ⟨0, Nat.zero_le _, rfl, fun j _ _ h => absurd h (Nat.not_lt_zero _), BH.out⟩
      case round =>
        clear BH
        obtain ⟨Y, rfl⟩ : ∃ Y, Y = wr := ⟨_, rfl⟩
        obtain ⟨k, hk, rfl, hj, hbel⟩ := hrel
        have Hj := Lib.hid hj; clear hj
        have BR := Lib.hid (BW.out.trans (hbel.mono BW.out.size))
        have TA := Lib.hid (T0.out.below hbel); have TB := Lib.hid (T1.out.below hbel)
        by_cases hlt : k < l1.length
        · have hlt' : k < l2.length := by have := HLen.out; omega
          obtain ⟨p, off, vo, vc, rfl, hp0, hd1, hd2, hv⟩ := (H2.out.below BR.out).at hlt
          obtain ⟨q, off', uo, uc, rfl, hq0, he1, he2, hu⟩ := (H4.out.below BR.out).at hlt'
          have HV := Lib.hid hv.1; have HU := Lib.hid hu.1; clear hv hu
          have FV := Lib.hid (F2.out.at hlt).2; have FU := Lib.hid (F4.out.at hlt').2
          have HX : Hid (attrEq (l1[k].1, l1[k].2) (l2[k].1, l2[k].2) = false → pairB attrEq l1 l2 = false) := Lib.hid (fun h => pairB_no hlt hlt' h)
          have HN : Hid (attrEq (l1[k].1, l1[k].2) (l2[k].1, l2[k].2) = true → ∀ j (h : j < l1.length) (h' : j < l2.length), j < k + 1 → attrEq l1[j] l2[j] = true) := Lib.hid (fun hn j h h' hjk => by
            by_cases e : j = k
            · subst e; exact hn
            · exact Hj.out j h h' (by omega))
          have g1 : (0 : Int) ≤ (k : Int) := by omega
          have g2 : (k : Int) < (l1.length : Int) := by omega
          have g3 : (k : Int) < (l2.length : Int) := by omega
          generalize l1[k].1 = A at *
          generalize l1[k].2 = V at *
          generalize l2[k].1 = C at *
          generalize l2[k].2 = U at *
          have S1 : Hid (∀ X : World, Below Y.heap.size Y X → (Below Y.heap.size Y X ∧ X.cell? ⟨w.heap.size, 1, none⟩ = some (.slice (some ⟨p, off, none⟩) l1.length cb) ∧ X.cell? ⟨w.heap.size + 1, 1, none⟩ = some (.slice (some ⟨q, off', none⟩) l2.length cy) ∧ X.cell? ⟨p, off + k * 2, none⟩ = some (.string A) ∧ X.cell? ⟨p, off + k * 2 + 1, none⟩ = some (.slice vo V.length vc) ∧ X.cell? ⟨q, off' + k * 2, none⟩ = some (.string C) ∧ X.cell? ⟨q, off' + k * 2 + 1, none⟩ = some (.slice uo U.length uc))) :=
            Lib.hid (fun X h => ⟨h, (TA.out.below h).cells.1.2, (TB.out.below h).cells.1.2, (h.cell (p := ⟨p, off + k * 2, none⟩) hp0).trans hd1, (h.cell (p := ⟨p, off + k * 2 + 1, none⟩) hp0).trans hd2, (h.cell (p := ⟨q, off' + k * 2, none⟩) hq0).trans he1, (h.cell (p := ⟨q, off' + k * 2 + 1, none⟩) hq0).trans he2⟩)
          clear hd1 hd2 he1 he2
          have hb0 : Below Y.heap.size Y Y := Below.refl _ _
          have hbd := hb0.drew
          have q1 := (S1.out Y hb0).2.1
          go_wp2_with fail
          clear q1
          go_region_held3 (fun X => Below Y.heap.size Y X ∧ X.cell? ⟨w.heap.size, 1, none⟩ = some (.slice (some ⟨p, off, none⟩) l1.length cb) ∧ X.cell? ⟨w.heap.size + 1, 1, none⟩ = some (.slice (some ⟨q, off', none⟩) l2.length cy) ∧ X.cell? ⟨p, off + k * 2, none⟩ = some (.string A) ∧ X.cell? ⟨p, off + k * 2 + 1, none⟩ = some (.slice vo V.length vc) ∧ X.cell? ⟨q, off' + k * 2, none⟩ = some (.string C) ∧ X.cell? ⟨q, off' + k * 2 + 1, none⟩ = some (.slice uo U.length uc))
            (first | exact S1.out _ (by assumption) | exact S1.out _ (more (by assumption) _) | exact S1.out _ (more (more (by assumption) _) _))
            (fail "none")
          · refine then_world (fun X => Below Y.heap.size Y X ∧ Two X Y.heap.size 81 (.string A) (.slice vo V.length vc) ∧ Two X (Y.heap.size + 1) 81 (.string C) (.slice uo U.length uc)) ⟨(more (more (Below.refl _ _) _) _).drew, two_drew ((twoNew Y 81 _ _).alloc _), two_drew (twoNext Y _ 81 _ _)⟩ ?_
            rintro X ⟨hbX, tX, tY⟩
            have BX := Lib.hid (hbel.trans (hbX.mono hbel.size)); have VX := Lib.hid (HV.out.below hbX); have UX := Lib.hid (HU.out.below hbX); have TX := Lib.hid tX; have TY := Lib.hid tY
            clear hbX tX tY HV HU S1 hb0 hbd hp0 hq0 BR TA TB hbel
            generalize Y.heap.size = m1 at *
            generalize m1 + 1 = m2 at *
            have HE : Hid (attrEq (A, V) (C, U) = ((A.toList == C.toList) && pairB normEq V U)) := Lib.hid rfl
            have FB := Lib.hid (BW.out.trans (BX.out.mono BW.out.size))
            have c0 := TX.out.cells.1.1; have c1 := TX.out.cells.1.2; have c2 := TY.out.cells.1.1; have c3 := TY.out.cells.1.2
            have hlV := FV.out.1; have hlU := FU.out.1
            cases hn : (A.toList == C.toList)
            · have HX' := Lib.hid (HX.out (by rw [HE.out, hn]; rfl))
              go_wp2
              go_ret
              exact ⟨ret_bool (by rw [HX'.out, Bool.and_false]), FB.out⟩
            · by_cases hvl : V.length = U.length
              · have gv : ((V.length : Int) != (U.length : Int)) = false := by simp [hvl]
                have HVl := Lib.hid hvl
                have HE' := Lib.hid (HE.out.trans (by rw [hn]; rfl : _ = pairB normEq V U))
                clear hvl HE
                go_wp2_with fail
                clear c0 c2 hn gv
                go_loopw [8] (fun i Z => ∃ j : Nat, j ≤ V.length ∧ i = .int .i64 j ∧ (∀ i (h : i < V.length) (h' : i < U.length), i < j → normEq V[i] U[i] = true) ∧ Below X.heap.size X Z) (fun i _ => V.length - (intOf i).toNat)
                case atStart => exact ⟨0, Nat.zero_le _, rfl, fun j _ _ h => absurd h (Nat.not_lt_zero _), Below.refl _ _⟩
                case round =>
                  clear c1 c3
                  obtain ⟨j, hj, rfl, hji, hbz⟩ := hrel
                  have Hji := Lib.hid hji; clear hji
                  have hsz := hbz.size
                  by_cases hjl : j < V.length
                  · have hjl' : j < U.length := by have := HVl.out; omega
                    obtain ⟨pv, ov, rfl, hv0, hv1⟩ := VX.out.at hjl
                    obtain ⟨pu, ou, rfl, hu0, hu1⟩ := UX.out.at hjl'
                    have z1 := FV.out.max hjl
                    have z2 := FU.out.max hjl'
                    have HX2 : Hid (normEq V[j] U[j] = false → pairB attrEq l1 l2 = false) := Lib.hid (fun h => HX.out (HE'.out.trans (pairB_no hjl hjl' h)))
                    have HN2 : Hid (normEq V[j] U[j] = true → ∀ i (h : i < V.length) (h' : i < U.length), i < j + 1 → normEq V[i] U[i] = true) := Lib.hid (fun hn i h h' hij => by
                      by_cases e : i = j
                      · subst e; exact hn
                      · exact Hji.out i h h' (by omega))
                    have HQ : Hid (normEq V[j] U[j] = ((normS V[j]).toList == (normS U[j]).toList)) := Lib.hid rfl
                    have S2 : Hid (∀ Z : World, Below wr.heap.size wr Z → (Below wr.heap.size wr Z ∧ Z.cell? ⟨m1, 1, none⟩ = some (.slice (some ⟨pv, ov, none⟩) V.length vc) ∧ Z.cell? ⟨m2, 1, none⟩ = some (.slice (some ⟨pu, ou, none⟩) U.length uc) ∧ Z.cell? ⟨pv, ov + j, none⟩ = some (.string V[j]) ∧ Z.cell? ⟨pu, ou + j, none⟩ = some (.string U[j]))) :=
                      Lib.hid (fun Z h => by
                        have hz := hbz.trans (h.mono hsz)
                        exact ⟨h, (TX.out.below hz).cells.1.2, (TY.out.below hz).cells.1.2, (hz.cell (p := ⟨pv, ov + j, none⟩) hv0).trans hv1, (hz.cell (p := ⟨pu, ou + j, none⟩) hu0).trans hu1⟩)
                    have g4 : (0 : Int) ≤ (j : Int) := by omega
                    have g5 : (j : Int) < (V.length : Int) := by omega
                    have g6 : (j : Int) < (U.length : Int) := by omega
                    clear hv1 hu1
                    generalize V[j] = x at *
                    generalize U[j] = y at *
                    have H1 : Hid (∀ Z, Below wr.heap.size wr Z → Calls Try.prog 93 #[.string x] Z fun e w' => e = .returned (.string (normS x)) ∧ Below wr.heap.size wr w') := Lib.hid (fun Z h => SpecNorm_from wr x Z z1 h)
                    have H2 : Hid (∀ Z, Below wr.heap.size wr Z → Calls Try.prog 93 #[.string y] Z fun e w' => e = .returned (.string (normS y)) ∧ Below wr.heap.size wr w') := Lib.hid (fun Z h => SpecNorm_from wr y Z z2 h)
                    generalize normS x = nx at *
                    generalize normS y = ny at *
                    have hb0 : Below wr.heap.size wr wr := Below.refl _ _
                    have hbd := hb0.drew
                    have q1 := (S2.out wr hb0).2.1
                    cases hq : (nx.toList == ny.toList)
                    · have HX3 := Lib.hid (HX2.out (HQ.out.trans hq))
                      go_wp2_with fail
                      clear q1
                      go_region_held3 (fun Z => Below wr.heap.size wr Z ∧ Z.cell? ⟨m1, 1, none⟩ = some (.slice (some ⟨pv, ov, none⟩) V.length vc) ∧ Z.cell? ⟨m2, 1, none⟩ = some (.slice (some ⟨pu, ou, none⟩) U.length uc) ∧ Z.cell? ⟨pv, ov + j, none⟩ = some (.string x) ∧ Z.cell? ⟨pu, ou + j, none⟩ = some (.string y))
                        (exact S2.out _ (by assumption))
                        (first
                          | (go_at_call 93; (with_reducible refine (H1.out _ (by assumption)).mono ?_); rintro e w7 ⟨rfl, hb7⟩)
                          | (go_at_call 93; (with_reducible refine (H2.out _ (by assumption)).mono ?_); rintro e w8 ⟨rfl, hb8⟩)
                          | (fail "none"))
                      go_wp2
                      go_ret
                      exact ⟨ret_bool (by rw [HX3.out, Bool.and_false]), FB.out.trans ((hbz.trans (hb8.mono hsz)).mono FB.out.size)⟩
                    · have HN3 := Lib.hid (HN2.out (HQ.out.trans hq))
                      go_wp2_with fail
                      clear q1
                      go_region_held3 (fun Z => Below wr.heap.size wr Z ∧ Z.cell? ⟨m1, 1, none⟩ = some (.slice (some ⟨pv, ov, none⟩) V.length vc) ∧ Z.cell? ⟨m2, 1, none⟩ = some (.slice (some ⟨pu, ou, none⟩) U.length uc) ∧ Z.cell? ⟨pv, ov + j, none⟩ = some (.string x) ∧ Z.cell? ⟨pu, ou + j, none⟩ = some (.string y))
                        (exact S2.out _ (by assumption))
                        (first
                          | (go_at_call 93; (with_reducible refine (H1.out _ (by assumption)).mono ?_); rintro e w7 ⟨rfl, hb7⟩)
                          | (go_at_call 93; (with_reducible refine (H2.out _ (by assumption)).mono ?_); rintro e w8 ⟨rfl, hb8⟩)
                          | (fail "none"))
                      go_wp2
                      go_roundw
                      case rel => exact ⟨j + 1, by omega, by go_num, HN3.out, hbz.trans (hb8.mono hsz)⟩
                      case measure => simp [intOf]; omega
                  · have HT := Lib.hid (HN.out (HE'.out.trans (pairB_yes (eq := normEq) HVl.out (fun i h h' => Hji.out i h h' (by omega)))))
                    have c1 := (TX.out.below hbz).cells.1.2
                    go_wp2
                    go_roundw
                    case rel => exact ⟨k + 1, by omega, by go_num, HT.out, BX.out.trans (hbz.mono BX.out.size)⟩
                    case measure => simp [intOf]; omega
              · have gv : ((V.length : Int) != (U.length : Int)) = true := by simp; omega
                have HX' := Lib.hid (HX.out (by rw [HE.out, pairB_len (eq := normEq) hvl]; simp))
                go_wp2
                go_ret
                exact ⟨ret_bool (by rw [HX'.out, Bool.and_false]), FB.out⟩
          · refine then_world (fun X => Below Y.heap.size Y X ∧ Two X (Y.heap.size + 1) 81 (.string A) (.slice vo V.length vc) ∧ Two X Y.heap.size 81 (.string C) (.slice uo U.length uc)) ⟨(more (more (Below.refl _ _) _) _).drew, two_drew (twoNext Y _ 81 _ _), two_drew ((twoNew Y 81 _ _).alloc _)⟩ ?_
            rintro X ⟨hbX, tX, tY⟩
            have BX := Lib.hid (hbel.trans (hbX.mono hbel.size)); have VX := Lib.hid (HV.out.below hbX); have UX := Lib.hid (HU.out.below hbX); have TX := Lib.hid tX; have TY := Lib.hid tY
            clear hbX tX tY HV HU S1 hb0 hbd hp0 hq0 BR TA TB hbel
            generalize Y.heap.size = m2 at *
            generalize m2 + 1 = m1 at *
            have HE : Hid (attrEq (A, V) (C, U) = ((A.toList == C.toList) && pairB normEq V U)) := Lib.hid rfl
            have FB := Lib.hid (BW.out.trans (BX.out.mono BW.out.size))
            have c0 := TX.out.cells.1.1; have c1 := TX.out.cells.1.2; have c2 := TY.out.cells.1.1; have c3 := TY.out.cells.1.2
            have hlV := FV.out.1; have hlU := FU.out.1
            cases hn : (A.toList == C.toList)
            · have HX' := Lib.hid (HX.out (by rw [HE.out, hn]; rfl))
              go_wp2
              go_ret
              exact ⟨ret_bool (by rw [HX'.out, Bool.and_false]), FB.out⟩
            · by_cases hvl : V.length = U.length
              · have gv : ((V.length : Int) != (U.length : Int)) = false := by simp [hvl]
                have HVl := Lib.hid hvl
                have HE' := Lib.hid (HE.out.trans (by rw [hn]; rfl : _ = pairB normEq V U))
                clear hvl HE
                go_wp2_with fail
                clear c0 c2 hn gv
                go_loopw [8] (fun i Z => ∃ j : Nat, j ≤ V.length ∧ i = .int .i64 j ∧ (∀ i (h : i < V.length) (h' : i < U.length), i < j → normEq V[i] U[i] = true) ∧ Below X.heap.size X Z) (fun i _ => V.length - (intOf i).toNat)
                case atStart => exact ⟨0, Nat.zero_le _, rfl, fun j _ _ h => absurd h (Nat.not_lt_zero _), Below.refl _ _⟩
                case round =>
                  clear c1 c3
                  obtain ⟨j, hj, rfl, hji, hbz⟩ := hrel
                  have Hji := Lib.hid hji; clear hji
                  have hsz := hbz.size
                  by_cases hjl : j < V.length
                  · have hjl' : j < U.length := by have := HVl.out; omega
                    obtain ⟨pv, ov, rfl, hv0, hv1⟩ := VX.out.at hjl
                    obtain ⟨pu, ou, rfl, hu0, hu1⟩ := UX.out.at hjl'
                    have z1 := FV.out.max hjl
                    have z2 := FU.out.max hjl'
                    have HX2 : Hid (normEq V[j] U[j] = false → pairB attrEq l1 l2 = false) := Lib.hid (fun h => HX.out (HE'.out.trans (pairB_no hjl hjl' h)))
                    have HN2 : Hid (normEq V[j] U[j] = true → ∀ i (h : i < V.length) (h' : i < U.length), i < j + 1 → normEq V[i] U[i] = true) := Lib.hid (fun hn i h h' hij => by
                      by_cases e : i = j
                      · subst e; exact hn
                      · exact Hji.out i h h' (by omega))
                    have HQ : Hid (normEq V[j] U[j] = ((normS V[j]).toList == (normS U[j]).toList)) := Lib.hid rfl
                    have S2 : Hid (∀ Z : World, Below wr.heap.size wr Z → (Below wr.heap.size wr Z ∧ Z.cell? ⟨m1, 1, none⟩ = some (.slice (some ⟨pv, ov, none⟩) V.length vc) ∧ Z.cell? ⟨m2, 1, none⟩ = some (.slice (some ⟨pu, ou, none⟩) U.length uc) ∧ Z.cell? ⟨pv, ov + j, none⟩ = some (.string V[j]) ∧ Z.cell? ⟨pu, ou + j, none⟩ = some (.string U[j]))) :=
                      Lib.hid (fun Z h => by
                        have hz := hbz.trans (h.mono hsz)
                        exact ⟨h, (TX.out.below hz).cells.1.2, (TY.out.below hz).cells.1.2, (hz.cell (p := ⟨pv, ov + j, none⟩) hv0).trans hv1, (hz.cell (p := ⟨pu, ou + j, none⟩) hu0).trans hu1⟩)
                    have g4 : (0 : Int) ≤ (j : Int) := by omega
                    have g5 : (j : Int) < (V.length : Int) := by omega
                    have g6 : (j : Int) < (U.length : Int) := by omega
                    clear hv1 hu1
                    generalize V[j] = x at *
                    generalize U[j] = y at *
                    have H1 : Hid (∀ Z, Below wr.heap.size wr Z → Calls Try.prog 93 #[.string x] Z fun e w' => e = .returned (.string (normS x)) ∧ Below wr.heap.size wr w') := Lib.hid (fun Z h => SpecNorm_from wr x Z z1 h)
                    have H2 : Hid (∀ Z, Below wr.heap.size wr Z → Calls Try.prog 93 #[.string y] Z fun e w' => e = .returned (.string (normS y)) ∧ Below wr.heap.size wr w') := Lib.hid (fun Z h => SpecNorm_from wr y Z z2 h)
                    generalize normS x = nx at *
                    generalize normS y = ny at *
                    have hb0 : Below wr.heap.size wr wr := Below.refl _ _
                    have hbd := hb0.drew
                    have q1 := (S2.out wr hb0).2.1
                    cases hq : (nx.toList == ny.toList)
                    · have HX3 := Lib.hid (HX2.out (HQ.out.trans hq))
                      go_wp2_with fail
                      clear q1
                      go_region_held3 (fun Z => Below wr.heap.size wr Z ∧ Z.cell? ⟨m1, 1, none⟩ = some (.slice (some ⟨pv, ov, none⟩) V.length vc) ∧ Z.cell? ⟨m2, 1, none⟩ = some (.slice (some ⟨pu, ou, none⟩) U.length uc) ∧ Z.cell? ⟨pv, ov + j, none⟩ = some (.string x) ∧ Z.cell? ⟨pu, ou + j, none⟩ = some (.string y))
                        (exact S2.out _ (by assumption))
                        (first
                          | (go_at_call 93; (with_reducible refine (H1.out _ (by assumption)).mono ?_); rintro e w7 ⟨rfl, hb7⟩)
                          | (go_at_call 93; (with_reducible refine (H2.out _ (by assumption)).mono ?_); rintro e w8 ⟨rfl, hb8⟩)
                          | (fail "none"))
                      go_wp2
                      go_ret
                      exact ⟨ret_bool (by rw [HX3.out, Bool.and_false]), FB.out.trans ((hbz.trans (hb8.mono hsz)).mono FB.out.size)⟩
                    · have HN3 := Lib.hid (HN2.out (HQ.out.trans hq))
                      go_wp2_with fail
                      clear q1
                      go_region_held3 (fun Z => Below wr.heap.size wr Z ∧ Z.cell? ⟨m1, 1, none⟩ = some (.slice (some ⟨pv, ov, none⟩) V.length vc) ∧ Z.cell? ⟨m2, 1, none⟩ = some (.slice (some ⟨pu, ou, none⟩) U.length uc) ∧ Z.cell? ⟨pv, ov + j, none⟩ = some (.string x) ∧ Z.cell? ⟨pu, ou + j, none⟩ = some (.string y))
                        (exact S2.out _ (by assumption))
                        (first
                          | (go_at_call 93; (with_reducible refine (H1.out _ (by assumption)).mono ?_); rintro e w7 ⟨rfl, hb7⟩)
                          | (go_at_call 93; (with_reducible refine (H2.out _ (by assumption)).mono ?_); rintro e w8 ⟨rfl, hb8⟩)
                          | (fail "none"))
                      go_wp2
                      go_roundw
                      case rel => exact ⟨j + 1, by omega, by go_num, HN3.out, hbz.trans (hb8.mono hsz)⟩
                      case measure => simp [intOf]; omega
                  · have HT := Lib.hid (HN.out (HE'.out.trans (pairB_yes (eq := normEq) HVl.out (fun i h h' => Hji.out i h h' (by omega)))))
                    have c1 := (TX.out.below hbz).cells.1.2
                    go_wp2
                    go_roundw
                    case rel => exact ⟨k + 1, by omega, by go_num, HT.out, BX.out.trans (hbz.mono BX.out.size)⟩
                    case measure => simp [intOf]; omega
              · have gv : ((V.length : Int) != (U.length : Int)) = true := by simp; omega
                have HX' := Lib.hid (HX.out (by rw [HE.out, pairB_len (eq := normEq) hvl]; simp))
                go_wp2
                go_ret
                exact ⟨ret_bool (by rw [HX'.out, Bool.and_false]), FB.out⟩
        · have c1 := TA.out.cells.1.2
          have HT := Lib.hid (pairB_yes (eq := attrEq) HLen.out (fun j h h' => Hj.out j h h' (by omega)))
          go_wp2
          go_ret
          exact ⟨ret_bool (by rw [HSm.out, HT.out]; rfl), BR.out⟩
    · have gl : ((l1.length : Int) != (l2.length : Int)) = true := by simp; omega
      have HX := Lib.hid (pairB_len (eq := attrEq) hl)
      have FIN : Hid (∀ V, Below W.heap.size W V → Below w.heap.size w V) := Lib.hid (fun V h => BW.out.trans (h.mono BW.out.size))
      refine wp_region_held_drew (S := (fun V => Below W.heap.size W V ∧ V.cell? ⟨w.heap.size, 0, none⟩ = some (.slice ao d1.length ca) ∧ V.cell? ⟨w.heap.size, 1, none⟩ = some (.slice bo l1.length cb) ∧ V.cell? ⟨w.heap.size + 1, 0, none⟩ = some (.slice xo d2.length cx) ∧ V.cell? ⟨w.heap.size + 1, 1, none⟩ = some (.slice yo l2.length cy))) (by kernel_rfl) ?_ (fun hHeld => ?_)
      · (try dsimp only)
        exact SK.out _ (by assumption)
      refine wpAnyH_take (i := 0) (oi := { dst := some 9, op := Op.fieldAddr 43 (Operand.tmp 2) 0, type := 0, pos := "l03_entry.go:201", after := #[], guard := none }) (v := ?_) rfl (by kernel_rfl) (by kernel_rfl) (by kernel_rfl) (fun _ _ _ h => h) (Or.inl ⟨by rfl, ?_⟩) (by assumption) ?_
      rotate_left
      · intro w hSw; (try dsimp only at hSw); go_simp; (try with_reducible rfl)
      (try simp only [Act.put, List.setIfInBounds_toArray, List.set_cons_zero, List.set_cons_succ])
      refine wpAnyH_take (i := 1) (oi := { dst := some 10, op := Op.load 23 (Operand.tmp 9), type := 23, pos := "l03_entry.go:201", after := #[{ on := 0, ground := Ground.data }], guard := none }) (v := ?_) rfl (by kernel_rfl) (by kernel_rfl) (by kernel_rfl) (fun _ _ _ h => h) (Or.inl ⟨by rfl, ?_⟩) (by assumption) ?_
      rotate_left
      · intro w hSw; (try dsimp only at hSw); go_simp; (try with_reducible rfl)
      (try simp only [Act.put, List.setIfInBounds_toArray, List.set_cons_zero, List.set_cons_succ])
      refine wpAnyH_take (i := 3) (oi := { dst := some 12, op := Op.fieldAddr 43 (Operand.tmp 3) 0, type := 0, pos := "l03_entry.go:201", after := #[], guard := none }) (v := ?_) rfl (by kernel_rfl) (by kernel_rfl) (by kernel_rfl) (fun _ _ _ h => h) (Or.inl ⟨by rfl, ?_⟩) (by assumption) ?_
      rotate_left
      · intro w hSw; (try dsimp only at hSw); go_simp; (try with_reducible rfl)
      (try simp only [Act.put, List.setIfInBounds_toArray, List.set_cons_zero, List.set_cons_succ])
      refine wpAnyH_take (i := 4) (oi := { dst := some 13, op := Op.load 23 (Operand.tmp 12), type := 23, pos := "l03_entry.go:201", after := #[{ on := 3, ground := Ground.data }], guard := none }) (v := ?_) rfl (by kernel_rfl) (by kernel_rfl) (by kernel_rfl) (fun _ _ _ h => h) (Or.inl ⟨by rfl, ?_⟩) (by assumption) ?_
      rotate_left
      · intro w hSw; (try dsimp only at hSw); go_simp; (try with_reducible rfl)
      (try simp only [Act.put, List.setIfInBounds_toArray, List.set_cons_zero, List.set_cons_succ])
      refine wpAnyH_ready (rs := [2]) (by kernel_rfl) (by simp) ?_
      refine AllReadyH.cons (o := { dst := some 11, op := Op.call { callee := Callee.value (Operand.func 59), args := #[Operand.tmp 10], argTypes := #[23] }, type := 9, pos := "l03_entry.go:201", after := #[{ on := 1, ground := Ground.data }], guard := none }) rfl (fun K hK => ?_) AllReadyH.nil
      go_simp
      (refine (HK1.out _ (by assumption)).mono ?_; rintro e w1 ⟨rfl, hb1⟩; go_wp2_with fail)
      clear hHeld
      refine hK.out _ _ ?_ (fun hHeld => ?_)
      · (try dsimp only)
        exact SK.out _ (by assumption)
      clear hK K
      (try simp only [Act.put, List.setIfInBounds_toArray, List.set_cons_zero, List.set_cons_succ])
      refine wpAnyH_ready (rs := [5]) (by kernel_rfl) (by simp) ?_
      refine AllReadyH.cons (o := { dst := some 14, op := Op.call { callee := Callee.value (Operand.func 59), args := #[Operand.tmp 13], argTypes := #[23] }, type := 9, pos := "l03_entry.go:201", after := #[{ on := 4, ground := Ground.data }, { on := 2, ground := Ground.chain }], guard := none }) rfl (fun K hK => ?_) AllReadyH.nil
      go_simp
      (refine (HK2.out _ (by assumption)).mono ?_; rintro e w2 ⟨rfl, hb2⟩; go_wp2_with fail)
      clear hHeld
      refine hK.out _ _ ?_ (fun hHeld => ?_)
      · (try dsimp only)
        exact SK.out _ (by assumption)
      clear hK K
      (try simp only [Act.put, List.setIfInBounds_toArray, List.set_cons_zero, List.set_cons_succ])
      refine wpAnyH_take (i := 6) (oi := { dst := some 15, op := Op.binOp BinOp.neq 9 (Operand.tmp 11) (Operand.tmp 14) 9, type := 4, pos := "l03_entry.go:201", after := #[{ on := 2, ground := Ground.data }, { on := 5, ground := Ground.data }], guard := none }) (v := ?_) rfl (by kernel_rfl) (by kernel_rfl) (by kernel_rfl) (fun _ _ _ h => h) (Or.inl ⟨by rfl, ?_⟩) (by assumption) ?_
      rotate_left
      · intro w hSw; (try dsimp only at hSw); go_simp; (try with_reducible rfl)
      (try simp only [Act.put, List.setIfInBounds_toArray, List.set_cons_zero, List.set_cons_succ])
      refine wpAnyH_take (i := 7) (oi := { dst := some 16, op := Op.move (Operand.tmp 15), type := 4, pos := "l03_entry.go:201", after := #[{ on := 6, ground := Ground.data }, { on := 5, ground := Ground.chain }], guard := none }) (v := ?_) rfl (by kernel_rfl) (by kernel_rfl) (by kernel_rfl) (fun _ _ _ h => h) (Or.inl ⟨by rfl, ?_⟩) (by assumption) ?_
      rotate_left
      · intro w hSw; (try dsimp only at hSw); go_simp; (try with_reducible rfl)
      (try simp only [Act.put, List.setIfInBounds_toArray, List.set_cons_zero, List.set_cons_succ])
      refine wpAnyH_take (i := 8) (oi := { dst := some 17, op := Op.fieldAddr 43 (Operand.tmp 2) 1, type := 0, pos := "l03_entry.go:201", after := #[{ on := 7, ground := Ground.guard }], guard := some (7, false) }) (v := ?_) rfl (by kernel_rfl) (by kernel_rfl) (by kernel_rfl) (fun _ _ _ h => h) (Or.inl ⟨by rfl, ?_⟩) (by assumption) ?_
      rotate_left
      · intro w hSw; (try dsimp only at hSw); go_simp; (try with_reducible rfl)
      (try simp only [Act.put, List.setIfInBounds_toArray, List.set_cons_zero, List.set_cons_succ])
      refine wpAnyH_take (i := 9) (oi := { dst := some 18, op := Op.load 41 (Operand.tmp 17), type := 41, pos := "l03_entry.go:201", after := #[{ on := 8, ground := Ground.data }, { on := 7, ground := Ground.guard }], guard := some (7, false) }) (v := ?_) rfl (by kernel_rfl) (by kernel_rfl) (by kernel_rfl) (fun _ _ _ h => h) (Or.inl ⟨by rfl, ?_⟩) (by assumption) ?_
      rotate_left
      · intro w hSw; (try dsimp only at hSw); go_simp; (try with_reducible rfl)
      (try simp only [Act.put, List.setIfInBounds_toArray, List.set_cons_zero, List.set_cons_succ])
      refine wpAnyH_take (i := 10) (oi := { dst := some 19, op := Op.call { callee := Callee.builtin Builtin.len, args := #[Operand.tmp 18], argTypes := #[41] }, type := 3, pos := "l03_entry.go:201", after := #[{ on := 9, ground := Ground.data }, { on := 7, ground := Ground.guard }], guard := some (7, false) }) (v := ?_) rfl (by kernel_rfl) (by kernel_rfl) (by kernel_rfl) (fun _ _ _ h => h) (Or.inl ⟨by rfl, ?_⟩) (by assumption) ?_
      rotate_left
      · intro w hSw; (try dsimp only at hSw); go_simp; (try with_reducible rfl)
      (try simp only [Act.put, List.setIfInBounds_toArray, List.set_cons_zero, List.set_cons_succ])
      refine wpAnyH_take (i := 11) (oi := { dst := some 20, op := Op.fieldAddr 43 (Operand.tmp 3) 1, type := 0, pos := "l03_entry.go:201", after := #[{ on := 7, ground := Ground.guard }], guard := some (7, false) }) (v := ?_) rfl (by kernel_rfl) (by kernel_rfl) (by kernel_rfl) (fun _ _ _ h => h) (Or.inl ⟨by rfl, ?_⟩) (by assumption) ?_
      rotate_left
      · intro w hSw; (try dsimp only at hSw); go_simp; (try with_reducible rfl)
      (try simp only [Act.put, List.setIfInBounds_toArray, List.set_cons_zero, List.set_cons_succ])
      refine wpAnyH_take (i := 12) (oi := { dst := some 21, op := Op.load 41 (Operand.tmp 20), type := 41, pos := "l03_entry.go:201", after := #[{ on := 11, ground := Ground.data }, { on := 7, ground := Ground.guard }], guard := some (7, false) }) (v := ?_) rfl (by kernel_rfl) (by kernel_rfl) (by kernel_rfl) (fun _ _ _ h => h) (Or.inl ⟨by rfl, ?_⟩) (by assumption) ?_
      rotate_left
      · intro w hSw; (try dsimp only at hSw); go_simp; (try with_reducible rfl)
      (try simp only [Act.put, List.setIfInBounds_toArray, List.set_cons_zero, List.set_cons_succ])
      refine wpAnyH_take (i := 13) (oi := { dst := some 22, op := Op.call { callee := Callee.builtin Builtin.len, args := #[Operand.tmp 21], argTypes := #[41] }, type := 3, pos := "l03_entry.go:201", after := #[{ on := 12, ground := Ground.data }, { on := 7, ground := Ground.guard }], guard := some (7, false) }) (v := ?_) rfl (by kernel_rfl) (by kernel_rfl) (by kernel_rfl) (fun _ _ _ h => h) (Or.inl ⟨by rfl, ?_⟩) (by assumption) ?_
      rotate_left
      · intro w hSw; (try dsimp only at hSw); go_simp; (try with_reducible rfl)
      (try simp only [Act.put, List.setIfInBounds_toArray, List.set_cons_zero, List.set_cons_succ])
      refine wpAnyH_take (i := 14) (oi := { dst := some 23, op := Op.binOp BinOp.neq 3 (Operand.tmp 19) (Operand.tmp 22) 3, type := 4, pos := "l03_entry.go:201", after := #[{ on := 10, ground := Ground.data }, { on := 13, ground := Ground.data }, { on := 7, ground := Ground.guard }], guard := some (7, false) }) (v := ?_) rfl (by kernel_rfl) (by kernel_rfl) (by kernel_rfl) (fun _ _ _ h => h) (Or.inl ⟨by rfl, ?_⟩) (by assumption) ?_
      rotate_left
      · intro w hSw; (try dsimp only at hSw); go_simp; (try with_reducible rfl)
      (try simp only [Act.put, List.setIfInBounds_toArray, List.set_cons_zero, List.set_cons_succ])
      refine wpAnyH_take (i := 15) (oi := { dst := some 24, op := Op.pick (Operand.tmp 16) (Operand.const (Value.bool true)) (Operand.tmp 23), type := 4, pos := "l03_entry.go:201", after := #[{ on := 7, ground := Ground.data }, { on := 14, ground := Ground.data }], guard := none }) (v := ?_) rfl (by kernel_rfl) (by kernel_rfl) (by kernel_rfl) (fun _ _ _ h => h) (Or.inl ⟨by rfl, ?_⟩) (by assumption) ?_
      rotate_left
      · intro w hSw; (try dsimp only at hSw); go_simp; (try with_reducible rfl)
      (try simp only [Act.put, List.setIfInBounds_toArray, List.set_cons_zero, List.set_cons_succ])
      refine wpAnyH_done (by kernel_rfl) ?_ _
      go_wp2
      go_ret
      exact ⟨ret_bool (by rw [HX.out, hs]; rfl), FIN.out _ (by assumption)⟩
end Go.Proofs.Ytjajpdghamecoaa
/- Arguments that are names: where they lie. -/
namespace Go.Proofs.Ytjajpdghamecoaa
open Go.RowKit Go.ChangeShapes Go.WideShapes Go.Deep

theorem Try.struct114 : ∃ f0 f1 : Field, Try.prog.underlying 114 = some (.struct #[f0, f1]) ∧ f0.offset = 0 ∧ f1.offset = 1 ∧ Try.prog.underlying f0.type = some .string ∧ Try.prog.underlying f1.type = some .string ∧ Try.prog.cellsOf f0.type = 1 ∧ Try.prog.cellsOf f1.type = 1 := by
  refine ⟨_, _, Try.underlying114, ?_, ?_, ?_, ?_, ?_, ?_⟩
  all_goals kernel_rfl
theorem Try.cells114 : Try.prog.cellsOf 114 = 2 := by kernel_rfl
section
variable {H : Type} {enc : TypeId × Value → H} {w : World} {base : Nat} {spare : Nat → Bool} {held : Bool}
theorem open_dn {fuel : Nat} {ao : Option Addr} {len cap : Nat} {x : DataW H × List MemPlace} (h : DataW.trod enc Try.prog w base spare held fuel 35 [.slice ao len cap] = some x) :
    ∃ d : RdnL, len = d.length ∧ DnAt w ao d ∧ Long d ∧ len ≤ cap ∧ (ao = none → cap = 0) := by
  obtain ⟨f0, f1, hst, o0, o1, u0, u1, c0, c1⟩ := Try.struct114
  rcases open_slice_pairs Try.underlying35 hst Try.cells114 o0 o1 c0 c1 h with ⟨hcs, _⟩ | ⟨a, l, c, m, n, V0, V1, D0, D1, P0, P1, hcs, hb, hl, hm, hmm, _, hx⟩
  · simp at hcs
    obtain ⟨rfl, rfl, rfl⟩ := hcs
    exact ⟨[], rfl, .inl rfl, ⟨by simp, by simp⟩, Nat.le_refl _, fun _ => rfl⟩
  · simp at hcs
    obtain ⟨rfl, rfl, rfl⟩ := hcs
    have hle : len ≤ m := by rw [hmm]; split <;> omega
    have hs : ∀ i, i < len → ∃ s t : ByteArray, V0 i = .string s ∧ V1 i = .string t ∧ s.size ≤ maxLen ∧ t.size ≤ maxLen := by
      intro i hi
      obtain ⟨_, _, h1, h2⟩ := hx i (by omega)
      obtain ⟨s, e1, _, z1⟩ := DataW.trod_string u0 h1
      obtain ⟨t, e2, _, z2⟩ := DataW.trod_string u1 h2
      simp at e1 e2
      exact ⟨s, t, e1, e2, z1, z2⟩
    refine ⟨(List.range len).map fun i => (strOf (V0 i), strOf (V1 i)), by simp, ?_, ⟨by simp; unfold maxLen at hm; omega, ?_⟩, hl, fun h => by cases h⟩
    · by_cases h0 : len = 0
      · subst h0; exact .inl rfl
      · obtain ⟨b, off, spot⟩ := a
        have hspot : spot = none := by
          have := (hx 0 (by omega)).1
          simpa [Addr.add] using World.cell?_spot this
        subst hspot
        refine .inr ⟨b, off, rfl, ?_, fun i hi => ?_⟩
        · have := World.block_lt_of_cell? w _ (hx 0 (by omega)).1
          simpa [Addr.add] using this
        · have hi' : i < len := by simpa using hi
          obtain ⟨s, t, e1, e2, _, _⟩ := hs i hi'
          obtain ⟨h1, h2, _, _⟩ := hx i (by omega)
          rw [Go.WideShapes.add_plain] at h1 h2
          rw [List.getElem_map, List.getElem_range, e1, e2]
          rw [e1] at h1
          rw [e2] at h2
          exact ⟨h1, h2⟩
    · intro r hr
      obtain ⟨i, hi, rfl⟩ := List.mem_map.1 hr
      obtain ⟨s, t, e1, e2, z1, z2⟩ := hs i (by simpa using hi)
      rw [e1, e2]
      exact ⟨z1, z2⟩
end
end Go.Proofs.Ytjajpdghamecoaa
/- The helpers of the laws over entries: comparisons; arguments that are entries. -/
namespace Go.Proofs.Ytjajpdghamecoaa
open Go.RowKit
attribute [local go_sem ↓] Go.wp_at_zero Go.wp_at_succ

set_option maxRecDepth 100000 in
set_option maxHeartbeats 1000000 in
theorem eqStringS_same (ao bo : Option Addr) (d : List ByteArray) (ca cb : Nat) (w : World) (hda : StrsAt w ao d) (hdb : StrsAt w bo d) (hl : d.length ≤ 1048576) :
    Calls Try.prog 34 #[.slice ao d.length ca, .slice bo d.length cb] w fun e w' => e = .returned (.bool true) ∧ Below w.heap.size w w' := by
  have HA := Lib.hid hda; have HB := Lib.hid hdb; clear hda hdb
  go_enter Try.func34, Try.ntmps34
  go_wp2
  go_loopw [5] (fun i wr => ∃ k : Nat, k ≤ d.length ∧ i = .int .i64 k ∧ Below w.heap.size w wr) (fun i _ => d.length - (intOf i).toNat)
  case atStart => exact ⟨0, Nat.zero_le _, rfl, Below.refl _ _⟩
  case round =>
    obtain ⟨k, hk, rfl, hbel⟩ := hrel
    have hsz := hbel.size
    by_cases hlt : k < d.length
    · obtain ⟨p, off, rfl, hp0, hd1⟩ := HA.out.at hlt
      obtain ⟨q, off', rfl, hq0, he1⟩ := HB.out.at hlt
      generalize d[k] = A at *
      have c1 := (hbel.cell (p := ⟨p, off + k, none⟩) hp0).trans hd1
      have c2 := (hbel.cell (p := ⟨q, off' + k, none⟩) hq0).trans he1
      have hkk : (A.toList == A.toList) = true := by simp
      clear hd1 he1
      have g1 : (0 : Int) ≤ (k : Int) := by omega
      have g2 : (k : Int) < (d.length : Int) := by omega
      have hbd := hbel.drew
      have c1' : wr.drew.cell? ⟨p, off + k, none⟩ = some (.string A) := c1
      have c2' : wr.drew.cell? ⟨q, off' + k, none⟩ = some (.string A) := c2
      go_wp2_with fail
      go_region_held3 (fun W => Below w.heap.size w W ∧ W.cell? ⟨p, off + k, none⟩ = some (.string A) ∧ W.cell? ⟨q, off' + k, none⟩ = some (.string A))
        (first | exact ⟨hbel, c1, c2⟩ | exact ⟨hbd, c1', c2'⟩)
        (fail "none")
      all_goals
        go_wp2
        go_roundw
        case rel => exact ⟨k + 1, by omega, by go_num, by first | exact hbel | exact hbd⟩
        case measure => simp [intOf]; omega
    · go_wp2
      go_ret
      exact ⟨rfl, hbel⟩
theorem eqStringS_from (w0 : World) (ao bo : Option Addr) (d : List ByteArray) (ca cb : Nat) (w : World) (hB : Below w0.heap.size w0 w) (hda : StrsAt w ao d) (hdb : StrsAt w bo d) (hl : d.length ≤ 1048576) :
    Calls Try.prog 34 #[.slice ao d.length ca, .slice bo d.length cb] w fun e w' => e = .returned (.bool true) ∧ Below w0.heap.size w0 w' :=
  (eqStringS_same ao bo d ca cb w hda hdb hl).mono fun _ _ h => ⟨h.1, hB.trans (h.2.mono hB.size)⟩
set_option maxRecDepth 100000 in
set_option maxHeartbeats 1000000 in
theorem eqAttr_same (w0 : World) (A : ByteArray) (vo uo : Option Addr) (l : List ByteArray) (vc uc : Nat) (w : World) (hB : Below w0.heap.size w0 w) (hv : StrsAt w0 vo l) (hu : StrsAt w0 uo l) (hl : l.length ≤ 1048576) :
    Calls Try.prog 109 #[.agg #[.string A, .slice vo l.length vc], .agg #[.string A, .slice uo l.length uc]] w fun e w' => e = .returned (.bool true) ∧ Below w0.heap.size w0 w' := by
  have HV := Lib.hid hv; have HU := Lib.hid hu; have HB := Lib.hid hB; clear hv hu hB
  have hkk : (A.toList == A.toList) = true := by simp
  go_enter Try.func109, Try.ntmps109
  go_wp2_with fail
  have hb1 := more (more HB.out (.cells #[.string A, .slice vo l.length vc] 81)) (.cells #[.string A, .slice uo l.length uc] 81)
  refine (eqStringS_from w0 vo uo l vc uc _ hb1 (HV.out.below hb1) (HU.out.below hb1) hl).mono ?_
  rintro e w2 ⟨rfl, hb2⟩
  clear hb1
  go_wp2
  go_ret
  exact ⟨rfl, hb2⟩
set_option maxRecDepth 100000 in
set_option maxHeartbeats 1000000 in
theorem eqAttrS_same (ao bo : Option Addr) (d : List AttrV) (ca cb : Nat) (w : World) (hda : AttrsAt w ao d) (hdb : AttrsAt w bo d) (hf : FitsA d) :
    Calls Try.prog 68 #[.slice ao d.length ca, .slice bo d.length cb] w fun e w' => e = .returned (.bool true) ∧ Below w.heap.size w w' := by
  have hl := hf.1
  have HA := Lib.hid hda; have HB := Lib.hid hdb; have HF := Lib.hid hf; clear hda hdb hf
  go_enter Try.func68, Try.ntmps68
  go_wp2
  go_loopw [5] (fun i wr => ∃ k : Nat, k ≤ d.length ∧ i = .int .i64 k ∧ Below w.heap.size w wr) (fun i _ => d.length - (intOf i).toNat)
  case atStart => exact ⟨0, Nat.zero_le _, rfl, Below.refl _ _⟩
  case round =>
    obtain ⟨k, hk, rfl, hbel⟩ := hrel
    have hsz := hbel.size
    by_cases hlt : k < d.length
    · obtain ⟨p, off, vo, vc, rfl, hp0, hd1, hd2, hv⟩ := HA.out.at hlt
      obtain ⟨q, off', uo, uc, rfl, hq0, he1, he2, hu⟩ := HB.out.at hlt
      have hz := (HF.out.at hlt).2.1
      have HV := Lib.hid hv.1; have HU := Lib.hid hu.1; clear hv hu
      generalize d[k].1 = A at *
      generalize d[k].2 = V at *
      have SK : Hid (∀ W : World, Below w.heap.size w W → (Below w.heap.size w W ∧ W.cell? ⟨p, off + k * 2, none⟩ = some (.string A) ∧ W.cell? ⟨p, off + k * 2 + 1, none⟩ = some (.slice vo V.length vc) ∧ W.cell? ⟨q, off' + k * 2, none⟩ = some (.string A) ∧ W.cell? ⟨q, off' + k * 2 + 1, none⟩ = some (.slice uo V.length uc))) :=
        Lib.hid (fun W h => ⟨h, (h.cell (p := ⟨p, _, none⟩) hp0).trans hd1, (h.cell (p := ⟨p, _, none⟩) hp0).trans hd2, (h.cell (p := ⟨q, _, none⟩) hq0).trans he1, (h.cell (p := ⟨q, _, none⟩) hq0).trans he2⟩)
      have hbd := hbel.drew
      clear hd1 hd2 he1 he2
      have g1 : (0 : Int) ≤ (k : Int) := by omega
      have g2 : (k : Int) < (d.length : Int) := by omega
      go_wp2_with fail
      go_region_held3 (fun W => Below w.heap.size w W ∧ W.cell? ⟨p, off + k * 2, none⟩ = some (.string A) ∧ W.cell? ⟨p, off + k * 2 + 1, none⟩ = some (.slice vo V.length vc) ∧ W.cell? ⟨q, off' + k * 2, none⟩ = some (.string A) ∧ W.cell? ⟨q, off' + k * 2 + 1, none⟩ = some (.slice uo V.length uc))
        (exact SK.out _ (by assumption))
        (first | (go_at_call 109; refine (eqAttr_same w _ _ _ _ _ _ _ (by assumption) HV.out HU.out hz).mono ?_; rintro e w2 ⟨rfl, hb2⟩) | (fail "none"))
      all_goals
        go_wp2
        go_roundw
        case rel => exact ⟨k + 1, by omega, by go_num, hb2⟩
        case measure => simp [intOf]; omega
    · go_wp2
      go_ret
      exact ⟨rfl, hbel⟩
set_option maxRecDepth 100000 in
set_option maxHeartbeats 1000000 in
theorem eqEntry_at (ao bo xo yo : Option Addr) (d : RdnL) (l : List AttrV) (ca cb cx cy : Nat) (w : World) (hv1 : DnAt w ao d) (hv2 : AttrsAt w bo l) (hu1 : DnAt w xo d) (hu2 : AttrsAt w yo l) (hd : d.length ≤ 1048576) (hf : FitsA l) :
    Calls Try.prog 31 #[.agg #[.slice ao d.length ca, .slice bo l.length cb], .agg #[.slice xo d.length cx, .slice yo l.length cy]] w fun e w' => e = .returned (.bool true) ∧ Below w.heap.size w w' := by
  have HV1 := Lib.hid hv1; have HV2 := Lib.hid hv2; have HU1 := Lib.hid hu1; have HU2 := Lib.hid hu2; have HF := Lib.hid hf
  clear hv1 hv2 hu1 hu2 hf
  go_enter Try.func31, Try.ntmps31
  go_wp2_with fail
  refine calls_any' (fun W => Below w.heap.size w W ∧ Two W w.heap.size 43 (.slice ao d.length ca) (.slice bo l.length cb) ∧ Two W (w.heap.size + 1) 43 (.slice xo d.length cx) (.slice yo l.length cy)) ⟨more (more (Below.refl _ _) _) _, (twoNew w 43 _ _).alloc _, (by have := twoNew (w.alloc (Obj.cells #[.slice ao d.length ca, .slice bo l.length cb] 43)) 43 (.slice xo d.length cx) (.slice yo l.length cy); simpa using this)⟩ ?_
  rintro W ⟨hbW, t0, t1⟩
  refine (eqRdnS_same ao xo d ca cx W (HV1.out.below hbW) (HU1.out.below hbW) hd).mono ?_
  rintro e w2 ⟨rfl, hb2⟩
  have B2 := Lib.hid (hbW.trans (hb2.mono hbW.size))
  obtain ⟨⟨c0, c1⟩, _⟩ := (t0.below hb2).cells
  obtain ⟨⟨d0, d1⟩, _⟩ := (t1.below hb2).cells
  clear hbW t0 t1 hb2
  go_wp2_with fail
  refine (eqAttrS_same bo yo l cb cy w2 (HV2.out.below B2.out) (HU2.out.below B2.out) HF.out).mono ?_
  rintro e w3 ⟨rfl, hb3⟩
  have B3 := Lib.hid (B2.out.trans (hb3.mono B2.out.size))
  clear hb3
  go_wp2
  go_ret
  exact ⟨rfl, B3.out⟩
theorem eqEntry_same (v u : Value) (d : RdnL) (l : List AttrV) (w : World) (hv : EntAt w v d l) (hu : EntAt w u d l) (hd : d.length ≤ 1048576) (hf : FitsA l) :
    Calls Try.prog 31 #[v, u] w fun e w' => e = .returned (.bool true) ∧ Below w.heap.size w w' := by
  obtain ⟨ao, ca, bo, cb, rfl, hv1, hv2, _, _⟩ := hv
  obtain ⟨xo, cx, yo, cy, rfl, hu1, hu2, _, _⟩ := hu
  exact eqEntry_at ao bo xo yo d l ca cb cx cy w hv1 hv2 hu1 hu2 hd hf
end Go.Proofs.Ytjajpdghamecoaa
/- Arguments that are entries: where they lie. -/
namespace Go.Proofs.Ytjajpdghamecoaa
open Go.RowKit Go.ChangeShapes Go.WideShapes Go.Joins Go.Deep

theorem list_of {α : Type} (Q : Nat → α → Prop) (n : Nat) (h : ∀ i, i < n → ∃ a, Q i a) : ∃ l : List α, l.length = n ∧ ∀ i (hi : i < l.length), Q i l[i] := by
  induction n with
  | zero => exact ⟨[], rfl, fun i hi => by simp at hi⟩
  | succ n ih =>
    obtain ⟨l, hl, hq⟩ := ih fun i hi => h i (by omega)
    obtain ⟨a, ha⟩ := h n (by omega)
    refine ⟨l ++ [a], by simp [hl], fun i hi => ?_⟩
    by_cases e : i < l.length
    · rw [List.getElem_append_left e]; exact hq i e
    · have : i = n := by simp at hi; omega
      subst this
      rw [List.getElem_append_right (by omega)]
      simpa using ha
theorem Try.cells9 : Try.prog.cellsOf 9 = 1 := by kernel_rfl
theorem Try.struct116 : ∃ f0 f1 : Field, Try.prog.underlying 116 = some (.struct #[f0, f1]) ∧ f0.offset = 0 ∧ f1.offset = 1 ∧ Try.prog.underlying f0.type = some .string ∧ Try.prog.underlying f1.type = some (.slice 9) ∧ Try.prog.cellsOf f0.type = 1 ∧ Try.prog.cellsOf f1.type = 1 := by
  refine ⟨_, _, Try.underlying116, ?_, ?_, ?_, ?_, ?_, ?_⟩
  all_goals kernel_rfl
theorem Try.cells116 : Try.prog.cellsOf 116 = 2 := by kernel_rfl
theorem Try.cells38 : Try.prog.cellsOf 38 = 2 := by kernel_rfl
section
variable {H : Type} {enc : TypeId × Value → H} {w : World} {base : Nat} {spare : Nat → Bool} {held : Bool}
theorem open_vals {t : TypeId} {fuel : Nat} {v : Value} {x : DataW H × List MemPlace} (ht : Try.prog.underlying t = some (.slice 9)) (h : DataW.trod enc Try.prog w base spare held fuel t [v] = some x) :
    ∃ vo vc, ∃ l : List ByteArray, v = .slice vo l.length vc ∧ ValsAt w vo vc l ∧ LongV l := by
  rcases open_strings ht Try.underlying9 Try.cells9 h with ⟨hcs, _⟩ | ⟨a, len, cap, ss, hcs, hb, hl, hm, hlen, _, hc, hs⟩
  · simp at hcs
    subst hcs
    exact ⟨none, 0, [], rfl, ⟨.inl rfl, Nat.le_refl _, fun _ => rfl⟩, by simp, by simp⟩
  · simp at hcs
    subst hcs
    have hle : len ≤ ss.length := by rw [hlen]; split <;> omega
    have htl : (ss.take len).length = len := by rw [List.length_take]; omega
    refine ⟨some a, cap, ss.take len, by rw [htl], ⟨?_, by omega, fun e => by cases e⟩, by unfold maxLen at hm; omega, fun s hs' => hs s (List.mem_of_mem_take hs')⟩
    by_cases h0 : len = 0
    · left; exact List.length_eq_zero_iff.1 (by omega)
    · obtain ⟨b, off, spot⟩ := a
      have hspot : spot = none := by
        have := hc 0 (by omega)
        simpa [Addr.add] using World.cell?_spot this
      subst hspot
      refine .inr ⟨b, off, rfl, ?_, fun i hi => ?_⟩
      · have := World.block_lt_of_cell? w _ (hc 0 (by omega))
        simpa [Addr.add] using this
      · have := hc i (by omega)
        rw [Go.WideShapes.add_plain] at this
        have hi2 : i < ss.length := by omega
        rw [this, List.getElem_take, List.getD_eq_getElem?_getD, List.getElem?_eq_getElem hi2]
        rfl
theorem open_attrs {fuel : Nat} {ao : Option Addr} {len cap : Nat} {x : DataW H × List MemPlace} (h : DataW.trod enc Try.prog w base spare held fuel 36 [.slice ao len cap] = some x) :
    ∃ l : List AttrV, len = l.length ∧ AttrsAt w ao l ∧ LongA l ∧ len ≤ cap ∧ (ao = none → cap = 0) := by
  obtain ⟨f0, f1, hst, o0, o1, u0, u1, c0, c1⟩ := Try.struct116
  rcases open_slice_pairs Try.underlying36 hst Try.cells116 o0 o1 c0 c1 h with ⟨hcs, _⟩ | ⟨a, l, c, m, n, V0, V1, D0, D1, P0, P1, hcs, hb, hl, hm, hmm, _, hx⟩
  · simp at hcs
    obtain ⟨rfl, rfl, rfl⟩ := hcs
    exact ⟨[], rfl, .inl rfl, ⟨by simp, by simp⟩, Nat.le_refl _, fun _ => rfl⟩
  · simp at hcs
    obtain ⟨rfl, rfl, rfl⟩ := hcs
    have hle : len ≤ m := by rw [hmm]; split <;> omega
    obtain ⟨L, hL, hq⟩ := list_of (fun i (a : AttrV) => V0 i = .string a.1 ∧ (∃ vo vc, V1 i = .slice vo a.2.length vc ∧ ValsAt w vo vc a.2) ∧ a.1.size ≤ maxLen ∧ LongV a.2) len (by
      intro i hi
      obtain ⟨_, _, h1, h2⟩ := hx i (by omega)
      obtain ⟨s, e1, _, z1⟩ := DataW.trod_string u0 h1
      obtain ⟨vo, vc, l, e2, e3, z2⟩ := open_vals u1 h2
      simp at e1
      exact ⟨(s, l), e1, ⟨vo, vc, e2, e3⟩, z1, z2⟩)
    refine ⟨L, hL.symm, ?_, ⟨by unfold maxLen at hm; omega, ?_⟩, hl, fun h => by cases h⟩
    · by_cases h0 : len = 0
      · left; exact List.length_eq_zero_iff.1 (by omega)
      · obtain ⟨b, off, spot⟩ := a
        have hspot : spot = none := by
          have := (hx 0 (by omega)).1
          simpa [Addr.add] using World.cell?_spot this
        subst hspot
        refine .inr ⟨b, off, rfl, ?_, fun i hi => ?_⟩
        · have := World.block_lt_of_cell? w _ (hx 0 (by omega)).1
          simpa [Addr.add] using this
        · obtain ⟨e1, ⟨vo, vc, e2, e3⟩, _, _⟩ := hq i hi
          obtain ⟨h1, h2, _, _⟩ := hx i (by omega)
          rw [Go.WideShapes.add_plain] at h1 h2
          rw [e1] at h1
          rw [e2] at h2
          exact ⟨h1, vo, vc, h2, e3⟩
    · intro r hr
      obtain ⟨i, hi, rfl⟩ := List.getElem_of_mem hr
      obtain ⟨_, _, z1, z2⟩ := hq i hi
      exact ⟨z1, z2⟩
theorem slice_of {t e : TypeId} {fuel : Nat} {v : Value} {x : DataW H × List MemPlace} (ht : Try.prog.underlying t = some (.slice e)) (h : DataW.trod enc Try.prog w base spare held fuel t [v] = some x) : ∃ ao len cap, v = .slice ao len cap := by
  rcases DataW.trod_slice ht h with ⟨h0, _⟩ | ⟨a, len, cap, elems, rest, n, _, h0, _⟩
  · simp at h0; exact ⟨_, _, _, h0⟩
  · simp at h0; exact ⟨_, _, _, h0⟩
set_option maxRecDepth 100000 in
theorem open_entry {r : Reach} {b0 : Nat} {v : Value} {x : DataW H} {p : List MemPlace} (hv : Value.okWide Try.prog w r b0 38 v) (h : DataW.Trod enc Try.prog w base spare held 38 v x p) :
    ∃ ao ca bo cb, ∃ (d : RdnL) (l : List AttrV), v = .agg #[.slice ao d.length ca, .slice bo l.length cb] ∧ DnAt w ao d ∧ Long d ∧ AttrsAt w bo l ∧ LongA l := by
  obtain ⟨c0, c1, y0, y1, m, rfl, _, _, hy0, hy1⟩ := open_agg2 Try.underlying38 (by kernel_rfl) Try.cells38 hv h
  obtain ⟨ao, n0, ca, rfl⟩ := slice_of Try.underlying35 hy0
  obtain ⟨bo, n1, cb, rfl⟩ := slice_of Try.underlying36 hy1
  obtain ⟨d, rfl, h1, h2, _, _⟩ := open_dn hy0
  obtain ⟨l, rfl, h3, h4, _, _⟩ := open_attrs hy1
  exact ⟨ao, ca, bo, cb, d, l, rfl, h1, h2, h3, h4⟩
end
end Go.Proofs.Ytjajpdghamecoaa
/- The law FnExactEntryRight: its walk. -/
namespace Go.Proofs.Ytjajpdghamecoaa
open Go.RowKit
attribute [local go_sem ↓] Go.wp_at_zero Go.wp_at_succ

theorem EntAt.below {w w' : World} {v : Value} {d : RdnL} {l : List AttrV} (h : EntAt w v d l) (hb : Below w.heap.size w w') : EntAt w' v d l := by
  obtain ⟨ao, ca, bo, cb, h1, h2, h3, h4⟩ := h
  exact ⟨ao, ca, bo, cb, h1, h2.below hb, h3.below hb, h4⟩
theorem fitsE {d : RdnL} {l : List AttrV} (h : sizeE d l ≤ 1048576) : Fits d ∧ FitsA l := by
  unfold sizeE at h
  exact ⟨fits_of (by omega), fitsA_of (by omega)⟩
theorem Right_ent (v : Value) (d : RdnL) (l : List AttrV) (w : World) (h : EntAt w v d l) (hfd : Fits d) (hfl : FitsA l) :
    Calls Try.prog 30 #[v] w fun e w' => e = .returned (.bool (rightB d l)) ∧ Below w.heap.size w w' := by
  obtain ⟨ao, ca, bo, cb, rfl, h2, h3, _, _⟩ := h
  exact EntryRight_any ao bo d l ca cb w h2 h3 hfd hfl
theorem SpecRight_ent (v : Value) (d : RdnL) (l : List AttrV) (w : World) (h : EntAt w v d l) (hfd : Fits d) (hfl : FitsA l) :
    Calls Try.prog 28 #[v] w fun e w' => e = .returned (.bool (rightB d l)) ∧ Below w.heap.size w w' := by
  obtain ⟨ao, ca, bo, cb, rfl, h2, h3, _, _⟩ := h
  exact SpecEntryRight_any ao bo d l ca cb w h2 h3 hfd hfl
theorem eqEntry_any (ao bo xo yo : Option Addr) (d : RdnL) (l : List AttrV) (ca cb cx cy : Nat) (w : World) (h1 : DnAt w ao d) (h2 : AttrsAt w bo l) (h3 : DnAt w xo d) (h4 : AttrsAt w yo l) (hd : d.length ≤ 1048576) (hf : FitsA l) :
    Calls Try.prog 31 #[.agg #[.slice ao d.length ca, .slice bo l.length cb], .agg #[.slice xo d.length cx, .slice yo l.length cy]] w fun e w' => e = .returned (.bool true) ∧ Below w.heap.size w w' :=
  eqEntry_at ao bo xo yo d l ca cb cx cy w h1 h2 h3 h4 hd hf
set_option maxRecDepth 100000 in
set_option maxHeartbeats 1000000 in
theorem FnExactEntryRight_walk (ao bo : Option Addr) (d : RdnL) (l : List AttrV) (ca cb : Nat) (w : World) (hd : DnAt w ao d) (hl : AttrsAt w bo l) (hfd : Long d) (hfl : LongA l) :
    Calls Try.prog 5 #[.agg #[.slice ao d.length ca, .slice bo l.length cb]] w fun e w' => e = .returned (.bool true) ∧ Below w.heap.size w w' := by
  have HD := Lib.hid hd; have HL := Lib.hid hl; have LD := Lib.hid hfd; have LL := Lib.hid hfl; clear hd hl hfd hfl
  go_enter Try.func5, Try.ntmps5
  have HB0 : Hid (Below w.heap.size w (w.alloc (.cells #[.slice ao d.length ca, .slice bo l.length cb] 38))) := Lib.hid (more (Below.refl _ _) _)
  have HT0 : Hid (Two (w.alloc (.cells #[.slice ao d.length ca, .slice bo l.length cb] 38)) w.heap.size 38 (.slice ao d.length ca) (.slice bo l.length cb)) := Lib.hid (twoNew w 38 _ _)
  go_wp2_with fail
  refine (szEntry_any ao bo d l ca cb 1048576 _ (HD.out.below HB0.out) (HL.out.below HB0.out) LD.out LL.out (by omega) (by omega)).mono ?_
  rintro e w1 ⟨rfl, b1'⟩
  have b1 := HB0.out.trans (b1'.mono HB0.out.size)
  have T1 := Lib.hid (HT0.out.below b1')
  obtain ⟨⟨p0, p1⟩, _⟩ := T1.out.cells
  clear b1'
  by_cases hfit : ((sizeE d l : Nat) : Int) ≤ 1048576
  · rw [leftR_pos hfit]
    obtain ⟨hfd, hfl⟩ := fitsE (d := d) (l := l) (by omega)
    have FD := Lib.hid hfd; have FL := Lib.hid hfl
    have hdl := hfd.1
    clear hfd hfl
    have h0 : ¬ (1048576 : Int) - ((sizeE d l : Nat) : Int) < 0 := by omega
    generalize ((sizeE d l : Nat) : Int) = t at *
    go_wp2_with fail
    refine (toEntry_any ao bo d l ca cb w1 (HD.out.below b1) (HL.out.below b1) hdl FL.out).mono ?_
    rintro e w2 ⟨v2, rfl, e2, b2⟩
    have B2 := Lib.hid (b1.trans (b2.mono b1.size))
    obtain ⟨⟨q0, q1⟩, _⟩ := (T1.out.below b2).cells
    have T2 := Lib.hid (T1.out.below b2)
    clear b2
    go_wp2_with fail
    refine (SpecRight_ent v2 d l w2 e2 FD.out FL.out).mono ?_
    rintro e w3 ⟨rfl, b3⟩
    have B3 := Lib.hid (B2.out.trans (b3.mono B2.out.size))
    have T3 := Lib.hid (T2.out.below b3)
    obtain ⟨⟨r0, r1⟩, _⟩ := T3.out.cells
    clear b3 e2
    go_wp2_with fail
    refine (toEntry_any ao bo d l ca cb w3 (HD.out.below B3.out) (HL.out.below B3.out) hdl FL.out).mono ?_
    rintro e w4 ⟨v4, rfl, e4, b4⟩
    have B4 := Lib.hid (B3.out.trans (b4.mono B3.out.size))
    have T4 := Lib.hid (T3.out.below b4)
    obtain ⟨xo, cx, yo, cy, rfl, x4, y4, _, _⟩ := e4
    have X4 := Lib.hid x4; have Y4 := Lib.hid y4
    clear b4 x4 y4
    go_wp2_with fail
    refine calls_any' (fun W => Below w.heap.size w W ∧ Two W w.heap.size 38 (.slice ao d.length ca) (.slice bo l.length cb) ∧ Two W w4.heap.size 43 (.slice xo d.length cx) (.slice yo l.length cy) ∧ DnAt W xo d ∧ AttrsAt W yo l) ⟨more B4.out _, T4.out.alloc _, twoNew w4 43 _ _, X4.out.below (more (Below.refl _ _) _), Y4.out.below (more (Below.refl _ _) _)⟩ ?_
    generalize w4.heap.size = G
    clear B4 T4 X4 Y4 T3 T2 T1 r0 r1 q0 q1 p0 p1
    rintro W ⟨hbW, t0, t1, x5, y5⟩
    refine (EntryRight_any xo yo d l cx cy W x5 y5 FD.out FL.out).mono ?_
    rintro e w5 ⟨rfl, b5⟩
    have B5 := Lib.hid (hbW.trans (b5.mono hbW.size))
    have T5 := Lib.hid (t0.below b5); have U5 := Lib.hid (t1.below b5); have X5 := Lib.hid (x5.below b5); have Y5 := Lib.hid (y5.below b5)
    obtain ⟨⟨p0, p1⟩, _⟩ := T5.out.cells
    obtain ⟨⟨q0, q1⟩, _⟩ := U5.out.cells
    clear hbW t0 t1 x5 y5 b5
    generalize rightB d l = r at *
    have hrr : (r != r) = false := by simp
    have SK : Hid (∀ V : World, Below w5.heap.size w5 V → (Below w5.heap.size w5 V ∧ V.cell? ⟨w.heap.size, 0, none⟩ = some (.slice ao d.length ca) ∧ V.cell? ⟨w.heap.size, 1, none⟩ = some (.slice bo l.length cb) ∧ V.cell? ⟨G, 0, none⟩ = some (.slice xo d.length cx) ∧ V.cell? ⟨G, 1, none⟩ = some (.slice yo l.length cy))) :=
      Lib.hid (fun V h => ⟨h, (T5.out.below h).cells.1.1, (T5.out.below h).cells.1.2, (U5.out.below h).cells.1.1, (U5.out.below h).cells.1.2⟩)
    have H29 : Hid (∀ V, Below w5.heap.size w5 V → Calls Try.prog 29 #[.agg #[.slice ao d.length ca, .slice bo l.length cb]] V fun e w' => (∃ zo cz uo cu, e = .returned (.agg #[.slice zo d.length cz, .slice uo l.length cu]) ∧ DnAt w' zo d ∧ AttrsAt w' uo l) ∧ Below w5.heap.size w5 w') :=
      Lib.hid (fun V h => (toEntry_any ao bo d l ca cb V (HD.out.below (B5.out.trans (h.mono B5.out.size))) (HL.out.below (B5.out.trans (h.mono B5.out.size))) hdl FL.out).mono fun e w' ⟨v, h1, ⟨zo, cz, uo, cu, h2, h3, h4, _⟩, h5⟩ => ⟨⟨zo, cz, uo, cu, by rw [h1, h2], h3, h4⟩, h.trans (h5.mono h.size)⟩)
    have H31 : Hid (∀ V zo cz uo cu, Below w5.heap.size w5 V → DnAt V zo d → AttrsAt V uo l → Calls Try.prog 31 #[.agg #[.slice xo d.length cx, .slice yo l.length cy], .agg #[.slice zo d.length cz, .slice uo l.length cu]] V fun e w' => e = .returned (.bool true) ∧ Below w5.heap.size w5 w') :=
      Lib.hid (fun V zo cz uo cu h h3 h4 => (eqEntry_any xo yo zo uo d l cx cy cz cu V (X5.out.below h) (Y5.out.below h) h3 h4 hdl FL.out).mono fun _ _ g => ⟨g.1, h.trans (g.2.mono h.size)⟩)
    have hb0 : Below w5.heap.size w5 w5 := Below.refl _ _
    have hbd := hb0.drew
    clear p0 p1 q0 q1
    go_wp2_with fail
    go_region_held3 (fun V => Below w5.heap.size w5 V ∧ V.cell? ⟨w.heap.size, 0, none⟩ = some (.slice ao d.length ca) ∧ V.cell? ⟨w.heap.size, 1, none⟩ = some (.slice bo l.length cb) ∧ V.cell? ⟨G, 0, none⟩ = some (.slice xo d.length cx) ∧ V.cell? ⟨G, 1, none⟩ = some (.slice yo l.length cy))
      (exact SK.out _ (by assumption))
      (first
        | (go_at_call 29; refine (H29.out _ (by assumption)).mono ?_; rintro e w6 ⟨⟨zo, cz, uo, cu, rfl, hz6, hu6⟩, hb6⟩; have Z6 := Lib.hid hz6; have V6 := Lib.hid hu6; clear hz6 hu6)
        | (go_at_call 31; refine (H31.out _ _ _ _ _ (by assumption) ?_ ?_).mono ?_; (focus (first | exact Z6.out | exact Z6.out.below ((Below.refl _ _).drew))); (focus (first | exact V6.out | exact V6.out.below ((Below.refl _ _).drew))); rintro e w7 ⟨rfl, hb7⟩)
        | (fail "none"))
    all_goals
      go_wp2
      go_ret
      exact ⟨rfl, B5.out.trans (hb7.mono B5.out.size)⟩
  · rw [leftR_neg hfit]
    clear hfit
    go_wp2
    go_ret
    exact ⟨rfl, b1⟩
end Go.Proofs.Ytjajpdghamecoaa
