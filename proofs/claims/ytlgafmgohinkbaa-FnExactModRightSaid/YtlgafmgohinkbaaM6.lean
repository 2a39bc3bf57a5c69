/- Merged texts: NewB, ClsMath, ClsR1, ClsR2, ClsR3, AclR, AclR2, ClsB. -/
import Derived.Test.YtlgafmgohinkbaaM5
import Derived.Test.YtlgafmgohinkbaaM3
import Derived.Test.YtlgafmgohinkbaaM4
import Derived.Test.YtlgafmgohinkbaaM2
/- Which values may be set: the specification. -/
namespace Go.Proofs.Ytlgafmgohinkbaa
open Go.RowKit
attribute [local go_sem ↓] Go.wp_at_zero Go.wp_at_succ

theorem Try.elemS9 : Try.prog.elem 29 = 9 := by kernel_rfl
theorem Try.sizeS9 (w : World) : (sizeOf 9).run Try.prog w = .ok 1 w := by kernel_rfl
theorem findI_miss {α : Type} {p : α → Bool} {l : List α} (h : findI p l < 0) : ∀ a ∈ l, p a = false := by
  unfold findI at h
  cases hf : l.findIdx? p with
  | none =>
    rw [List.findIdx?_eq_none_iff] at hf
    exact fun a ha => hf a ha
  | some i => rw [hf] at h; simp at h; omega
theorem StrsAt.take {w : World} {ao : Option Addr} {o : List ByteArray} (h : StrsAt w ao o) (k : Nat) : StrsAt w ao (o.take k) := by
  rcases h with h | ⟨b, off, h1, h2, h3⟩
  · subst h; exact .inl (by simp)
  · exact .inr ⟨b, off, h1, h2, fun i hi => by rw [List.getElem_take]; exact h3 i (by rw [List.length_take] at hi; omega)⟩
theorem head36 (a : Addr) (n k cap : Nat) (hk : k ≤ cap) (W : World) : (Instr.slice 29 (.slice (some a) n cap) none (some (.int .i64 (k : Int))) none).run Try.prog W = .ok (.slice (some a) k cap) W := by
  rw [run_slice_h W 29 (some a) n cap (by rw [Try.elemS9]; exact Try.underlying29) .i64 (k : Int) (by omega) (by omega), Try.elemS9, Try.sizeS9]
  simp [Result.andThen, sliced]
  intro _
  unfold Addr.add; split <;> simp_all
theorem diff_snoc {L : List ByteArray} {x : ByteArray} (h : Diff L) (hx : findI (likeV x) L < 0) : Diff (L ++ [x]) := by
  unfold Diff
  rw [List.pairwise_append]
  refine ⟨h, by simp, fun a ha b hb => ?_⟩
  simp at hb; subst hb; exact findI_miss hx a ha
theorem findI_hit {α : Type} {p : α → Bool} {l : List α} (h : ¬ findI p l < 0) : ∃ a ∈ l, p a = true := by
  unfold findI at h
  cases hf : l.findIdx? p with
  | none => rw [hf] at h; simp at h
  | some i =>
    rw [List.findIdx?_eq_some_iff_getElem] at hf
    exact ⟨l[i]'hf.1, List.getElem_mem _, hf.2.1⟩
theorem diff_not {V : List ByteArray} {k : Nat} (hk : k < V.length) (h : ¬ findI (likeV V[k]) (V.take k) < 0) : ¬ Diff V := by
  intro hd
  obtain ⟨a, ha, hp⟩ := findI_hit h
  have h1 : Diff (V.take k ++ V.drop k) := by rw [List.take_append_drop]; exact hd
  unfold Diff at h1
  rw [List.pairwise_append] at h1
  have h2 := h1.2.2 a ha V[k] (by rw [List.drop_eq_getElem_cons hk]; exact List.mem_cons_self)
  have h3 : normEq a V[k] = true := hp
  rw [h2] at h3; cases h3
set_option maxRecDepth 100000 in
set_option maxHeartbeats 1000000 in
theorem l03New_any (vo : Option Addr) (V : List ByteArray) (vc : Nat) (w : World) (hv : ValsAt w vo vc V) (hf : FitsV V) :
    Calls Try.prog 83 #[.slice vo V.length vc] w fun e w' => e = .returned (.bool (canB V)) ∧ Below w.heap.size w w' := by
  have hl := hf.1
  have HV := Lib.hid hv; have HF := Lib.hid hf; clear hv hf
  go_enter Try.func83, Try.ntmps83
  go_wp2_with fail
  go_loopw [3] (fun i wr => ∃ k : Nat, k ≤ V.length ∧ i = .int .i64 k ∧ (V.take k).all valB = true ∧ Diff (V.take k) ∧ Below w.heap.size w wr) (fun i _ => V.length - (intOf i).toNat)
  case atStart => exact ⟨0, Nat.zero_le _, rfl, by simp, by simp [Diff], Below.refl _ _⟩
  case round =>
    obtain ⟨k, hk, rfl, hall, hdf, hbel⟩ := hrel
    have HAl := Lib.hid hall; have HDf := Lib.hid hdf; have HB := Lib.hid hbel
    clear hall hdf hbel
    by_cases hlt : k < V.length
    · obtain ⟨p, off, rfl, hp0, hd1⟩ := HV.out.1.at hlt
      have hzx := HF.out.max hlt
      have hcap := HV.out.2.1
      have FT : Hid (FitsV (V.take k)) := Lib.hid ⟨by rw [List.length_take]; omega, fun s hs => HF.out.2 s (List.mem_of_mem_take hs)⟩
      have HTl : Hid ((V.take k).length = k) := Lib.hid (by rw [List.length_take]; omega)
      have HTs : Hid (StrsAt w (some ⟨p, off, none⟩) (V.take k)) := Lib.hid (HV.out.1.take k)
      have HBad : Hid (valB V[k] = false → canB V = false) := Lib.hid (fun h => by
        have : V.all valB = false := by rw [List.all_eq_false]; exact ⟨V[k], List.getElem_mem _, by rw [h]; simp⟩
        unfold canB; rw [this]; simp)
      have HYes0 : Hid (0 ≤ findI (likeV V[k]) (V.take k) → canB V = false) := Lib.hid (fun h => by
        unfold canB; rw [@decide_eq_false _ (Classical.propDecidable _) (diff_not hlt (by omega))]; simp)
      have HNo0 : Hid (¬ 0 ≤ findI (likeV V[k]) (V.take k) → Diff (V.take (k + 1))) := Lib.hid (fun h => by
        rw [List.take_succ_eq_append_getElem hlt]; exact diff_snoc HDf.out (by omega))
      have HNx0 : Hid (valB V[k] = true → (V.take (k + 1)).all valB = true) := Lib.hid (fun h => by
        rw [List.take_succ_eq_append_getElem hlt, List.all_append, HAl.out]; simp [h])
      have H100z : Hid (∀ Z, Below w.heap.size w Z → Calls Try.prog 137 #[.slice (some ⟨p, off, none⟩) k vc, .string (normS V[k])] Z fun e w' => e = .returned (.int .i64 (findI (likeV V[k]) (V.take k))) ∧ Below w.heap.size w w') := Lib.hid (fun Z h => by
        have := l03In_any (some ⟨p, off, none⟩) (V.take k) vc V[k] Z (HTs.out.below h) FT.out
        rw [HTl.out] at this
        exact this.mono fun e w' ⟨a, b⟩ => ⟨a, h.trans (b.mono h.size)⟩)
      have H56z : Hid (∀ Z, Below w.heap.size w Z → Calls Try.prog 122 #[.string V[k]] Z fun e w' => e = .returned (.bool (valB V[k])) ∧ Below w.heap.size w w') := Lib.hid (fun Z h => (l02Value_any V[k] Z hzx).mono fun e w' ⟨a, b⟩ => ⟨a, h.trans (b.mono h.size)⟩)
      have H99z : Hid (∀ Z, Below w.heap.size w Z → Calls Try.prog 138 #[.string V[k]] Z fun e w' => e = .returned (.string (normS V[k])) ∧ Below w.heap.size w w') := Lib.hid (fun Z h => SpecNorm_from w V[k] Z hzx h)
      have SK : Hid (∀ Z : World, Below w.heap.size w Z → Z.cell? ⟨p, off + k, none⟩ = some (.string V[k])) := Lib.hid (fun Z h => (h.cell (p := ⟨p, off + k, none⟩) hp0).trans hd1)
      have HYes := Lib.hid HYes0.out; have HNo := Lib.hid HNo0.out; have H100 := Lib.hid H100z.out; have H56 := Lib.hid H56z.out; have H99 := Lib.hid H99z.out
      clear HYes0 HNo0 H100z H56z H99z hd1
      generalize findI (likeV V[k]) (V.take k) = q at *
      generalize V[k] = x at *
      generalize normS x = nx at *
      have hcut1 := head36 ⟨p, off, none⟩ V.length k vc (by omega)
      have g1 : (0 : Int) ≤ (k : Int) := by omega
      have g2 : (k : Int) < (V.length : Int) := by omega
      have hbd := HB.out.drew
      cases hvx : valB x
      · have HE := Lib.hid (HBad.out hvx)
        go_wp2_with fail
        refine wp_region_held_drew (S := (fun Z => Z.cell? ⟨p, off + k, none⟩ = some (.string x))) (by kernel_rfl) ?_ (fun hHeld => ?_)
        · (try dsimp only)
          exact SK.out _ (by assumption)
        refine wpAnyH_take (i := 0) (oi := { dst := some 10, op := Op.move (Operand.tmp 0), type := 29, pos := "l03_entry.go:174", after := #[], guard := none }) (v := ?_) rfl (by kernel_rfl) (by kernel_rfl) (by kernel_rfl) (fun _ _ _ h => h) (Or.inl ⟨by rfl, ?_⟩) (by assumption) ?_
        rotate_left
        · intro w hSw; (try dsimp only at hSw); go_simp; (try with_reducible rfl)
        (try simp only [Act.put, List.setIfInBounds_toArray, List.set_cons_zero, List.set_cons_succ])
        refine wpAnyH_take (i := 1) (oi := { dst := some 11, op := Op.move (Operand.tmp 3), type := 3, pos := "l03_entry.go:174", after := #[], guard := none }) (v := ?_) rfl (by kernel_rfl) (by kernel_rfl) (by kernel_rfl) (fun _ _ _ h => h) (Or.inl ⟨by rfl, ?_⟩) (by assumption) ?_
        rotate_left
        · intro w hSw; (try dsimp only at hSw); go_simp; (try with_reducible rfl)
        (try simp only [Act.put, List.setIfInBounds_toArray, List.set_cons_zero, List.set_cons_succ])
        refine wpAnyH_take (i := 2) (oi := { dst := some 12, op := Op.indexAddr 29 (Operand.tmp 10) (Operand.tmp 11), type := 0, pos := "l03_entry.go:174", after := #[{ on := 0, ground := Ground.data }, { on := 1, ground := Ground.data }], guard := none }) (v := ?_) rfl (by kernel_rfl) (by kernel_rfl) (by kernel_rfl) (fun _ _ _ h => h) (Or.inl ⟨by rfl, ?_⟩) (by assumption) ?_
        rotate_left
        · intro w hSw; (try dsimp only at hSw); go_simp; (try with_reducible rfl)
        (try simp only [Act.put, List.setIfInBounds_toArray, List.set_cons_zero, List.set_cons_succ])
        refine wpAnyH_take (i := 3) (oi := { dst := some 13, op := Op.load 9 (Operand.tmp 12), type := 9, pos := "l03_entry.go:174", after := #[{ on := 2, ground := Ground.data }], guard := none }) (v := ?_) rfl (by kernel_rfl) (by kernel_rfl) (by kernel_rfl) (fun _ _ _ h => h) (Or.inl ⟨by rfl, ?_⟩) (by assumption) ?_
        rotate_left
        · intro w hSw; (try dsimp only at hSw); go_simp; (try with_reducible rfl)
        (try simp only [Act.put, List.setIfInBounds_toArray, List.set_cons_zero, List.set_cons_succ])
        refine wpAnyH_ready (rs := [4]) (by kernel_rfl) (by simp) ?_
        refine AllReadyH.cons (o := { dst := some 14, op := Op.call { callee := Callee.value (Operand.func 122), args := #[Operand.tmp 13], argTypes := #[9] }, type := 4, pos := "l03_entry.go:174", after := #[{ on := 3, ground := Ground.data }], guard := none }) rfl (fun K hK => ?_) (AllReadyH.nil)
        go_simp
        refine (H56.out _ (by assumption)).mono ?_
        rintro e w3 ⟨rfl, hb3⟩
        rw [hvx]
        clear hHeld
        refine hK.out _ _ ?_ (fun hHeld => ?_)
        · (try dsimp only)
          exact SK.out _ (by assumption)
        clear hK K
        (try simp only [Act.put, List.setIfInBounds_toArray, List.set_cons_zero, List.set_cons_succ])
        refine wpAnyH_take (i := 5) (oi := { dst := some 15, op := Op.unOp UnOp.not 4 (Operand.tmp 14), type := 4, pos := "l03_entry.go:174", after := #[{ on := 4, ground := Ground.data }], guard := none }) (v := ?_) rfl (by kernel_rfl) (by kernel_rfl) (by kernel_rfl) (fun _ _ _ h => h) (Or.inl ⟨by rfl, ?_⟩) (by assumption) ?_
        rotate_left
        · intro w hSw; (try dsimp only at hSw); go_simp; (try with_reducible rfl)
        (try simp only [Act.put, List.setIfInBounds_toArray, List.set_cons_zero, List.set_cons_succ])
        refine wpAnyH_take (i := 6) (oi := { dst := some 16, op := Op.move (Operand.tmp 15), type := 4, pos := "l03_entry.go:174", after := #[{ on := 5, ground := Ground.data }, { on := 4, ground := Ground.chain }], guard := none }) (v := ?_) rfl (by kernel_rfl) (by kernel_rfl) (by kernel_rfl) (fun _ _ _ h => h) (Or.inl ⟨by rfl, ?_⟩) (by assumption) ?_
        rotate_left
        · intro w hSw; (try dsimp only at hSw); go_simp; (try with_reducible rfl)
        (try simp only [Act.put, List.setIfInBounds_toArray, List.set_cons_zero, List.set_cons_succ])
        refine wpAnyH_take (i := 7) (oi := { dst := some 17, op := Op.move (Operand.tmp 0), type := 29, pos := "l03_entry.go:174", after := #[{ on := 6, ground := Ground.guard }], guard := some (6, false) }) (v := undef) rfl (by kernel_rfl) (by kernel_rfl) (by kernel_rfl) (fun _ _ _ h => h) (Or.inr ⟨by rfl, rfl⟩) (by assumption) ?_
        (try simp only [Act.put, List.setIfInBounds_toArray, List.set_cons_zero, List.set_cons_succ])
        refine wpAnyH_take (i := 8) (oi := { dst := some 18, op := Op.move (Operand.tmp 3), type := 3, pos := "l03_entry.go:174", after := #[{ on := 6, ground := Ground.guard }], guard := some (6, false) }) (v := undef) rfl (by kernel_rfl) (by kernel_rfl) (by kernel_rfl) (fun _ _ _ h => h) (Or.inr ⟨by rfl, rfl⟩) (by assumption) ?_
        (try simp only [Act.put, List.setIfInBounds_toArray, List.set_cons_zero, List.set_cons_succ])
        refine wpAnyH_take (i := 9) (oi := { dst := some 19, op := Op.slice 29 (Operand.tmp 17) none (some (Operand.tmp 18)) none, type := 29, pos := "l03_entry.go:174", after := #[{ on := 7, ground := Ground.data }, { on := 8, ground := Ground.data }, { on := 6, ground := Ground.guard }], guard := some (6, false) }) (v := undef) rfl (by kernel_rfl) (by kernel_rfl) (by kernel_rfl) (fun _ _ _ h => h) (Or.inr ⟨by rfl, rfl⟩) (by assumption) ?_
        (try simp only [Act.put, List.setIfInBounds_toArray, List.set_cons_zero, List.set_cons_succ])
        refine wpAnyH_take (i := 10) (oi := { dst := some 20, op := Op.move (Operand.tmp 0), type := 29, pos := "l03_entry.go:174", after := #[{ on := 6, ground := Ground.guard }], guard := some (6, false) }) (v := undef) rfl (by kernel_rfl) (by kernel_rfl) (by kernel_rfl) (fun _ _ _ h => h) (Or.inr ⟨by rfl, rfl⟩) (by assumption) ?_
        (try simp only [Act.put, List.setIfInBounds_toArray, List.set_cons_zero, List.set_cons_succ])
        refine wpAnyH_take (i := 11) (oi := { dst := some 21, op := Op.move (Operand.tmp 3), type := 3, pos := "l03_entry.go:174", after := #[{ on := 6, ground := Ground.guard }], guard := some (6, false) }) (v := undef) rfl (by kernel_rfl) (by kernel_rfl) (by kernel_rfl) (fun _ _ _ h => h) (Or.inr ⟨by rfl, rfl⟩) (by assumption) ?_
        (try simp only [Act.put, List.setIfInBounds_toArray, List.set_cons_zero, List.set_cons_succ])
        refine wpAnyH_take (i := 12) (oi := { dst := some 22, op := Op.indexAddr 29 (Operand.tmp 20) (Operand.tmp 21), type := 0, pos := "l03_entry.go:174", after := #[{ on := 10, ground := Ground.data }, { on := 11, ground := Ground.data }, { on := 6, ground := Ground.guard }], guard := some (6, false) }) (v := undef) rfl (by kernel_rfl) (by kernel_rfl) (by kernel_rfl) (fun _ _ _ h => h) (Or.inr ⟨by rfl, rfl⟩) (by assumption) ?_
        (try simp only [Act.put, List.setIfInBounds_toArray, List.set_cons_zero, List.set_cons_succ])
        refine wpAnyH_take (i := 13) (oi := { dst := some 23, op := Op.load 9 (Operand.tmp 22), type := 9, pos := "l03_entry.go:174", after := #[{ on := 12, ground := Ground.data }, { on := 6, ground := Ground.guard }], guard := some (6, false) }) (v := undef) rfl (by kernel_rfl) (by kernel_rfl) (by kernel_rfl) (fun _ _ _ h => h) (Or.inr ⟨by rfl, rfl⟩) (by assumption) ?_
        (try simp only [Act.put, List.setIfInBounds_toArray, List.set_cons_zero, List.set_cons_succ])
        refine wpAnyH_take (i := 14) (oi := { dst := some 24, op := Op.call { callee := Callee.value (Operand.func 138), args := #[Operand.tmp 23], argTypes := #[9] }, type := 9, pos := "l03_entry.go:174", after := #[{ on := 13, ground := Ground.data }, { on := 6, ground := Ground.chain }, { on := 6, ground := Ground.guard }], guard := some (6, false) }) (v := undef) rfl (by kernel_rfl) (by kernel_rfl) (by kernel_rfl) (fun _ _ _ h => h) (Or.inr ⟨by rfl, rfl⟩) (by assumption) ?_
        (try simp only [Act.put, List.setIfInBounds_toArray, List.set_cons_zero, List.set_cons_succ])
        refine wpAnyH_take (i := 15) (oi := { dst := some 25, op := Op.call { callee := Callee.value (Operand.func 137), args := #[Operand.tmp 19, Operand.tmp 24], argTypes := #[29, 9] }, type := 3, pos := "l03_entry.go:174", after := #[{ on := 9, ground := Ground.data }, { on := 14, ground := Ground.data }, { on := 14, ground := Ground.chain }, { on := 6, ground := Ground.guard }], guard := some (6, false) }) (v := undef) rfl (by kernel_rfl) (by kernel_rfl) (by kernel_rfl) (fun _ _ _ h => h) (Or.inr ⟨by rfl, rfl⟩) (by assumption) ?_
        (try simp only [Act.put, List.setIfInBounds_toArray, List.set_cons_zero, List.set_cons_succ])
        refine wpAnyH_take (i := 16) (oi := { dst := some 26, op := Op.binOp BinOp.geq 3 (Operand.tmp 25) (Operand.const (Value.int IntKind.i64 0)) 3, type := 4, pos := "l03_entry.go:174", after := #[{ on := 15, ground := Ground.data }, { on := 6, ground := Ground.guard }], guard := some (6, false) }) (v := undef) rfl (by kernel_rfl) (by kernel_rfl) (by kernel_rfl) (fun _ _ _ h => h) (Or.inr ⟨by rfl, rfl⟩) (by assumption) ?_
        (try simp only [Act.put, List.setIfInBounds_toArray, List.set_cons_zero, List.set_cons_succ])
        refine wpAnyH_take (i := 17) (oi := { dst := some 27, op := Op.pick (Operand.tmp 16) (Operand.const (Value.bool true)) (Operand.tmp 26), type := 4, pos := "l03_entry.go:174", after := #[{ on := 6, ground := Ground.data }, { on := 16, ground := Ground.data }], guard := none }) (v := ?_) rfl (by kernel_rfl) (by kernel_rfl) (by kernel_rfl) (fun _ _ _ h => h) (Or.inl ⟨by rfl, ?_⟩) (by assumption) ?_
        rotate_left
        · intro w hSw; (try dsimp only at hSw); go_simp; (try with_reducible rfl)
        (try simp only [Act.put, List.setIfInBounds_toArray, List.set_cons_zero, List.set_cons_succ])
        refine wpAnyH_done (by kernel_rfl) ?_ _
        clear hHeld
        go_wp2
        go_ret
        exact ⟨ret_bool HE.out.symm, hb3⟩
      · have HNx := Lib.hid (HNx0.out hvx)
        go_wp2_with fail
        refine wp_region_held_drew (S := (fun Z => Z.cell? ⟨p, off + k, none⟩ = some (.string x))) (by kernel_rfl) ?_ (fun hHeld => ?_)
        · (try dsimp only)
          exact SK.out _ (by assumption)
        refine wpAnyH_take (i := 0) (oi := { dst := some 10, op := Op.move (Operand.tmp 0), type := 29, pos := "l03_entry.go:174", after := #[], guard := none }) (v := ?_) rfl (by kernel_rfl) (by kernel_rfl) (by kernel_rfl) (fun _ _ _ h => h) (Or.inl ⟨by rfl, ?_⟩) (by assumption) ?_
        rotate_left
        · intro w hSw; (try dsimp only at hSw); go_simp; (try with_reducible rfl)
        (try simp only [Act.put, List.setIfInBounds_toArray, List.set_cons_zero, List.set_cons_succ])
        refine wpAnyH_take (i := 1) (oi := { dst := some 11, op := Op.move (Operand.tmp 3), type := 3, pos := "l03_entry.go:174", after := #[], guard := none }) (v := ?_) rfl (by kernel_rfl) (by kernel_rfl) (by kernel_rfl) (fun _ _ _ h => h) (Or.inl ⟨by rfl, ?_⟩) (by assumption) ?_
        rotate_left
        · intro w hSw; (try dsimp only at hSw); go_simp; (try with_reducible rfl)
        (try simp only [Act.put, List.setIfInBounds_toArray, List.set_cons_zero, List.set_cons_succ])
        refine wpAnyH_take (i := 2) (oi := { dst := some 12, op := Op.indexAddr 29 (Operand.tmp 10) (Operand.tmp 11), type := 0, pos := "l03_entry.go:174", after := #[{ on := 0, ground := Ground.data }, { on := 1, ground := Ground.data }], guard := none }) (v := ?_) rfl (by kernel_rfl) (by kernel_rfl) (by kernel_rfl) (fun _ _ _ h => h) (Or.inl ⟨by rfl, ?_⟩) (by assumption) ?_
        rotate_left
        · intro w hSw; (try dsimp only at hSw); go_simp; (try with_reducible rfl)
        (try simp only [Act.put, List.setIfInBounds_toArray, List.set_cons_zero, List.set_cons_succ])
        refine wpAnyH_take (i := 3) (oi := { dst := some 13, op := Op.load 9 (Operand.tmp 12), type := 9, pos := "l03_entry.go:174", after := #[{ on := 2, ground := Ground.data }], guard := none }) (v := ?_) rfl (by kernel_rfl) (by kernel_rfl) (by kernel_rfl) (fun _ _ _ h => h) (Or.inl ⟨by rfl, ?_⟩) (by assumption) ?_
        rotate_left
        · intro w hSw; (try dsimp only at hSw); go_simp; (try with_reducible rfl)
        (try simp only [Act.put, List.setIfInBounds_toArray, List.set_cons_zero, List.set_cons_succ])
        refine wpAnyH_ready (rs := [4]) (by kernel_rfl) (by simp) ?_
        refine AllReadyH.cons (o := { dst := some 14, op := Op.call { callee := Callee.value (Operand.func 122), args := #[Operand.tmp 13], argTypes := #[9] }, type := 4, pos := "l03_entry.go:174", after := #[{ on := 3, ground := Ground.data }], guard := none }) rfl (fun K hK => ?_) (AllReadyH.nil)
        go_simp
        refine (H56.out _ (by assumption)).mono ?_
        rintro e w3 ⟨rfl, hb3⟩
        rw [hvx]
        clear hHeld
        refine hK.out _ _ ?_ (fun hHeld => ?_)
        · (try dsimp only)
          exact SK.out _ (by assumption)
        clear hK K
        (try simp only [Act.put, List.setIfInBounds_toArray, List.set_cons_zero, List.set_cons_succ])
        refine wpAnyH_take (i := 5) (oi := { dst := some 15, op := Op.unOp UnOp.not 4 (Operand.tmp 14), type := 4, pos := "l03_entry.go:174", after := #[{ on := 4, ground := Ground.data }], guard := none }) (v := ?_) rfl (by kernel_rfl) (by kernel_rfl) (by kernel_rfl) (fun _ _ _ h => h) (Or.inl ⟨by rfl, ?_⟩) (by assumption) ?_
        rotate_left
        · intro w hSw; (try dsimp only at hSw); go_simp; (try with_reducible rfl)
        (try simp only [Act.put, List.setIfInBounds_toArray, List.set_cons_zero, List.set_cons_succ])
        refine wpAnyH_take (i := 6) (oi := { dst := some 16, op := Op.move (Operand.tmp 15), type := 4, pos := "l03_entry.go:174", after := #[{ on := 5, ground := Ground.data }, { on := 4, ground := Ground.chain }], guard := none }) (v := ?_) rfl (by kernel_rfl) (by kernel_rfl) (by kernel_rfl) (fun _ _ _ h => h) (Or.inl ⟨by rfl, ?_⟩) (by assumption) ?_
        rotate_left
        · intro w hSw; (try dsimp only at hSw); go_simp; (try with_reducible rfl)
        (try simp only [Act.put, List.setIfInBounds_toArray, List.set_cons_zero, List.set_cons_succ])
        refine wpAnyH_take (i := 7) (oi := { dst := some 17, op := Op.move (Operand.tmp 0), type := 29, pos := "l03_entry.go:174", after := #[{ on := 6, ground := Ground.guard }], guard := some (6, false) }) (v := ?_) rfl (by kernel_rfl) (by kernel_rfl) (by kernel_rfl) (fun _ _ _ h => h) (Or.inl ⟨by rfl, ?_⟩) (by assumption) ?_
        rotate_left
        · intro w hSw; (try dsimp only at hSw); go_simp; (try with_reducible rfl)
        (try simp only [Act.put, List.setIfInBounds_toArray, List.set_cons_zero, List.set_cons_succ])
        refine wpAnyH_take (i := 8) (oi := { dst := some 18, op := Op.move (Operand.tmp 3), type := 3, pos := "l03_entry.go:174", after := #[{ on := 6, ground := Ground.guard }], guard := some (6, false) }) (v := ?_) rfl (by kernel_rfl) (by kernel_rfl) (by kernel_rfl) (fun _ _ _ h => h) (Or.inl ⟨by rfl, ?_⟩) (by assumption) ?_
        rotate_left
        · intro w hSw; (try dsimp only at hSw); go_simp; (try with_reducible rfl)
        (try simp only [Act.put, List.setIfInBounds_toArray, List.set_cons_zero, List.set_cons_succ])
        refine wpAnyH_take (i := 9) (oi := { dst := some 19, op := Op.slice 29 (Operand.tmp 17) none (some (Operand.tmp 18)) none, type := 29, pos := "l03_entry.go:174", after := #[{ on := 7, ground := Ground.data }, { on := 8, ground := Ground.data }, { on := 6, ground := Ground.guard }], guard := some (6, false) }) (v := ?_) rfl (by kernel_rfl) (by kernel_rfl) (by kernel_rfl) (fun _ _ _ h => h) (Or.inl ⟨by rfl, ?_⟩) (by assumption) ?_
        rotate_left
        · intro w hSw; (try dsimp only at hSw); go_simp; (try with_reducible rfl)
        (try simp only [Act.put, List.setIfInBounds_toArray, List.set_cons_zero, List.set_cons_succ])
        refine wpAnyH_take (i := 10) (oi := { dst := some 20, op := Op.move (Operand.tmp 0), type := 29, pos := "l03_entry.go:174", after := #[{ on := 6, ground := Ground.guard }], guard := some (6, false) }) (v := ?_) rfl (by kernel_rfl) (by kernel_rfl) (by kernel_rfl) (fun _ _ _ h => h) (Or.inl ⟨by rfl, ?_⟩) (by assumption) ?_
        rotate_left
        · intro w hSw; (try dsimp only at hSw); go_simp; (try with_reducible rfl)
        (try simp only [Act.put, List.setIfInBounds_toArray, List.set_cons_zero, List.set_cons_succ])
        refine wpAnyH_take (i := 11) (oi := { dst := some 21, op := Op.move (Operand.tmp 3), type := 3, pos := "l03_entry.go:174", after := #[{ on := 6, ground := Ground.guard }], guard := some (6, false) }) (v := ?_) rfl (by kernel_rfl) (by kernel_rfl) (by kernel_rfl) (fun _ _ _ h => h) (Or.inl ⟨by rfl, ?_⟩) (by assumption) ?_
        rotate_left
        · intro w hSw; (try dsimp only at hSw); go_simp; (try with_reducible rfl)
        (try simp only [Act.put, List.setIfInBounds_toArray, List.set_cons_zero, List.set_cons_succ])
        refine wpAnyH_take (i := 12) (oi := { dst := some 22, op := Op.indexAddr 29 (Operand.tmp 20) (Operand.tmp 21), type := 0, pos := "l03_entry.go:174", after := #[{ on := 10, ground := Ground.data }, { on := 11, ground := Ground.data }, { on := 6, ground := Ground.guard }], guard := some (6, false) }) (v := ?_) rfl (by kernel_rfl) (by kernel_rfl) (by kernel_rfl) (fun _ _ _ h => h) (Or.inl ⟨by rfl, ?_⟩) (by assumption) ?_
        rotate_left
        · intro w hSw; (try dsimp only at hSw); go_simp; (try with_reducible rfl)
        (try simp only [Act.put, List.setIfInBounds_toArray, List.set_cons_zero, List.set_cons_succ])
        refine wpAnyH_take (i := 13) (oi := { dst := some 23, op := Op.load 9 (Operand.tmp 22), type := 9, pos := "l03_entry.go:174", after := #[{ on := 12, ground := Ground.data }, { on := 6, ground := Ground.guard }], guard := some (6, false) }) (v := ?_) rfl (by kernel_rfl) (by kernel_rfl) (by kernel_rfl) (fun _ _ _ h => h) (Or.inl ⟨by rfl, ?_⟩) (by assumption) ?_
        rotate_left
        · intro w hSw; (try dsimp only at hSw); go_simp; (try with_reducible rfl)
        (try simp only [Act.put, List.setIfInBounds_toArray, List.set_cons_zero, List.set_cons_succ])
        refine wpAnyH_ready (rs := [14]) (by kernel_rfl) (by simp) ?_
        refine AllReadyH.cons (o := { dst := some 24, op := Op.call { callee := Callee.value (Operand.func 138), args := #[Operand.tmp 23], argTypes := #[9] }, type := 9, pos := "l03_entry.go:174", after := #[{ on := 13, ground := Ground.data }, { on := 6, ground := Ground.chain }, { on := 6, ground := Ground.guard }], guard := some (6, false) }) rfl (fun K hK => ?_) (AllReadyH.nil)
        go_simp
        refine (H99.out _ (by assumption)).mono ?_
        rintro e w4 ⟨rfl, hb4⟩
        clear hHeld
        refine hK.out _ _ ?_ (fun hHeld => ?_)
        · (try dsimp only)
          exact SK.out _ (by assumption)
        clear hK K
        (try simp only [Act.put, List.setIfInBounds_toArray, List.set_cons_zero, List.set_cons_succ])
        refine wpAnyH_ready (rs := [15]) (by kernel_rfl) (by simp) ?_
        refine AllReadyH.cons (o := { dst := some 25, op := Op.call { callee := Callee.value (Operand.func 137), args := #[Operand.tmp 19, Operand.tmp 24], argTypes := #[29, 9] }, type := 3, pos := "l03_entry.go:174", after := #[{ on := 9, ground := Ground.data }, { on := 14, ground := Ground.data }, { on := 14, ground := Ground.chain }, { on := 6, ground := Ground.guard }], guard := some (6, false) }) rfl (fun K hK => ?_) (AllReadyH.nil)
        go_simp
        refine (H100.out _ (by assumption)).mono ?_
        rintro e w5 ⟨rfl, hb5⟩
        clear hHeld
        refine hK.out _ _ ?_ (fun hHeld => ?_)
        · (try dsimp only)
          exact SK.out _ (by assumption)
        clear hK K
        (try simp only [Act.put, List.setIfInBounds_toArray, List.set_cons_zero, List.set_cons_succ])
        refine wpAnyH_take (i := 16) (oi := { dst := some 26, op := Op.binOp BinOp.geq 3 (Operand.tmp 25) (Operand.const (Value.int IntKind.i64 0)) 3, type := 4, pos := "l03_entry.go:174", after := #[{ on := 15, ground := Ground.data }, { on := 6, ground := Ground.guard }], guard := some (6, false) }) (v := ?_) rfl (by kernel_rfl) (by kernel_rfl) (by kernel_rfl) (fun _ _ _ h => h) (Or.inl ⟨by rfl, ?_⟩) (by assumption) ?_
        rotate_left
        · intro w hSw; (try dsimp only at hSw); go_simp; (try with_reducible rfl)
        (try simp only [Act.put, List.setIfInBounds_toArray, List.set_cons_zero, List.set_cons_succ])
        refine wpAnyH_take (i := 17) (oi := { dst := some 27, op := Op.pick (Operand.tmp 16) (Operand.const (Value.bool true)) (Operand.tmp 26), type := 4, pos := "l03_entry.go:174", after := #[{ on := 6, ground := Ground.data }, { on := 16, ground := Ground.data }], guard := none }) (v := ?_) rfl (by kernel_rfl) (by kernel_rfl) (by kernel_rfl) (fun _ _ _ h => h) (Or.inl ⟨by rfl, ?_⟩) (by assumption) ?_
        rotate_left
        · intro w hSw; (try dsimp only at hSw); go_simp; (try with_reducible rfl)
        (try simp only [Act.put, List.setIfInBounds_toArray, List.set_cons_zero, List.set_cons_succ])
        refine wpAnyH_done (by kernel_rfl) ?_ _
        clear hHeld
        have HB5 := Lib.hid hb5
        clear hb3 hb4 hb5 hbd SK H56 H99 H100
        by_cases hq : 0 ≤ q
        · have HE := Lib.hid (HYes.out (by omega))
          go_wp2
          go_ret
          exact ⟨ret_bool HE.out.symm, HB5.out⟩
        · have HE := Lib.hid (HNo.out (by omega))
          go_wp2
          go_roundw
          case rel => exact ⟨k + 1, by omega, by go_num, HNx.out, HE.out, HB5.out⟩
          case measure => simp [intOf]; omega
    · have e : k = V.length := by omega
      subst e
      rw [List.take_length] at HAl HDf
      have HE : Hid (canB V = decide (V.length ≤ 4)) := Lib.hid (by
        unfold canB; rw [HAl.out, @decide_eq_true _ (Classical.propDecidable _) HDf.out]; simp)
      have HQ : Hid (decide ((V.length : Int) ≤ 4) = decide (V.length ≤ 4)) := Lib.hid (by rw [Bool.eq_iff_iff]; simp; omega)
      go_wp2
      go_ret
      exact ⟨ret_bool (by rw [HE.out, ← HQ.out]), HB.out⟩
end Go.Proofs.Ytlgafmgohinkbaa
/- Classes: a name and three lists of names, and where they lie. -/
namespace Go.Proofs.Ytlgafmgohinkbaa
open Go.RowKit

structure ClassV where
  nm : ByteArray
  must : List ByteArray
  may : List ByteArray
  one : List ByteArray
/-- a slice's value that holds texts -/
def SlV (w : World) (v : Value) (l : List ByteArray) : Prop := ∃ vo vc, v = .slice vo l.length vc ∧ ValsAt w vo vc l
theorem SlV.below {w w' : World} {v : Value} {l : List ByteArray} (h : SlV w v l) (hb : Below w.heap.size w w') : SlV w' v l := by
  obtain ⟨vo, vc, h1, h2⟩ := h
  exact ⟨vo, vc, h1, h2.below hb⟩
/-- the four cells of a class -/
structure ClsAt (w : World) (b off : Nat) (c : ClassV) (v1 v2 v3 : Value) : Prop where
  c0 : w.cell? ⟨b, off, none⟩ = some (.string c.nm)
  c1 : w.cell? ⟨b, off + 1, none⟩ = some v1
  c2 : w.cell? ⟨b, off + 2, none⟩ = some v2
  c3 : w.cell? ⟨b, off + 3, none⟩ = some v3
  s1 : SlV w v1 c.must
  s2 : SlV w v2 c.may
  s3 : SlV w v3 c.one
theorem ClsAt.below {w w' : World} {b off : Nat} {c : ClassV} {v1 v2 v3 : Value} (h : ClsAt w b off c v1 v2 v3) (hl : b < w.heap.size) (hb : Below w.heap.size w w') : ClsAt w' b off c v1 v2 v3 :=
  ⟨(hb.cell (p := ⟨b, off, none⟩) hl).trans h.c0, (hb.cell (p := ⟨b, off + 1, none⟩) hl).trans h.c1, (hb.cell (p := ⟨b, off + 2, none⟩) hl).trans h.c2, (hb.cell (p := ⟨b, off + 3, none⟩) hl).trans h.c3, h.s1.below hb, h.s2.below hb, h.s3.below hb⟩
/-- classes lie behind a slice -/
def ClassesAt (w : World) (ao : Option Addr) (l : List ClassV) : Prop :=
  l = [] ∨ ∃ b off, ao = some ⟨b, off, none⟩ ∧ b < w.heap.size ∧ ∀ i (h : i < l.length), ∃ v1 v2 v3, ClsAt w b (off + i * 4) l[i] v1 v2 v3
theorem ClassesAt.below {w w' : World} {ao : Option Addr} {l : List ClassV} (h : ClassesAt w ao l) (hb : Below w.heap.size w w') : ClassesAt w' ao l := by
  rcases h with h | ⟨b, off, h1, h2, h3⟩
  · exact .inl h
  · refine .inr ⟨b, off, h1, Nat.lt_of_lt_of_le h2 hb.size, fun i hi => ?_⟩
    obtain ⟨v1, v2, v3, g⟩ := h3 i hi
    exact ⟨v1, v2, v3, g.below h2 hb⟩
theorem ClassesAt.at {w : World} {ao : Option Addr} {l : List ClassV} (h : ClassesAt w ao l) {k : Nat} (hk : k < l.length) :
    ∃ b off v1 v2 v3, ao = some ⟨b, off, none⟩ ∧ b < w.heap.size ∧ ClsAt w b (off + k * 4) l[k] v1 v2 v3 := by
  rcases h with h | ⟨b, off, h1, h2, h3⟩
  · subst h; simp at hk
  · obtain ⟨v1, v2, v3, g⟩ := h3 k hk
    exact ⟨b, off, v1, v2, v3, h1, h2, g⟩
def LongC (l : List ClassV) : Prop := l.length ≤ 9223372036854775807 ∧ ∀ c ∈ l, c.nm.size ≤ maxLen ∧ LongV c.must ∧ LongV c.may ∧ LongV c.one
structure FitsC1 (c : ClassV) : Prop where
  nm : c.nm.size ≤ 1048576
  must : FitsV c.must
  may : FitsV c.may
  one : FitsV c.one
def FitsC (l : List ClassV) : Prop := l.length ≤ 1048576 ∧ ∀ c ∈ l, FitsC1 c
theorem FitsC.at {l : List ClassV} (h : FitsC l) {k : Nat} (hk : k < l.length) : FitsC1 l[k] := h.2 _ (List.getElem_mem hk)
def szV (l : List ByteArray) : Nat := l.length + sizeV l
def sizeC (c : ClassV) : Nat := c.nm.size + (szV c.must + (szV c.may + szV c.one))
def sizeCs (l : List ClassV) : Nat := (l.map sizeC).sum
theorem sizeCs_take (d : List ClassV) (k : Nat) (h : k < d.length) : sizeCs (d.take (k + 1)) = sizeCs (d.take k) + sizeC d[k] := by
  unfold sizeCs; rw [List.take_succ_eq_append_getElem h, List.map_append, List.sum_append]; simp
theorem sizeCs_le (d : List ClassV) (k : Nat) : sizeCs (d.take k) ≤ sizeCs d := by
  have h := List.take_append_drop k d
  have : sizeCs d = sizeCs (d.take k) + sizeCs (d.drop k) := by
    unfold sizeCs; rw [← List.sum_append, ← List.map_append, h]
  omega
theorem sizeCs_mem {l : List ClassV} {a : ClassV} (h : a ∈ l) : sizeC a ≤ sizeCs l := sum_mem (List.mem_map_of_mem h)
theorem fitsC_of {l : List ClassV} (h : l.length + sizeCs l ≤ 1048576) : FitsC l :=
  ⟨by omega, fun a ha => by
    have := sizeCs_mem ha
    unfold sizeC szV at this
    exact ⟨by omega, fitsV_of (by omega), fitsV_of (by omega), fitsV_of (by omega)⟩⟩
end Go.Proofs.Ytlgafmgohinkbaa
/- SchemaRight: names in order. -/
namespace Go.Proofs.Ytlgafmgohinkbaa
open Go.RowKit
attribute [local go_sem ↓] Go.wp_at_zero Go.wp_at_succ

def strLt (x y : ByteArray) : Bool := Op.bytesLess x.toList y.toList
noncomputable def namesB (l : List ByteArray) : Bool := l.all nmL && incB strLt l
theorem compare_any (w0 : World) (a b : ByteArray) (w : World) (hB : Below w0.heap.size w0 w) :
    Calls Try.prog 79 #[.string a, .string b] w fun e w' => (∃ c : Int, e = .returned (.int .i64 c) ∧ decide (0 ≤ c) = !(strLt a b)) ∧ Below w0.heap.size w0 w' := by
  refine (Try.strings_Compare a b w).mono ?_
  rintro e w' ⟨rfl, rfl⟩
  exact ⟨⟨_, rfl, by rw [compare_less]; unfold strLt; rw [Lib.toList_data, Lib.toList_data]⟩, hB⟩
set_option maxRecDepth 100000 in
set_option maxHeartbeats 1000000 in
theorem incName_any (ao : Option Addr) (l : List ByteArray) (cap : Nat) (w : World) (hd : StrsAt w ao l) (hf : FitsV l) :
    Calls Try.prog 146 #[.slice ao l.length cap, .func (.func 79) #[] #[]] w fun e w' => e = .returned (.bool (incB strLt l)) ∧ Below w.heap.size w w' := by
  have hl := hf.1
  have HD := Lib.hid hd; have HF := Lib.hid hf; clear hd hf
  go_enter Try.func146, Try.ntmps146
  go_wp2
  go_loopw [5] (fun i wr => ∃ m : Nat, m ≤ l.length ∧ i = .int .i64 ((m : Int) + 1) ∧ (∀ j (h : j + 1 < l.length), j < m → strLt l[j] l[j + 1] = true) ∧ Below w.heap.size w wr) (fun i _ => l.length + 1 - (intOf i).toNat)
  case atStart => exact ⟨0, Nat.zero_le _, rfl, fun j _ h => absurd h (Nat.not_lt_zero _), Below.refl _ _⟩
  case round =>
    obtain ⟨m, hm, rfl, ha, hbel⟩ := hrel
    have Ha := Lib.hid ha; clear ha
    have hsz := hbel.size
    by_cases hlt : m + 1 < l.length
    · have hm0 : m < l.length := by omega
      obtain ⟨b, off, rfl, hw0, hd1⟩ := HD.out.at hm0
      obtain ⟨b', off', e, _, hd2⟩ := HD.out.at hlt
      cases e
      have hc1 := (hbel.cell (p := ⟨b, off + m, none⟩) hw0).trans hd1
      have hc2 := (hbel.cell (p := ⟨b, off + (m + 1), none⟩) hw0).trans hd2
      have hz1 := HF.out.max hm0
      have hz2 := HF.out.max hlt
      have g1 : (m : Int) + 1 < (l.length : Int) := by omega
      have g2 : (0 : Int) ≤ (m : Int) := by omega
      have g3 : (m : Int) < (l.length : Int) := by omega
      have g4 : (0 : Int) ≤ (m : Int) + 1 := by omega
      have HN : Hid (∀ j (h : j + 1 < l.length), j < m + 1 → strLt l[m] l[m + 1] = true → strLt l[j] l[j + 1] = true) := Lib.hid (fun j h hj hn => by
        by_cases e : j = m
        · subst e; exact hn
        · exact Ha.out j h (by omega))
      have HX : Hid (strLt l[m] l[m + 1] = false → incB strLt l = false) := Lib.hid (fun h => incB_no hlt h)
      generalize hx : l[m] = X at *
      generalize hy : l[m + 1] = Y at *
      clear hx hy
      have SK : Hid (∀ W : World, Below w.heap.size w W → (Below w.heap.size w W ∧ W.cell? ⟨b, off + m, none⟩ = some (.string X) ∧ W.cell? ⟨b, off + (m + 1), none⟩ = some (.string Y))) :=
        Lib.hid (fun W h => ⟨h, (h.cell (p := ⟨b, _, none⟩) hw0).trans hd1, (h.cell (p := ⟨b, _, none⟩) hw0).trans hd2⟩)
      have hbd := hbel.drew
      have hwr : IntKind.i64.wrap (m : Int) = (m : Int) := IntWalk.i64_in _ (by omega)
      have hwr2 : IntKind.i64.wrap ((m : Int) + 1 - 1) = (m : Int) := by rw [Int.add_sub_cancel]; exact hwr
      clear hc1 hc2 hd1 hd2
      cases hn : strLt X Y
      · have HX' := Lib.hid (HX.out hn)
        go_wp2_with fail
        go_region_held3 (fun W => Below w.heap.size w W ∧ W.cell? ⟨b, off + m, none⟩ = some (.string X) ∧ W.cell? ⟨b, off + (m + 1), none⟩ = some (.string Y))
          (exact SK.out _ (by assumption))
          (first | (go_at_call 79; refine (compare_any w X Y _ (by assumption)).mono ?_; rintro e w1 ⟨⟨c, rfl, hc⟩, hb1⟩; rw [hn] at hc; have hc0 : 0 ≤ c := (by simpa using hc); clear hc) | (fail "none"))
        all_goals
          go_wp2
          go_ret
          exact ⟨ret_bool (by rw [HX'.out]), hb1⟩
      · go_wp2_with fail
        go_region_held3 (fun W => Below w.heap.size w W ∧ W.cell? ⟨b, off + m, none⟩ = some (.string X) ∧ W.cell? ⟨b, off + (m + 1), none⟩ = some (.string Y))
          (exact SK.out _ (by assumption))
          (first | (go_at_call 79; refine (compare_any w X Y _ (by assumption)).mono ?_; rintro e w1 ⟨⟨c, rfl, hc⟩, hb1⟩; rw [hn] at hc; have hc0 : ¬ 0 ≤ c := (by simpa using hc); clear hc) | (fail "none"))
        all_goals
          go_wp2
          go_roundw
          case rel => exact ⟨m + 1, by omega, by go_num, fun j h hj => HN.out j h hj hn, hb1⟩
          case measure => simp [intOf]; omega
    · have HT : Hid (incB strLt l = true) := Lib.hid (incB_yes fun j h => Ha.out j h (by omega))
      have g1 : ¬ (m : Int) + 1 < (l.length : Int) := by omega
      go_wp2
      go_ret
      exact ⟨ret_bool (by rw [HT.out]), hbel⟩
set_option maxRecDepth 100000 in
set_option maxHeartbeats 1000000 in
theorem areNames_any (ao : Option Addr) (l : List ByteArray) (cap : Nat) (w : World) (hd : StrsAt w ao l) (hf : FitsV l) :
    Calls Try.prog 170 #[.slice ao l.length cap] w fun e w' => e = .returned (.bool (namesB l)) ∧ Below w.heap.size w w' := by
  have hl := hf.1
  have HD := Lib.hid hd; have HF := Lib.hid hf; clear hd hf
  go_enter Try.func170, Try.ntmps170
  go_wp2
  go_loopw [7] (fun i wr => ∃ k : Nat, k ≤ l.length ∧ i = .int .i64 k ∧ (l.take k).all nmL = true ∧ Below w.heap.size w wr) (fun i _ => l.length - (intOf i).toNat)
  case atStart => exact ⟨0, Nat.zero_le _, rfl, rfl, Below.refl _ _⟩
  case round =>
    obtain ⟨k, hk, rfl, ha, hbel⟩ := hrel
    have Ha := Lib.hid ha; clear ha
    have hsz := hbel.size
    by_cases hlt : k < l.length
    · obtain ⟨b, off, rfl, hb0, hc1⟩ := (HD.out.below hbel).at hlt
      have hz := HF.out.max hlt
      generalize hr : nmL l[k] = r at *
      have HR := Lib.hid hr; clear hr
      cases r
      · have HX : Hid (namesB l = false) := Lib.hid (by unfold namesB; rw [all_bad nmL l k hlt HR.out]; rfl)
        go_wp2_with (first | (go_at_call 86; refine (NameRight_any _ _ hz).mono ?_; rintro e w1 ⟨rfl, rfl⟩; rw [HR.out]) | (fail "none"))
        go_ret
        exact ⟨ret_bool (by rw [HX.out]), hbel⟩
      · have HT : Hid ((l.take (k + 1)).all nmL = true) := Lib.hid (by rw [all_take nmL l k hlt, Ha.out, HR.out]; rfl)
        go_wp2_with (first | (go_at_call 86; refine (NameRight_any _ _ hz).mono ?_; rintro e w1 ⟨rfl, rfl⟩; rw [HR.out]) | (fail "none"))
        go_roundw
        case rel => exact ⟨k + 1, by omega, by go_num, HT.out, hbel⟩
        case measure => simp [intOf]; omega
    · have e : l.take k = l := List.take_of_length_le (by omega)
      have HT : Hid (namesB l = incB strLt l) := Lib.hid (by unfold namesB; rw [← e, Ha.out, e]; rfl)
      clear e
      go_wp2_with fail
      refine (incName_any ao l cap wr (HD.out.below hbel) HF.out).mono ?_
      rintro e w1 ⟨rfl, hb1⟩
      have B1 := Lib.hid (hbel.trans (hb1.mono hsz))
      generalize incB strLt l = r at *
      go_wp2
      go_ret
      exact ⟨ret_bool (by rw [HT.out]), B1.out⟩
noncomputable def names10 (l : List ByteArray) : Bool := decide (l.length ≤ 10) && namesB l
set_option maxHeartbeats 1000000 in
theorem classNames_any (w0 : World) (v : Value) (l : List ByteArray) (w : World) (hB : Below w0.heap.size w0 w) (hd : SlV w0 v l) (hf : FitsV l) :
    Calls Try.prog 195 #[v] w fun e w' => e = .returned (.bool (names10 l)) ∧ Below w.heap.size w w' := by
  obtain ⟨ao, cap, rfl, hd⟩ := hd
  have HD := Lib.hid (hd.1.below hB); have HF := Lib.hid hf
  have hl := hf.1
  clear hd hf hB
  have HE : Hid (names10 l = (decide (l.length ≤ 10) && namesB l)) := Lib.hid rfl
  by_cases h : l.length ≤ 10
  · have g : (l.length : Int) ≤ 10 := by omega
    rw [decide_eq_true h] at HE
    go_enter Try.func195, Try.ntmps195
    go_wp2_with (first | (go_at_call 170; refine (areNames_any ao l cap _ HD.out HF.out).mono ?_; rintro e w1 ⟨rfl, hb1⟩; generalize namesB l = r at *) | (fail "none"))
    go_ret
    exact ⟨ret_bool (by rw [HE.out]; simp), hb1⟩
  · have g : ¬ (l.length : Int) ≤ 10 := by omega
    rw [decide_eq_false h] at HE
    go_enter Try.func195, Try.ntmps195
    go_wp2_with (fail "none")
    go_ret
    exact ⟨ret_bool (by rw [HE.out]; simp), Below.refl _ _⟩
end Go.Proofs.Ytlgafmgohinkbaa
/- SchemaRight: classes in order. -/
namespace Go.Proofs.Ytlgafmgohinkbaa
open Go.RowKit
attribute [local go_sem ↓] Go.wp_at_zero Go.wp_at_succ

def clsLt (x y : ClassV) : Bool := Op.bytesLess x.nm.toList y.nm.toList
def IsSl (v : Value) : Prop := ∃ o n c, v = .slice o n c
theorem SlV.sl {w : World} {v : Value} {l : List ByteArray} (h : SlV w v l) : IsSl v := by obtain ⟨vo, vc, rfl, _⟩ := h; exact ⟨_, _, _, rfl⟩
set_option maxHeartbeats 1000000 in
theorem compareClass_any (w0 : World) (x y : ClassV) (v1 v2 v3 u1 u2 u3 : Value) (w : World) (i1 : IsSl v1) (i2 : IsSl v2) (i3 : IsSl v3) (j1 : IsSl u1) (j2 : IsSl u2) (j3 : IsSl u3) (hBel : Below w0.heap.size w0 w) :
    Calls Try.prog 159 #[.agg #[.string x.nm, v1, v2, v3], .agg #[.string y.nm, u1, u2, u3]] w fun e w' => (∃ c : Int, e = .returned (.int .i64 c) ∧ decide (0 ≤ c) = !(clsLt x y)) ∧ Below w0.heap.size w0 w' := by
  obtain ⟨_, _, _, rfl⟩ := i1
  obtain ⟨_, _, _, rfl⟩ := i2
  obtain ⟨_, _, _, rfl⟩ := i3
  obtain ⟨_, _, _, rfl⟩ := j1
  obtain ⟨_, _, _, rfl⟩ := j2
  obtain ⟨_, _, _, rfl⟩ := j3
  have HC : Hid (decide (0 ≤ Lib.compareBytes x.nm.data.toList y.nm.data.toList) = !(clsLt x y)) := Lib.hid (by rw [compare_less]; unfold clsLt; rw [Lib.toList_data, Lib.toList_data])
  have HB := Lib.hid hBel; clear hBel
  generalize clsLt x y = r at *
  generalize x.nm = a at *
  generalize y.nm = b at *
  go_enter Try.func159, Try.ntmps159
  go_wp2_with (first
    | (go_at_call 79; refine (Try.strings_Compare _ _ _).mono ?_; rintro e w3 ⟨rfl, rfl⟩)
    | (fail "none"))
  go_ret
  exact ⟨⟨_, rfl, HC.out⟩, more (more HB.out _) _⟩
set_option maxRecDepth 100000 in
set_option maxHeartbeats 2000000 in
theorem incClass_any (ao : Option Addr) (l : List ClassV) (cap : Nat) (w : World) (hd : ClassesAt w ao l) (hl : l.length ≤ 1048576) :
    Calls Try.prog 158 #[.slice ao l.length cap, .func (.func 159) #[] #[]] w fun e w' => e = .returned (.bool (incB clsLt l)) ∧ Below w.heap.size w w' := by
  have HD := Lib.hid hd; clear hd
  go_enter Try.func158, Try.ntmps158
  go_wp2
  go_loopw [5] (fun i wr => ∃ m : Nat, m ≤ l.length ∧ i = .int .i64 ((m : Int) + 1) ∧ (∀ j (h : j + 1 < l.length), j < m → clsLt l[j] l[j + 1] = true) ∧ Below w.heap.size w wr) (fun i _ => l.length + 1 - (intOf i).toNat)
  case atStart => exact ⟨0, Nat.zero_le _, rfl, fun j _ h => absurd h (Nat.not_lt_zero _), Below.refl _ _⟩
  case round =>
    obtain ⟨m, hm, rfl, ha, hbel⟩ := hrel
    have Ha := Lib.hid ha; clear ha
    have hsz := hbel.size
    by_cases hlt : m + 1 < l.length
    · have hm0 : m < l.length := by omega
      obtain ⟨b, off, v1, v2, v3, rfl, hw0, hx⟩ := HD.out.at hm0
      obtain ⟨b', off', u1, u2, u3, e, _, hy⟩ := HD.out.at hlt
      cases e
      obtain ⟨d0, d1, d2, d3, s1, s2, s3⟩ := hx
      obtain ⟨e0, e1, e2, e3, t1, t2, t3⟩ := hy
      have g1 : (m : Int) + 1 < (l.length : Int) := by omega
      have g2 : (0 : Int) ≤ (m : Int) := by omega
      have g3 : (m : Int) < (l.length : Int) := by omega
      have g4 : (0 : Int) ≤ (m : Int) + 1 := by omega
      have HN : Hid (∀ j (h : j + 1 < l.length), j < m + 1 → clsLt l[m] l[m + 1] = true → clsLt l[j] l[j + 1] = true) := Lib.hid (fun j h hj hn => by
        by_cases e : j = m
        · subst e; exact hn
        · exact Ha.out j h (by omega))
      have HX : Hid (clsLt l[m] l[m + 1] = false → incB clsLt l = false) := Lib.hid (fun h => incB_no hlt h)
      generalize hx : l[m] = X at *
      generalize hy : l[m + 1] = Y at *
      clear hx hy
      have CC : Hid (∀ W : World, Below w.heap.size w W → Calls Try.prog 159 #[.agg #[.string X.nm, v1, v2, v3], .agg #[.string Y.nm, u1, u2, u3]] W fun e w' => (∃ c : Int, e = .returned (.int .i64 c) ∧ decide (0 ≤ c) = !(clsLt X Y)) ∧ Below w.heap.size w w') := Lib.hid (fun W h => compareClass_any w X Y v1 v2 v3 u1 u2 u3 W s1.sl s2.sl s3.sl t1.sl t2.sl t3.sl h)
      clear s1 s2 s3 t1 t2 t3
      have SK : Hid (∀ W : World, Below w.heap.size w W → (Below w.heap.size w W ∧ (W.cell? ⟨b, off + m * 4, none⟩ = some (.string X.nm) ∧ W.cell? ⟨b, off + m * 4 + 1, none⟩ = some v1 ∧ W.cell? ⟨b, off + m * 4 + 2, none⟩ = some v2 ∧ W.cell? ⟨b, off + m * 4 + 3, none⟩ = some v3) ∧ (W.cell? ⟨b, off + (m + 1) * 4, none⟩ = some (.string Y.nm) ∧ W.cell? ⟨b, off + (m + 1) * 4 + 1, none⟩ = some u1 ∧ W.cell? ⟨b, off + (m + 1) * 4 + 2, none⟩ = some u2 ∧ W.cell? ⟨b, off + (m + 1) * 4 + 3, none⟩ = some u3))) :=
        Lib.hid (fun W h => ⟨h, ⟨(h.cell (p := ⟨b, _, none⟩) hw0).trans d0, (h.cell (p := ⟨b, _, none⟩) hw0).trans d1, (h.cell (p := ⟨b, _, none⟩) hw0).trans d2, (h.cell (p := ⟨b, _, none⟩) hw0).trans d3⟩, ⟨(h.cell (p := ⟨b, _, none⟩) hw0).trans e0, (h.cell (p := ⟨b, _, none⟩) hw0).trans e1, (h.cell (p := ⟨b, _, none⟩) hw0).trans e2, (h.cell (p := ⟨b, _, none⟩) hw0).trans e3⟩⟩)
      have hbd := hbel.drew
      have hwr : IntKind.i64.wrap (m : Int) = (m : Int) := IntWalk.i64_in _ (by omega)
      have hwr2 : IntKind.i64.wrap ((m : Int) + 1 - 1) = (m : Int) := by rw [Int.add_sub_cancel]; exact hwr
      clear d0 d1 d2 d3 e0 e1 e2 e3
      cases hn : clsLt X Y
      · have HX' := Lib.hid (HX.out hn)
        go_wp2_with fail
        go_region_held3 (fun W => Below w.heap.size w W ∧ (W.cell? ⟨b, off + m * 4, none⟩ = some (.string X.nm) ∧ W.cell? ⟨b, off + m * 4 + 1, none⟩ = some v1 ∧ W.cell? ⟨b, off + m * 4 + 2, none⟩ = some v2 ∧ W.cell? ⟨b, off + m * 4 + 3, none⟩ = some v3) ∧ (W.cell? ⟨b, off + (m + 1) * 4, none⟩ = some (.string Y.nm) ∧ W.cell? ⟨b, off + (m + 1) * 4 + 1, none⟩ = some u1 ∧ W.cell? ⟨b, off + (m + 1) * 4 + 2, none⟩ = some u2 ∧ W.cell? ⟨b, off + (m + 1) * 4 + 3, none⟩ = some u3))
          (exact SK.out _ (by assumption))
          (first | (go_at_call 159; refine (CC.out _ (by assumption)).mono ?_; rintro e w1 ⟨⟨c, rfl, hc⟩, hb1⟩; rw [hn] at hc; have hc0 : 0 ≤ c := (by simpa using hc); clear hc) | (fail "none"))
        all_goals
          go_wp2
          go_ret
          exact ⟨ret_bool (by rw [HX'.out]), hb1⟩
      · skip
        go_wp2_with fail
        go_region_held3 (fun W => Below w.heap.size w W ∧ (W.cell? ⟨b, off + m * 4, none⟩ = some (.string X.nm) ∧ W.cell? ⟨b, off + m * 4 + 1, none⟩ = some v1 ∧ W.cell? ⟨b, off + m * 4 + 2, none⟩ = some v2 ∧ W.cell? ⟨b, off + m * 4 + 3, none⟩ = some v3) ∧ (W.cell? ⟨b, off + (m + 1) * 4, none⟩ = some (.string Y.nm) ∧ W.cell? ⟨b, off + (m + 1) * 4 + 1, none⟩ = some u1 ∧ W.cell? ⟨b, off + (m + 1) * 4 + 2, none⟩ = some u2 ∧ W.cell? ⟨b, off + (m + 1) * 4 + 3, none⟩ = some u3))
          (exact SK.out _ (by assumption))
          (first | (go_at_call 159; refine (CC.out _ (by assumption)).mono ?_; rintro e w1 ⟨⟨c, rfl, hc⟩, hb1⟩; rw [hn] at hc; have hc0 : ¬ 0 ≤ c := (by simpa using hc); clear hc) | (fail "none"))
        all_goals
          go_wp2
          go_roundw
          case rel => exact ⟨m + 1, by omega, by go_num, fun j h hj => HN.out j h hj hn, hb1⟩
          case measure => simp [intOf]; omega
    · have HT : Hid (incB clsLt l = true) := Lib.hid (incB_yes fun j h => Ha.out j h (by omega))
      have g1 : ¬ (m : Int) + 1 < (l.length : Int) := by omega
      go_wp2
      go_ret
      exact ⟨ret_bool (by rw [HT.out]), hbel⟩
end Go.Proofs.Ytlgafmgohinkbaa
/- Names among others: what slices.Contains and the specification's look-up return. -/
namespace Go.Proofs.Ytlgafmgohinkbaa
open Go.RowKit
attribute [local go_sem ↓] Go.wp_at_zero Go.wp_at_succ

def hasS (l : List ByteArray) (x : ByteArray) : Bool := l.any fun y => y.toList == x.toList
theorem hasS_yes {l : List ByteArray} {x : ByteArray} {k : Nat} (hk : k < l.length) (h : (l[k].toList == x.toList) = true) : hasS l x = true := by
  unfold hasS
  rw [List.any_eq_true]
  exact ⟨l[k], List.getElem_mem hk, h⟩
theorem hasS_no {l : List ByteArray} {x : ByteArray} (h : ∀ j (h : j < l.length), (l[j].toList == x.toList) = false) : hasS l x = false := by
  unfold hasS
  rw [List.any_eq_false]
  intro y hy
  obtain ⟨i, hi, rfl⟩ := List.getElem_of_mem hy
  rw [h i hi]; simp
theorem beq_swap (a b : ByteArray) : (a.toList == b.toList) = (b.toList == a.toList) := by
  rw [Bool.eq_iff_iff]; simp only [beq_iff_eq]; exact ⟨Eq.symm, Eq.symm⟩
set_option maxRecDepth 100000 in
set_option maxHeartbeats 1000000 in
theorem index_any (ao : Option Addr) (l : List ByteArray) (cap : Nat) (x : ByteArray) (w : World) (hd : StrsAt w ao l) (hl : l.length ≤ 10000000) :
    Calls Try.prog 230 #[.slice ao l.length cap, .string x] w fun e w' => (∃ n : Int, e = .returned (.int .i64 n) ∧ decide (0 ≤ n) = hasS l x) ∧ w' = w := by
  have HD := Lib.hid hd; clear hd
  go_enter Try.func230, Try.ntmps230
  go_wp2
  go_loopw [5, 8] (fun _ i wr => ∃ k : Nat, k ≤ l.length ∧ i = .int .i64 k ∧ (∀ j (h : j < l.length), j < k → (l[j].toList == x.toList) = false) ∧ wr = w) (fun _ i _ => l.length - (intOf i).toNat)
  case atStart => exact ⟨0, Nat.zero_le _, rfl, fun j _ h => absurd h (Nat.not_lt_zero _), by trivial⟩
  case round =>
    obtain ⟨k, hk, rfl, ha, rfl⟩ := hrel
    have Ha := Lib.hid ha; clear ha
    by_cases hlt : k < l.length
    · obtain ⟨b, off, rfl, hb0, hc1⟩ := HD.out.at hlt
      have HY : Hid ((l[k].toList == x.toList) = true → hasS l x = true) := Lib.hid (fun h => hasS_yes hlt h)
      have HN : Hid ((l[k].toList == x.toList) = false → ∀ j (h : j < l.length), j < k + 1 → (l[j].toList == x.toList) = false) := Lib.hid (fun hn j h hj => by
        by_cases e : j = k
        · subst e; exact hn
        · exact Ha.out j h (by omega))
      generalize l[k] = A at *
      have hsw := beq_swap x A
      cases hq : (A.toList == x.toList)
      · rw [hq] at hsw
        have HN' := Lib.hid (HN.out hq)
        go_wp2
        go_roundw
        case rel => exact ⟨k + 1, by omega, by go_num, HN'.out, trivial⟩
        case measure => simp [intOf]; omega
      · rw [hq] at hsw
        have HY' := Lib.hid (HY.out hq)
        go_wp2
        go_ret
        exact ⟨⟨_, rfl, by rw [HY'.out]; exact decide_eq_true (by omega)⟩, rfl⟩
    · have HN' : Hid (hasS l x = false) := Lib.hid (hasS_no fun j h => Ha.out j h (by omega))
      go_wp2
      go_ret
      exact ⟨⟨_, rfl, by rw [HN'.out]; rfl⟩, rfl⟩
set_option maxHeartbeats 1000000 in
theorem contains_any (ao : Option Addr) (l : List ByteArray) (cap : Nat) (x : ByteArray) (w : World) (hd : StrsAt w ao l) (hl : l.length ≤ 10000000) :
    Calls Try.prog 197 #[.slice ao l.length cap, .string x] w fun e w' => e = .returned (.bool (hasS l x)) ∧ w' = w := by
  have HD := Lib.hid hd; clear hd
  go_enter Try.func197, Try.ntmps197
  go_wp2_with fail
  refine (index_any ao l cap x w HD.out hl).mono ?_
  rintro e w' ⟨⟨n, rfl, hn⟩, rfl⟩
  have HN := Lib.hid hn; clear hn
  by_cases h : 0 ≤ n
  · have HR : Hid (hasS l x = true) := Lib.hid (by rw [← HN.out]; exact decide_eq_true h)
    go_wp2
    go_ret
    exact ⟨ret_bool (by rw [HR.out]), rfl⟩
  · have HR : Hid (decide (0 ≤ n) = hasS l x) := HN
    go_wp2
    go_ret
    exact ⟨ret_bool HR.out, rfl⟩
set_option maxRecDepth 100000 in
set_option maxHeartbeats 1000000 in
theorem l04Has_any (ao : Option Addr) (l : List ByteArray) (cap : Nat) (x : ByteArray) (w : World) (hd : StrsAt w ao l) (hl : l.length ≤ 10000000) :
    Calls Try.prog 169 #[.slice ao l.length cap, .string x] w fun e w' => e = .returned (.bool (hasS l x)) ∧ w' = w := by
  have HD := Lib.hid hd; clear hd
  go_enter Try.func169, Try.ntmps169
  go_wp2
  go_loopw [5] (fun i wr => ∃ k : Nat, k ≤ l.length ∧ i = .int .i64 k ∧ (∀ j (h : j < l.length), j < k → (l[j].toList == x.toList) = false) ∧ wr = w) (fun i _ => l.length - (intOf i).toNat)
  case atStart => exact ⟨0, Nat.zero_le _, rfl, fun j _ h => absurd h (Nat.not_lt_zero _), by trivial⟩
  case round =>
    obtain ⟨k, hk, rfl, ha, rfl⟩ := hrel
    have Ha := Lib.hid ha; clear ha
    by_cases hlt : k < l.length
    · obtain ⟨b, off, rfl, hb0, hc1⟩ := HD.out.at hlt
      have HY : Hid ((l[k].toList == x.toList) = true → hasS l x = true) := Lib.hid (fun h => hasS_yes hlt h)
      have HN : Hid ((l[k].toList == x.toList) = false → ∀ j (h : j < l.length), j < k + 1 → (l[j].toList == x.toList) = false) := Lib.hid (fun hn j h hj => by
        by_cases e : j = k
        · subst e; exact hn
        · exact Ha.out j h (by omega))
      generalize l[k] = A at *
      cases hq : (A.toList == x.toList)
      · have HN' := Lib.hid (HN.out hq)
        go_wp2
        go_roundw
        case rel => exact ⟨k + 1, by omega, by go_num, HN'.out, trivial⟩
        case measure => simp [intOf]; omega
      · have HY' := Lib.hid (HY.out hq)
        go_wp2
        go_ret
        exact ⟨ret_bool (by rw [HY'.out]), rfl⟩
    · have HN' : Hid (hasS l x = false) := Lib.hid (hasS_no fun j h => Ha.out j h (by omega))
      go_wp2
      go_ret
      exact ⟨ret_bool (by rw [HN'.out]), rfl⟩
/-- those of the names that are not among the others -/
def besideV (l m : List ByteArray) : List ByteArray := l.filter fun x => !(hasS m x)
theorem besideV_succ (l m : List ByteArray) (k : Nat) (h : k < l.length) : besideV (l.take (k + 1)) m = besideV (l.take k) m ++ (if hasS m l[k] then [] else [l[k]]) := by
  unfold besideV
  rw [List.take_succ_eq_append_getElem h, List.filter_append]
  congr 1
  cases hq : hasS m l[k] <;> simp [hq]
theorem besideV_len (l m : List ByteArray) (k : Nat) : (besideV (l.take k) m).length ≤ l.length := by
  unfold besideV
  exact Nat.le_trans (List.length_filter_le _ _) (by rw [List.length_take]; omega)
set_option maxRecDepth 100000 in
set_option maxHeartbeats 2000000 in
theorem beside_any (ao bo : Option Addr) (l m : List ByteArray) (ca cb : Nat) (w : World) (hd : StrsAt w ao l) (he : StrsAt w bo m) (hl : l.length ≤ 1048576) (hm : m.length ≤ 10000000) :
    Calls Try.prog 196 #[.slice ao l.length ca, .slice bo m.length cb] w (GivesV w (besideV l m)) := by
  have HD := Lib.hid hd; have HE := Lib.hid he; clear hd he
  go_enter Try.func196, Try.ntmps196
  go_wp2_with fail
  go_loopw [5, 10] (fun v i wr => ∃ k : Nat, k ≤ l.length ∧ i = .int .i64 k ∧ wr.ownsRow w.heap.size 9 1 v (besideV (l.take k) m).length (ss (besideV (l.take k) m)) ∧ Below w.heap.size w wr) (fun _ i _ => l.length - (intOf i).toNat)
  case atStart => exact ⟨0, Nat.zero_le _, rfl, ⟨rfl, .inl ⟨rfl, rfl⟩⟩, Below.refl _ _⟩
  case round =>
    obtain ⟨k, hk, rfl, hown, hbel⟩ := hrel
    have hsz := hbel.size
    by_cases hlt : k < l.length
    · obtain ⟨p, off, rfl, hp0, hd1⟩ := HD.out.at hlt
      have c1 := (hbel.cell (p := ⟨p, off + k, none⟩) hp0).trans hd1
      have HN := Lib.hid (besideV_succ l m k hlt)
      have HL : Hid ((besideV (l.take k) m).length ≤ 1000000000) := Lib.hid (by have := besideV_len l m k; omega)
      have HE' := Lib.hid (HE.out.below hbel)
      have g1 : (0 : Int) ≤ (k : Int) := by omega
      have g2 : (k : Int) < (l.length : Int) := by omega
      clear hd1
      generalize l[k] = x at *
      generalize besideV (l.take k) m = pre at *
      cases hq : hasS m x
      · rw [hq] at HN
        go_wp2_with (first
          | (go_at_call 197; refine (contains_any bo m cb x wr HE'.out hm).mono ?_; rintro e w3 ⟨rfl, rfl⟩; rw [hq])
          | (at_builtin; refine append_str w.heap.size rfl _ _ rfl _ pre rfl hown _ rfl HL.out hsz hbel ?_; intro v4 w4 hown4 hbel4 hsz4 _ _)
          | (fail "none"))
        go_roundw
        case rel => exact ⟨k + 1, by omega, by go_num, by rw [HN.out]; exact hown4, hbel4⟩
        case measure => simp [intOf]; omega
      · rw [hq] at HN
        go_wp2_with (first
          | (go_at_call 197; refine (contains_any bo m cb x wr HE'.out hm).mono ?_; rintro e w3 ⟨rfl, rfl⟩; rw [hq])
          | (fail "none"))
        go_roundw
        case rel => exact ⟨k + 1, by omega, by go_num, by rw [HN.out]; simpa using hown, hbel⟩
        case measure => simp [intOf]; omega
    · obtain rfl : k = l.length := by omega
      have HO : Hid (wr.ownsRow w.heap.size 9 1 u5 (besideV l m).length (ss (besideV l m))) := Lib.hid (by have h := hown; rw [List.take_length] at h; exact h)
      clear hown
      go_wp2
      go_ret
      exact ⟨⟨_, rfl, HO.out⟩, hbel⟩
end Go.Proofs.Ytlgafmgohinkbaa
/- Access control: which rules are right: the program. -/
namespace Go.Proofs.Ytlgafmgohinkbaa
open Go.RowKit
attribute [local go_sem ↓] Go.wp_at_zero Go.wp_at_succ

def starB (s : ByteArray) : Bool := s.toList == [42]
def rtB (r : Int) : Bool := decide (1 ≤ r) && decide (r ≤ 4)
noncomputable def ruleB (x : RuleT) : Bool := (starB x.1 || nmL x.1) && (decide (x.2.2.1.length ≤ 8) && namesB x.2.2.1) && (dnB x.2.1 && rtB x.2.2.2.1)
noncomputable def aclB (l : List RuleT) : Bool := decide (l.length ≤ 10) && l.all ruleB
theorem isRight_any (r : Int) (w : World) : Calls Try.prog 166 #[.int .i64 r] w fun e w' => e = .returned (.bool (rtB r)) ∧ w' = w := by
  by_cases h1 : 1 ≤ r
  · by_cases h2 : r ≤ 4
    all_goals
      go_enter Try.func166, Try.ntmps166
      go_wp2
      go_ret
      exact ⟨ret_bool (by simp [rtB, h1, h2]), rfl⟩
  · go_enter Try.func166, Try.ntmps166
    go_wp2
    go_ret
    exact ⟨ret_bool (by simp [rtB, h1]; omega), rfl⟩
set_option maxRecDepth 100000 in
set_option maxHeartbeats 4000000 in
theorem ruleRight_any {S : Bs} (a0 : ByteArray) (a1 : List RdnT) (a2 : List ByteArray) (a3 : Int) (a4 : Bool) (v1 v2 : Value) (w : World) (h1 : SlAt rdnE S w a1 v1) (h2 : SlAt strE S w a2 v2) (hz : ruleE.sz (a0, a1, a2, a3, a4) ≤ 1048576) :
    Calls Try.prog 118 #[.agg #[.string a0, v1, v2, .int .i64 a3, .bool a4]] w fun e w' => e = .returned (.bool (ruleB (a0, a1, a2, a3, a4))) ∧ Below w.heap.size w w' := by
  have HE : ruleE.sz (a0, a1, a2, a3, a4) = a0.size + ((a1.length + szL rdnE a1) + ((a2.length + szL strE a2) + (0 + (0)))) := rfl
  rw [HE] at hz
  have HB : Hid (ruleB (a0, a1, a2, a3, a4) = ((starB a0 || nmL a0) && (decide (a2.length ≤ 8) && namesB a2) && (dnB a1 && rtB a3))) := Lib.hid rfl
  obtain ⟨o1, k1, rfl⟩ := h1.sl
  obtain ⟨o2, k2, rfl⟩ := h2.sl
  have CN : Hid (∀ W : World, Calls Try.prog 86 #[.string a0] W fun e w' => e = .returned (.bool (nmL a0)) ∧ W = w') := Lib.hid (fun W => NameRight_any a0 W (by unfold maxLen; omega))
  have CA : Hid (∀ W : World, Below w.heap.size w W → Calls Try.prog 170 #[.slice o2 a2.length k2] W fun e w' => e = .returned (.bool (namesB a2)) ∧ Below W.heap.size W w') := Lib.hid (fun W b => areNames_any o2 a2 k2 W ((strs_of h2).below b) (fits_str (by omega)))
  have CD : Hid (∀ W : World, Below w.heap.size w W → Calls Try.prog 165 #[.slice o1 a1.length k1] W fun e w' => e = .returned (.bool (dnB a1)) ∧ Below W.heap.size W w') := Lib.hid (fun W b => DnRight_any o1 a1 k1 W ((dn_of h1).below b) (fits_dn (by omega)))
  have hl2 : a2.length ≤ 1048576 := by omega
  clear h1 h2 hz HE
  generalize nmL a0 = nm at *
  generalize namesB a2 = nms at *
  generalize dnB a1 = dn at *
  generalize hs : starB a0 = st at *
  have hst : (a0.toList == [42]) = st := hs
  clear hs
  generalize ruleB (a0, a1, a2, a3, a4) = R at *
  have hcase : (st = false ∧ nm = false) ∨ (st || nm) = true := by cases st <;> cases nm <;> simp
  rcases hcase with ⟨e1, e2⟩ | hok
  · subst e1 e2
    go_enter Try.func118, Try.ntmps118
    go_wp2_with fail
    refine (CN.out _).mono ?_
    rintro e w1 ⟨rfl, rfl⟩
    go_wp2
    go_ret
    exact ⟨ret_bool (by rw [HB.out]; rfl), more' (Below.refl _ _) _⟩
  rw [hok] at HB
  have HB2 : Hid (R = ((decide (a2.length ≤ 8) && nms) && (dn && rtB a3))) := Lib.hid (by rw [HB.out]; simp)
  have CN2 : Hid (st = false → nm = true) := Lib.hid (fun h => by subst h; simpa using hok)
  clear HB hok
  by_cases h8 : a2.length ≤ 8
  rotate_left
  · have HR : Hid (R = false) := Lib.hid (by rw [HB2.out]; simp [h8])
    have h8' : (8 : Int) < (a2.length : Int) := by omega
    cases st
    all_goals
      first
        | (have hn := CN2.out rfl; rw [hn] at CN; clear CN2)
        | clear CN2
      go_enter Try.func118, Try.ntmps118
      go_wp2_with (first | (go_at_call 86; refine (CN.out _).mono ?_; rintro e w1 ⟨rfl, rfl⟩) | (fail "none"))
      go_ret
      exact ⟨ret_bool HR.out.symm, more' (Below.refl _ _) _⟩
  have HB3 : Hid (R = (nms && (dn && rtB a3))) := Lib.hid (by rw [HB2.out]; simp [h8])
  have h8' : ¬ (8 : Int) < (a2.length : Int) := by omega
  clear HB2
  cases st
  all_goals
    first
      | (have hn := CN2.out rfl; rw [hn] at CN; clear CN2)
      | clear CN2
    go_enter Try.func118, Try.ntmps118
    go_wp2_with (first | (go_at_call 86; refine (CN.out _).mono ?_; rintro e w1 ⟨rfl, rfl⟩) | (fail "none"))
    refine calls_by (fun W => Below w.heap.size w W ∧ Blk W w.heap.size [.string a0, .slice o1 a1.length k1, .slice o2 a2.length k2, .int .i64 a3, .bool a4]) ⟨more' (Below.refl _ _) _, Blk.new _ _ _⟩ ?_
    rintro W1 ⟨b1, t1⟩
    refine (CA.out W1 b1).mono ?_
    rintro e w2 ⟨rfl, hb⟩
    have b2 := b1.trans (hb.mono b1.size); have T2 := Lib.hid (t1.below hb)
    clear hb t1 b1
    cases nms
    · have HR : Hid (R = false) := Lib.hid (by rw [HB3.out]; rfl)
      go_wp2
      go_ret
      exact ⟨ret_bool HR.out.symm, b2⟩
    have m0 := T2.out.cell 0 rfl
    have m1 := T2.out.cell 1 rfl
    have m2 := T2.out.cell 2 rfl
    have m3 := T2.out.cell 3 rfl
    have m4 := T2.out.cell 4 rfl
    go_wp2_with fail
    refine (CD.out w2 b2).mono ?_
    rintro e w3 ⟨rfl, hb⟩
    have b3 := b2.trans (hb.mono b2.size); have T3 := Lib.hid (T2.out.below hb)
    clear hb T2 b2 m0 m1 m2 m3 m4
    cases dn
    · have HR : Hid (R = false) := Lib.hid (by rw [HB3.out]; rfl)
      go_wp2
      go_ret
      exact ⟨ret_bool HR.out.symm, b3⟩
    have HR : Hid (R = rtB a3) := Lib.hid (by rw [HB3.out]; rfl)
    have m3 := T3.out.cell 3 rfl
    go_wp2_with fail
    refine (isRight_any a3 w3).mono ?_
    rintro e w4 ⟨rfl, rfl⟩
    generalize rtB a3 = q at *
    go_wp2
    go_ret
    exact ⟨ret_bool HR.out.symm, b3⟩
end Go.Proofs.Ytlgafmgohinkbaa
/- Access control: which lists are right: the program. -/
namespace Go.Proofs.Ytlgafmgohinkbaa
open Go.RowKit
attribute [local go_sem ↓] Go.wp_at_zero Go.wp_at_succ

theorem aclB_long {l : List RuleT} (h : ¬ l.length ≤ 10) : aclB l = false := by unfold aclB; simp [h]
theorem aclB_bad {l : List RuleT} {k : Nat} (h : k < l.length) (hb : ruleB l[k] = false) : aclB l = false := by unfold aclB; rw [all_bad ruleB l k h hb]; simp
theorem aclB_all {l : List RuleT} (h1 : l.length ≤ 10) (h : l.all ruleB = true) : aclB l = true := by unfold aclB; rw [h]; simp [h1]
set_option maxRecDepth 100000 in
set_option maxHeartbeats 4000000 in
theorem AclRight_any {S : Bs} (v : Value) (d : List RuleT) (w : World) (hd : SlAt ruleE S w d v) (hz : d.length + szL ruleE d ≤ 1048576) :
    Calls Try.prog 51 #[v] w fun e w' => e = .returned (.bool (aclB d)) ∧ Below w.heap.size w w' := by
  obtain ⟨ao, ca, rfl⟩ := hd.sl
  have HD := Lib.hid hd; have HL := Lib.hid hz; clear hd
  have hl : d.length ≤ 1048576 := by omega
  clear hz
  by_cases h10 : d.length ≤ 10
  rotate_left
  · have HR := Lib.hid (aclB_long h10)
    have h10' : (10 : Int) < (d.length : Int) := by omega
    go_enter Try.func51, Try.ntmps51
    go_wp2
    go_ret
    exact ⟨ret_bool HR.out.symm, Below.refl _ _⟩
  have h10' : ¬ (10 : Int) < (d.length : Int) := by omega
  go_enter Try.func51, Try.ntmps51
  go_wp2
  go_loopw [10] (fun i wr => ∃ k : Nat, k ≤ d.length ∧ i = .int .i64 k ∧ (d.take k).all ruleB = true ∧ Below w.heap.size w wr) (fun i _ => d.length - (intOf i).toNat)
  case atStart => exact ⟨0, Nat.zero_le _, rfl, rfl, Below.refl _ _⟩
  case round =>
    obtain ⟨k, hk, rfl, ha, hbel⟩ := hrel
    have Ha := Lib.hid ha; clear ha
    have hsz := hbel.size
    by_cases hlt : k < d.length
    · obtain ⟨b, off, a0, a1, a2, a3, a4, v1, v2, rfl, _, hb0, hx, ⟨hc0, hc1, hc2, hc3, hc4⟩, s1, s2, _⟩ := rule_row (HD.out.frame (Same.of_below' hbel)) hlt
      have HZ : Hid (ruleE.sz (a0, a1, a2, a3, a4) ≤ 1048576) := Lib.hid (by have h1 := szL_mem ruleE (List.getElem_mem hlt); rw [hx] at h1; have := HL.out; omega)
      have HBad : Hid (ruleB (a0, a1, a2, a3, a4) = false → aclB d = false) := Lib.hid (fun h => aclB_bad hlt (by rw [hx]; exact h))
      have HT : Hid (ruleB (a0, a1, a2, a3, a4) = true → (d.take (k + 1)).all ruleB = true) := Lib.hid (fun h => by rw [all_take ruleB d k hlt, Ha.out, hx, h]; rfl)
      clear hx Ha
      have HC : Hid (∀ W : World, Below wr.heap.size wr W → Calls Try.prog 118 #[.agg #[.string a0, v1, v2, .int .i64 a3, .bool a4]] W fun e w' => e = .returned (.bool (ruleB (a0, a1, a2, a3, a4))) ∧ Below W.heap.size W w') := Lib.hid (fun W b => ruleRight_any a0 a1 a2 a3 a4 v1 v2 W (s1.frame (Same.of_below' b)) (s2.frame (Same.of_below' b)) HZ.out)
      obtain ⟨o1, k1, rfl⟩ := s1.sl
      obtain ⟨o2, k2, rfl⟩ := s2.sl
      clear s1 s2 HZ
      generalize ruleB (a0, a1, a2, a3, a4) = r at *
      have g1 : (0 : Int) ≤ (k : Int) := by omega
      have g2 : (k : Int) < (d.length : Int) := by omega
      go_wp2_with fail
      refine (HC.out _ (more' (Below.refl _ _) _)).mono ?_
      rintro e w2 ⟨rfl, hb2⟩
      have B2 := Lib.hid ((more' hbel _).trans (hb2.mono (more' hbel _).size)); clear hb2
      cases r
      · have HR := Lib.hid (HBad.out rfl)
        go_wp2
        go_ret
        exact ⟨ret_bool HR.out.symm, B2.out⟩
      · go_wp2
        go_roundw
        case rel => exact ⟨k + 1, by omega, by go_num, HT.out (by first | rfl | trivial), B2.out⟩
        case measure => simp [intOf]; omega
    · have HR : Hid (aclB d = true) := Lib.hid (aclB_all h10 (by have := Ha.out; rw [List.take_of_length_le (by omega)] at this; exact this))
      go_wp2
      go_ret
      exact ⟨ret_bool HR.out.symm, hbel⟩
end Go.Proofs.Ytlgafmgohinkbaa
/- Which classes are right. -/
namespace Go.Proofs.Ytlgafmgohinkbaa
open Go.RowKit

theorem calls_any' {P : Program} {f : Nat} {args : Array Value} {w : World} {Q : Ending → World → Prop} (R : World → Prop) (h : R w) (k : ∀ W, R W → Calls P f args W Q) : Calls P f args w Q := k w h
def clsT : ByteArray := ⟨#[99, 108, 97, 115, 115]⟩
theorem hasS_append (a b : List ByteArray) (x : ByteArray) : hasS (a ++ b) x = (hasS a x || hasS b x) := by unfold hasS; rw [List.any_append]
theorem besideV_lt (l m : List ByteArray) : decide ((besideV l m).length < l.length) = !(l.all fun x => !(hasS m x)) := by
  rw [Bool.eq_iff_iff, decide_eq_true_eq, Bool.not_eq_true', List.all_eq_false]
  unfold besideV
  rw [List.length_filter_lt_length_iff_exists]
theorem besideV_zero (l m : List ByteArray) : decide ((besideV l m).length = 0) = l.all fun x => hasS m x := by
  rw [Bool.eq_iff_iff, decide_eq_true_eq, List.all_eq_true, List.length_eq_zero_iff]
  unfold besideV
  rw [List.filter_eq_nil_iff]
  simp
noncomputable def classB (c : ClassV) : Bool := nmL c.nm && (names10 c.must && (names10 c.may && (names10 c.one && ((c.must.all fun x => !(hasS c.may x)) && (!(hasS (c.must ++ c.may) clsT) && c.one.all fun x => hasS (c.must ++ c.may) x)))))
noncomputable def schemaB (l : List ClassV) : Bool := decide (l.length ≤ 6) && (l.all classB && incB clsLt l)
theorem schemaB_bad {l : List ClassV} {k : Nat} (h : k < l.length) (hb : classB l[k] = false) : schemaB l = false := by unfold schemaB; rw [all_bad classB l k h hb]; simp
theorem schemaB_inc {l : List ClassV} {m : Nat} (h : m + 1 < l.length) (hb : clsLt l[m] l[m + 1] = false) : schemaB l = false := by unfold schemaB; rw [incB_no h hb]; simp
theorem schemaB_all {l : List ClassV} (h : l.all classB = true) (hi : ∀ j (h : j + 1 < l.length), clsLt l[j] l[j + 1] = true) : schemaB l = decide (l.length ≤ 6) := by
  unfold schemaB; rw [h, incB_yes hi]; simp
end Go.Proofs.Ytlgafmgohinkbaa
