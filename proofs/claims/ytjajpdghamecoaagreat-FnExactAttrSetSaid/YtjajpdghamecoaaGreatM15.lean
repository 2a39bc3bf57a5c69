/- Merged texts: SpNew, SpAdd3, SpPut, OutSt, ASetW. -/
import Derived.Test.YtjajpdghamecoaaGreatM14
import Derived.Test.YtjajpdghamecoaaGreatM12
/- l03New: what the specification's text returns. -/
namespace Go.Proofs.YtjajpdghamecoaaGreat
open Go.RowKit
attribute [local go_sem ↓] Go.wp_at_zero Go.wp_at_succ

theorem diff_snoc {L : List ByteArray} {x : ByteArray} (h : Diff L) (hx : findI (likeV x) L < 0) : Diff (L ++ [x]) := by
  unfold Diff
  rw [List.pairwise_append]
  refine ⟨h, by simp, fun a ha b hb => ?_⟩
  simp at hb; subst hb; exact findI_miss hx a ha
theorem findI_hit {α : Type} {p : α → Bool} {l : List α} (h : ¬ findI p l < 0) : ∃ a ∈ l, p a = true := by
  unfold findI at h
  cases hf : l.findIdx? p with
  | none => rw [hf] at h; simp at h
  | some i =>
    rw [List.findIdx?_eq_some_iff_getElem] at hf
    exact ⟨l[i]'hf.1, List.getElem_mem _, hf.2.1⟩
theorem diff_not {V : List ByteArray} {k : Nat} (hk : k < V.length) (h : ¬ findI (likeV V[k]) (V.take k) < 0) : ¬ Diff V := by
  intro hd
  obtain ⟨a, ha, hp⟩ := findI_hit h
  have h1 : Diff (V.take k ++ V.drop k) := by rw [List.take_append_drop]; exact hd
  unfold Diff at h1
  rw [List.pairwise_append] at h1
  have h2 := h1.2.2 a ha V[k] (by rw [List.drop_eq_getElem_cons hk]; exact List.mem_cons_self)
  have h3 : normEq a V[k] = true := hp
  rw [h2] at h3; cases h3
set_option maxRecDepth 100000 in
set_option maxHeartbeats 1000000 in
theorem l03New_any (vo : Option Addr) (V : List ByteArray) (vc : Nat) (w : World) (hv : ValsAt w vo vc V) (hf : FitsV V) :
    Calls Tryz.prog 68 #[.slice vo V.length vc] w fun e w' => e = .returned (.bool (canB V)) ∧ Below w.heap.size w w' := by
  have hl := hf.1
  have HV := Lib.hid hv; have HF := Lib.hid hf; clear hv hf
  go_enter Tryz.func68, Tryz.ntmps68
  go_wp2_with fail
  go_loopw [3] (fun i wr => ∃ k : Nat, k ≤ V.length ∧ i = .int .i64 k ∧ (V.take k).all valB = true ∧ Diff (V.take k) ∧ Below w.heap.size w wr) (fun i _ => V.length - (intOf i).toNat)
  case atStart => exact ⟨0, Nat.zero_le _, rfl, by simp, by simp [Diff], Below.refl _ _⟩
  case round =>
    obtain ⟨k, hk, rfl, hall, hdf, hbel⟩ := hrel
    have HAl := Lib.hid hall; have HDf := Lib.hid hdf; have HB := Lib.hid hbel
    clear hall hdf hbel
    by_cases hlt : k < V.length
    · obtain ⟨p, off, rfl, hp0, hd1⟩ := HV.out.1.at hlt
      have hzx := HF.out.max hlt
      have hcap := HV.out.2.1
      have FT : Hid (FitsV (V.take k)) := Lib.hid ⟨by rw [List.length_take]; omega, fun s hs => HF.out.2 s (List.mem_of_mem_take hs)⟩
      have HTl : Hid ((V.take k).length = k) := Lib.hid (by rw [List.length_take]; omega)
      have HTs : Hid (StrsAt w (some ⟨p, off, none⟩) (V.take k)) := Lib.hid (HV.out.1.take k)
      have HBad : Hid (valB V[k] = false → canB V = false) := Lib.hid (fun h => by
        have : V.all valB = false := by rw [List.all_eq_false]; exact ⟨V[k], List.getElem_mem _, by rw [h]; simp⟩
        unfold canB; rw [this]; simp)
      have HYes0 : Hid (0 ≤ findI (likeV V[k]) (V.take k) → canB V = false) := Lib.hid (fun h => by
        unfold canB; rw [@decide_eq_false _ (Classical.propDecidable _) (diff_not hlt (by omega))]; simp)
      have HNo0 : Hid (¬ 0 ≤ findI (likeV V[k]) (V.take k) → Diff (V.take (k + 1))) := Lib.hid (fun h => by
        rw [List.take_succ_eq_append_getElem hlt]; exact diff_snoc HDf.out (by omega))
      have HNx0 : Hid (valB V[k] = true → (V.take (k + 1)).all valB = true) := Lib.hid (fun h => by
        rw [List.take_succ_eq_append_getElem hlt, List.all_append, HAl.out]; simp [h])
      have H100z : Hid (∀ Z, Below w.heap.size w Z → Calls Tryz.prog 100 #[.slice (some ⟨p, off, none⟩) k vc, .string (normS V[k])] Z fun e w' => e = .returned (.int .i64 (findI (likeV V[k]) (V.take k))) ∧ Below w.heap.size w w') := Lib.hid (fun Z h => by
        have := l03In_any (some ⟨p, off, none⟩) (V.take k) vc V[k] Z (HTs.out.below h) FT.out
        rw [HTl.out] at this
        exact this.mono fun e w' ⟨a, b⟩ => ⟨a, h.trans (b.mono h.size)⟩)
      have H56z : Hid (∀ Z, Below w.heap.size w Z → Calls Tryz.prog 56 #[.string V[k]] Z fun e w' => e = .returned (.bool (valB V[k])) ∧ Below w.heap.size w w') := Lib.hid (fun Z h => (l02Value_any V[k] Z hzx).mono fun e w' ⟨a, b⟩ => ⟨a, h.trans (b.mono h.size)⟩)
      have H99z : Hid (∀ Z, Below w.heap.size w Z → Calls Tryz.prog 99 #[.string V[k]] Z fun e w' => e = .returned (.string (normS V[k])) ∧ Below w.heap.size w w') := Lib.hid (fun Z h => SpecNorm_from w V[k] Z hzx h)
      have SK : Hid (∀ Z : World, Below w.heap.size w Z → Z.cell? ⟨p, off + k, none⟩ = some (.string V[k])) := Lib.hid (fun Z h => (h.cell (p := ⟨p, off + k, none⟩) hp0).trans hd1)
      have HYes := Lib.hid HYes0.out; have HNo := Lib.hid HNo0.out; have H100 := Lib.hid H100z.out; have H56 := Lib.hid H56z.out; have H99 := Lib.hid H99z.out
      clear HYes0 HNo0 H100z H56z H99z hd1
      generalize findI (likeV V[k]) (V.take k) = q at *
      generalize V[k] = x at *
      generalize normS x = nx at *
      have hcut1 := head36 ⟨p, off, none⟩ V.length k vc (by omega)
      have g1 : (0 : Int) ≤ (k : Int) := by omega
      have g2 : (k : Int) < (V.length : Int) := by omega
      have hbd := HB.out.drew
      cases hvx : valB x
      · have HE := Lib.hid (HBad.out hvx)
        go_wp2_with fail
        refine wp_region_held_drew (S := (fun Z => Z.cell? ⟨p, off + k, none⟩ = some (.string x))) (by kernel_rfl) ?_ (fun hHeld => ?_)
        · (try dsimp only)
          exact SK.out _ (by assumption)
        refine wpAnyH_take (i := 0) (oi := { dst := some 10, op := Op.move (Operand.tmp 0), type := 36, pos := "l03_entry.go:174", after := #[], guard := none }) (v := ?_) rfl (by kernel_rfl) (by kernel_rfl) (by kernel_rfl) (fun _ _ _ h => h) (Or.inl ⟨by rfl, ?_⟩) (by assumption) ?_
        rotate_left
        · intro w hSw; (try dsimp only at hSw); go_simp; (try with_reducible rfl)
        (try simp only [Act.put, List.setIfInBounds_toArray, List.set_cons_zero, List.set_cons_succ])
        refine wpAnyH_take (i := 1) (oi := { dst := some 11, op := Op.move (Operand.tmp 3), type := 3, pos := "l03_entry.go:174", after := #[], guard := none }) (v := ?_) rfl (by kernel_rfl) (by kernel_rfl) (by kernel_rfl) (fun _ _ _ h => h) (Or.inl ⟨by rfl, ?_⟩) (by assumption) ?_
        rotate_left
        · intro w hSw; (try dsimp only at hSw); go_simp; (try with_reducible rfl)
        (try simp only [Act.put, List.setIfInBounds_toArray, List.set_cons_zero, List.set_cons_succ])
        refine wpAnyH_take (i := 2) (oi := { dst := some 12, op := Op.indexAddr 36 (Operand.tmp 10) (Operand.tmp 11), type := 0, pos := "l03_entry.go:174", after := #[{ on := 0, ground := Ground.data }, { on := 1, ground := Ground.data }], guard := none }) (v := ?_) rfl (by kernel_rfl) (by kernel_rfl) (by kernel_rfl) (fun _ _ _ h => h) (Or.inl ⟨by rfl, ?_⟩) (by assumption) ?_
        rotate_left
        · intro w hSw; (try dsimp only at hSw); go_simp; (try with_reducible rfl)
        (try simp only [Act.put, List.setIfInBounds_toArray, List.set_cons_zero, List.set_cons_succ])
        refine wpAnyH_take (i := 3) (oi := { dst := some 13, op := Op.load 9 (Operand.tmp 12), type := 9, pos := "l03_entry.go:174", after := #[{ on := 2, ground := Ground.data }], guard := none }) (v := ?_) rfl (by kernel_rfl) (by kernel_rfl) (by kernel_rfl) (fun _ _ _ h => h) (Or.inl ⟨by rfl, ?_⟩) (by assumption) ?_
        rotate_left
        · intro w hSw; (try dsimp only at hSw); go_simp; (try with_reducible rfl)
        (try simp only [Act.put, List.setIfInBounds_toArray, List.set_cons_zero, List.set_cons_succ])
        refine wpAnyH_ready (rs := [4]) (by kernel_rfl) (by simp) ?_
        refine AllReadyH.cons (o := { dst := some 14, op := Op.call { callee := Callee.value (Operand.func 56), args := #[Operand.tmp 13], argTypes := #[9] }, type := 4, pos := "l03_entry.go:174", after := #[{ on := 3, ground := Ground.data }], guard := none }) rfl (fun K hK => ?_) (AllReadyH.nil)
        go_simp
        refine (H56.out _ (by assumption)).mono ?_
        rintro e w3 ⟨rfl, hb3⟩
        rw [hvx]
        clear hHeld
        refine hK.out _ _ ?_ (fun hHeld => ?_)
        · (try dsimp only)
          exact SK.out _ (by assumption)
        clear hK K
        (try simp only [Act.put, List.setIfInBounds_toArray, List.set_cons_zero, List.set_cons_succ])
        refine wpAnyH_take (i := 5) (oi := { dst := some 15, op := Op.unOp UnOp.not 4 (Operand.tmp 14), type := 4, pos := "l03_entry.go:174", after := #[{ on := 4, ground := Ground.data }], guard := none }) (v := ?_) rfl (by kernel_rfl) (by kernel_rfl) (by kernel_rfl) (fun _ _ _ h => h) (Or.inl ⟨by rfl, ?_⟩) (by assumption) ?_
        rotate_left
        · intro w hSw; (try dsimp only at hSw); go_simp; (try with_reducible rfl)
        (try simp only [Act.put, List.setIfInBounds_toArray, List.set_cons_zero, List.set_cons_succ])
        refine wpAnyH_take (i := 6) (oi := { dst := some 16, op := Op.move (Operand.tmp 15), type := 4, pos := "l03_entry.go:174", after := #[{ on := 5, ground := Ground.data }, { on := 4, ground := Ground.chain }], guard := none }) (v := ?_) rfl (by kernel_rfl) (by kernel_rfl) (by kernel_rfl) (fun _ _ _ h => h) (Or.inl ⟨by rfl, ?_⟩) (by assumption) ?_
        rotate_left
        · intro w hSw; (try dsimp only at hSw); go_simp; (try with_reducible rfl)
        (try simp only [Act.put, List.setIfInBounds_toArray, List.set_cons_zero, List.set_cons_succ])
        refine wpAnyH_take (i := 7) (oi := { dst := some 17, op := Op.move (Operand.tmp 0), type := 36, pos := "l03_entry.go:174", after := #[{ on := 6, ground := Ground.guard }], guard := some (6, false) }) (v := undef) rfl (by kernel_rfl) (by kernel_rfl) (by kernel_rfl) (fun _ _ _ h => h) (Or.inr ⟨by rfl, rfl⟩) (by assumption) ?_
        (try simp only [Act.put, List.setIfInBounds_toArray, List.set_cons_zero, List.set_cons_succ])
        refine wpAnyH_take (i := 8) (oi := { dst := some 18, op := Op.move (Operand.tmp 3), type := 3, pos := "l03_entry.go:174", after := #[{ on := 6, ground := Ground.guard }], guard := some (6, false) }) (v := undef) rfl (by kernel_rfl) (by kernel_rfl) (by kernel_rfl) (fun _ _ _ h => h) (Or.inr ⟨by rfl, rfl⟩) (by assumption) ?_
        (try simp only [Act.put, List.setIfInBounds_toArray, List.set_cons_zero, List.set_cons_succ])
        refine wpAnyH_take (i := 9) (oi := { dst := some 19, op := Op.slice 36 (Operand.tmp 17) none (some (Operand.tmp 18)) none, type := 36, pos := "l03_entry.go:174", after := #[{ on := 7, ground := Ground.data }, { on := 8, ground := Ground.data }, { on := 6, ground := Ground.guard }], guard := some (6, false) }) (v := undef) rfl (by kernel_rfl) (by kernel_rfl) (by kernel_rfl) (fun _ _ _ h => h) (Or.inr ⟨by rfl, rfl⟩) (by assumption) ?_
        (try simp only [Act.put, List.setIfInBounds_toArray, List.set_cons_zero, List.set_cons_succ])
        refine wpAnyH_take (i := 10) (oi := { dst := some 20, op := Op.move (Operand.tmp 0), type := 36, pos := "l03_entry.go:174", after := #[{ on := 6, ground := Ground.guard }], guard := some (6, false) }) (v := undef) rfl (by kernel_rfl) (by kernel_rfl) (by kernel_rfl) (fun _ _ _ h => h) (Or.inr ⟨by rfl, rfl⟩) (by assumption) ?_
        (try simp only [Act.put, List.setIfInBounds_toArray, List.set_cons_zero, List.set_cons_succ])
        refine wpAnyH_take (i := 11) (oi := { dst := some 21, op := Op.move (Operand.tmp 3), type := 3, pos := "l03_entry.go:174", after := #[{ on := 6, ground := Ground.guard }], guard := some (6, false) }) (v := undef) rfl (by kernel_rfl) (by kernel_rfl) (by kernel_rfl) (fun _ _ _ h => h) (Or.inr ⟨by rfl, rfl⟩) (by assumption) ?_
        (try simp only [Act.put, List.setIfInBounds_toArray, List.set_cons_zero, List.set_cons_succ])
        refine wpAnyH_take (i := 12) (oi := { dst := some 22, op := Op.indexAddr 36 (Operand.tmp 20) (Operand.tmp 21), type := 0, pos := "l03_entry.go:174", after := #[{ on := 10, ground := Ground.data }, { on := 11, ground := Ground.data }, { on := 6, ground := Ground.guard }], guard := some (6, false) }) (v := undef) rfl (by kernel_rfl) (by kernel_rfl) (by kernel_rfl) (fun _ _ _ h => h) (Or.inr ⟨by rfl, rfl⟩) (by assumption) ?_
        (try simp only [Act.put, List.setIfInBounds_toArray, List.set_cons_zero, List.set_cons_succ])
        refine wpAnyH_take (i := 13) (oi := { dst := some 23, op := Op.load 9 (Operand.tmp 22), type := 9, pos := "l03_entry.go:174", after := #[{ on := 12, ground := Ground.data }, { on := 6, ground := Ground.guard }], guard := some (6, false) }) (v := undef) rfl (by kernel_rfl) (by kernel_rfl) (by kernel_rfl) (fun _ _ _ h => h) (Or.inr ⟨by rfl, rfl⟩) (by assumption) ?_
        (try simp only [Act.put, List.setIfInBounds_toArray, List.set_cons_zero, List.set_cons_succ])
        refine wpAnyH_take (i := 14) (oi := { dst := some 24, op := Op.call { callee := Callee.value (Operand.func 99), args := #[Operand.tmp 23], argTypes := #[9] }, type := 9, pos := "l03_entry.go:174", after := #[{ on := 13, ground := Ground.data }, { on := 6, ground := Ground.chain }, { on := 6, ground := Ground.guard }], guard := some (6, false) }) (v := undef) rfl (by kernel_rfl) (by kernel_rfl) (by kernel_rfl) (fun _ _ _ h => h) (Or.inr ⟨by rfl, rfl⟩) (by assumption) ?_
        (try simp only [Act.put, List.setIfInBounds_toArray, List.set_cons_zero, List.set_cons_succ])
        refine wpAnyH_take (i := 15) (oi := { dst := some 25, op := Op.call { callee := Callee.value (Operand.func 100), args := #[Operand.tmp 19, Operand.tmp 24], argTypes := #[36, 9] }, type := 3, pos := "l03_entry.go:174", after := #[{ on := 9, ground := Ground.data }, { on := 14, ground := Ground.data }, { on := 14, ground := Ground.chain }, { on := 6, ground := Ground.guard }], guard := some (6, false) }) (v := undef) rfl (by kernel_rfl) (by kernel_rfl) (by kernel_rfl) (fun _ _ _ h => h) (Or.inr ⟨by rfl, rfl⟩) (by assumption) ?_
        (try simp only [Act.put, List.setIfInBounds_toArray, List.set_cons_zero, List.set_cons_succ])
        refine wpAnyH_take (i := 16) (oi := { dst := some 26, op := Op.binOp BinOp.geq 3 (Operand.tmp 25) (Operand.const (Value.int IntKind.i64 0)) 3, type := 4, pos := "l03_entry.go:174", after := #[{ on := 15, ground := Ground.data }, { on := 6, ground := Ground.guard }], guard := some (6, false) }) (v := undef) rfl (by kernel_rfl) (by kernel_rfl) (by kernel_rfl) (fun _ _ _ h => h) (Or.inr ⟨by rfl, rfl⟩) (by assumption) ?_
        (try simp only [Act.put, List.setIfInBounds_toArray, List.set_cons_zero, List.set_cons_succ])
        refine wpAnyH_take (i := 17) (oi := { dst := some 27, op := Op.pick (Operand.tmp 16) (Operand.const (Value.bool true)) (Operand.tmp 26), type := 4, pos := "l03_entry.go:174", after := #[{ on := 6, ground := Ground.data }, { on := 16, ground := Ground.data }], guard := none }) (v := ?_) rfl (by kernel_rfl) (by kernel_rfl) (by kernel_rfl) (fun _ _ _ h => h) (Or.inl ⟨by rfl, ?_⟩) (by assumption) ?_
        rotate_left
        · intro w hSw; (try dsimp only at hSw); go_simp; (try with_reducible rfl)
        (try simp only [Act.put, List.setIfInBounds_toArray, List.set_cons_zero, List.set_cons_succ])
        refine wpAnyH_done (by kernel_rfl) ?_ _
        clear hHeld
        go_wp2
        go_ret
        exact ⟨ret_bool HE.out.symm, hb3⟩
      · have HNx := Lib.hid (HNx0.out hvx)
        go_wp2_with fail
        refine wp_region_held_drew (S := (fun Z => Z.cell? ⟨p, off + k, none⟩ = some (.string x))) (by kernel_rfl) ?_ (fun hHeld => ?_)
        · (try dsimp only)
          exact SK.out _ (by assumption)
        refine wpAnyH_take (i := 0) (oi := { dst := some 10, op := Op.move (Operand.tmp 0), type := 36, pos := "l03_entry.go:174", after := #[], guard := none }) (v := ?_) rfl (by kernel_rfl) (by kernel_rfl) (by kernel_rfl) (fun _ _ _ h => h) (Or.inl ⟨by rfl, ?_⟩) (by assumption) ?_
        rotate_left
        · intro w hSw; (try dsimp only at hSw); go_simp; (try with_reducible rfl)
        (try simp only [Act.put, List.setIfInBounds_toArray, List.set_cons_zero, List.set_cons_succ])
        refine wpAnyH_take (i := 1) (oi := { dst := some 11, op := Op.move (Operand.tmp 3), type := 3, pos := "l03_entry.go:174", after := #[], guard := none }) (v := ?_) rfl (by kernel_rfl) (by kernel_rfl) (by kernel_rfl) (fun _ _ _ h => h) (Or.inl ⟨by rfl, ?_⟩) (by assumption) ?_
        rotate_left
        · intro w hSw; (try dsimp only at hSw); go_simp; (try with_reducible rfl)
        (try simp only [Act.put, List.setIfInBounds_toArray, List.set_cons_zero, List.set_cons_succ])
        refine wpAnyH_take (i := 2) (oi := { dst := some 12, op := Op.indexAddr 36 (Operand.tmp 10) (Operand.tmp 11), type := 0, pos := "l03_entry.go:174", after := #[{ on := 0, ground := Ground.data }, { on := 1, ground := Ground.data }], guard := none }) (v := ?_) rfl (by kernel_rfl) (by kernel_rfl) (by kernel_rfl) (fun _ _ _ h => h) (Or.inl ⟨by rfl, ?_⟩) (by assumption) ?_
        rotate_left
        · intro w hSw; (try dsimp only at hSw); go_simp; (try with_reducible rfl)
        (try simp only [Act.put, List.setIfInBounds_toArray, List.set_cons_zero, List.set_cons_succ])
        refine wpAnyH_take (i := 3) (oi := { dst := some 13, op := Op.load 9 (Operand.tmp 12), type := 9, pos := "l03_entry.go:174", after := #[{ on := 2, ground := Ground.data }], guard := none }) (v := ?_) rfl (by kernel_rfl) (by kernel_rfl) (by kernel_rfl) (fun _ _ _ h => h) (Or.inl ⟨by rfl, ?_⟩) (by assumption) ?_
        rotate_left
        · intro w hSw; (try dsimp only at hSw); go_simp; (try with_reducible rfl)
        (try simp only [Act.put, List.setIfInBounds_toArray, List.set_cons_zero, List.set_cons_succ])
        refine wpAnyH_ready (rs := [4]) (by kernel_rfl) (by simp) ?_
        refine AllReadyH.cons (o := { dst := some 14, op := Op.call { callee := Callee.value (Operand.func 56), args := #[Operand.tmp 13], argTypes := #[9] }, type := 4, pos := "l03_entry.go:174", after := #[{ on := 3, ground := Ground.data }], guard := none }) rfl (fun K hK => ?_) (AllReadyH.nil)
        go_simp
        refine (H56.out _ (by assumption)).mono ?_
        rintro e w3 ⟨rfl, hb3⟩
        rw [hvx]
        clear hHeld
        refine hK.out _ _ ?_ (fun hHeld => ?_)
        · (try dsimp only)
          exact SK.out _ (by assumption)
        clear hK K
        (try simp only [Act.put, List.setIfInBounds_toArray, List.set_cons_zero, List.set_cons_succ])
        refine wpAnyH_take (i := 5) (oi := { dst := some 15, op := Op.unOp UnOp.not 4 (Operand.tmp 14), type := 4, pos := "l03_entry.go:174", after := #[{ on := 4, ground := Ground.data }], guard := none }) (v := ?_) rfl (by kernel_rfl) (by kernel_rfl) (by kernel_rfl) (fun _ _ _ h => h) (Or.inl ⟨by rfl, ?_⟩) (by assumption) ?_
        rotate_left
        · intro w hSw; (try dsimp only at hSw); go_simp; (try with_reducible rfl)
        (try simp only [Act.put, List.setIfInBounds_toArray, List.set_cons_zero, List.set_cons_succ])
        refine wpAnyH_take (i := 6) (oi := { dst := some 16, op := Op.move (Operand.tmp 15), type := 4, pos := "l03_entry.go:174", after := #[{ on := 5, ground := Ground.data }, { on := 4, ground := Ground.chain }], guard := none }) (v := ?_) rfl (by kernel_rfl) (by kernel_rfl) (by kernel_rfl) (fun _ _ _ h => h) (Or.inl ⟨by rfl, ?_⟩) (by assumption) ?_
        rotate_left
        · intro w hSw; (try dsimp only at hSw); go_simp; (try with_reducible rfl)
        (try simp only [Act.put, List.setIfInBounds_toArray, List.set_cons_zero, List.set_cons_succ])
        refine wpAnyH_take (i := 7) (oi := { dst := some 17, op := Op.move (Operand.tmp 0), type := 36, pos := "l03_entry.go:174", after := #[{ on := 6, ground := Ground.guard }], guard := some (6, false) }) (v := ?_) rfl (by kernel_rfl) (by kernel_rfl) (by kernel_rfl) (fun _ _ _ h => h) (Or.inl ⟨by rfl, ?_⟩) (by assumption) ?_
        rotate_left
        · intro w hSw; (try dsimp only at hSw); go_simp; (try with_reducible rfl)
        (try simp only [Act.put, List.setIfInBounds_toArray, List.set_cons_zero, List.set_cons_succ])
        refine wpAnyH_take (i := 8) (oi := { dst := some 18, op := Op.move (Operand.tmp 3), type := 3, pos := "l03_entry.go:174", after := #[{ on := 6, ground := Ground.guard }], guard := some (6, false) }) (v := ?_) rfl (by kernel_rfl) (by kernel_rfl) (by kernel_rfl) (fun _ _ _ h => h) (Or.inl ⟨by rfl, ?_⟩) (by assumption) ?_
        rotate_left
        · intro w hSw; (try dsimp only at hSw); go_simp; (try with_reducible rfl)
        (try simp only [Act.put, List.setIfInBounds_toArray, List.set_cons_zero, List.set_cons_succ])
        refine wpAnyH_take (i := 9) (oi := { dst := some 19, op := Op.slice 36 (Operand.tmp 17) none (some (Operand.tmp 18)) none, type := 36, pos := "l03_entry.go:174", after := #[{ on := 7, ground := Ground.data }, { on := 8, ground := Ground.data }, { on := 6, ground := Ground.guard }], guard := some (6, false) }) (v := ?_) rfl (by kernel_rfl) (by kernel_rfl) (by kernel_rfl) (fun _ _ _ h => h) (Or.inl ⟨by rfl, ?_⟩) (by assumption) ?_
        rotate_left
        · intro w hSw; (try dsimp only at hSw); go_simp; (try with_reducible rfl)
        (try simp only [Act.put, List.setIfInBounds_toArray, List.set_cons_zero, List.set_cons_succ])
        refine wpAnyH_take (i := 10) (oi := { dst := some 20, op := Op.move (Operand.tmp 0), type := 36, pos := "l03_entry.go:174", after := #[{ on := 6, ground := Ground.guard }], guard := some (6, false) }) (v := ?_) rfl (by kernel_rfl) (by kernel_rfl) (by kernel_rfl) (fun _ _ _ h => h) (Or.inl ⟨by rfl, ?_⟩) (by assumption) ?_
        rotate_left
        · intro w hSw; (try dsimp only at hSw); go_simp; (try with_reducible rfl)
        (try simp only [Act.put, List.setIfInBounds_toArray, List.set_cons_zero, List.set_cons_succ])
        refine wpAnyH_take (i := 11) (oi := { dst := some 21, op := Op.move (Operand.tmp 3), type := 3, pos := "l03_entry.go:174", after := #[{ on := 6, ground := Ground.guard }], guard := some (6, false) }) (v := ?_) rfl (by kernel_rfl) (by kernel_rfl) (by kernel_rfl) (fun _ _ _ h => h) (Or.inl ⟨by rfl, ?_⟩) (by assumption) ?_
        rotate_left
        · intro w hSw; (try dsimp only at hSw); go_simp; (try with_reducible rfl)
        (try simp only [Act.put, List.setIfInBounds_toArray, List.set_cons_zero, List.set_cons_succ])
        refine wpAnyH_take (i := 12) (oi := { dst := some 22, op := Op.indexAddr 36 (Operand.tmp 20) (Operand.tmp 21), type := 0, pos := "l03_entry.go:174", after := #[{ on := 10, ground := Ground.data }, { on := 11, ground := Ground.data }, { on := 6, ground := Ground.guard }], guard := some (6, false) }) (v := ?_) rfl (by kernel_rfl) (by kernel_rfl) (by kernel_rfl) (fun _ _ _ h => h) (Or.inl ⟨by rfl, ?_⟩) (by assumption) ?_
        rotate_left
        · intro w hSw; (try dsimp only at hSw); go_simp; (try with_reducible rfl)
        (try simp only [Act.put, List.setIfInBounds_toArray, List.set_cons_zero, List.set_cons_succ])
        refine wpAnyH_take (i := 13) (oi := { dst := some 23, op := Op.load 9 (Operand.tmp 22), type := 9, pos := "l03_entry.go:174", after := #[{ on := 12, ground := Ground.data }, { on := 6, ground := Ground.guard }], guard := some (6, false) }) (v := ?_) rfl (by kernel_rfl) (by kernel_rfl) (by kernel_rfl) (fun _ _ _ h => h) (Or.inl ⟨by rfl, ?_⟩) (by assumption) ?_
        rotate_left
        · intro w hSw; (try dsimp only at hSw); go_simp; (try with_reducible rfl)
        (try simp only [Act.put, List.setIfInBounds_toArray, List.set_cons_zero, List.set_cons_succ])
        refine wpAnyH_ready (rs := [14]) (by kernel_rfl) (by simp) ?_
        refine AllReadyH.cons (o := { dst := some 24, op := Op.call { callee := Callee.value (Operand.func 99), args := #[Operand.tmp 23], argTypes := #[9] }, type := 9, pos := "l03_entry.go:174", after := #[{ on := 13, ground := Ground.data }, { on := 6, ground := Ground.chain }, { on := 6, ground := Ground.guard }], guard := some (6, false) }) rfl (fun K hK => ?_) (AllReadyH.nil)
        go_simp
        refine (H99.out _ (by assumption)).mono ?_
        rintro e w4 ⟨rfl, hb4⟩
        clear hHeld
        refine hK.out _ _ ?_ (fun hHeld => ?_)
        · (try dsimp only)
          exact SK.out _ (by assumption)
        clear hK K
        (try simp only [Act.put, List.setIfInBounds_toArray, List.set_cons_zero, List.set_cons_succ])
        refine wpAnyH_ready (rs := [15]) (by kernel_rfl) (by simp) ?_
        refine AllReadyH.cons (o := { dst := some 25, op := Op.call { callee := Callee.value (Operand.func 100), args := #[Operand.tmp 19, Operand.tmp 24], argTypes := #[36, 9] }, type := 3, pos := "l03_entry.go:174", after := #[{ on := 9, ground := Ground.data }, { on := 14, ground := Ground.data }, { on := 14, ground := Ground.chain }, { on := 6, ground := Ground.guard }], guard := some (6, false) }) rfl (fun K hK => ?_) (AllReadyH.nil)
        go_simp
        refine (H100.out _ (by assumption)).mono ?_
        rintro e w5 ⟨rfl, hb5⟩
        clear hHeld
        refine hK.out _ _ ?_ (fun hHeld => ?_)
        · (try dsimp only)
          exact SK.out _ (by assumption)
        clear hK K
        (try simp only [Act.put, List.setIfInBounds_toArray, List.set_cons_zero, List.set_cons_succ])
        refine wpAnyH_take (i := 16) (oi := { dst := some 26, op := Op.binOp BinOp.geq 3 (Operand.tmp 25) (Operand.const (Value.int IntKind.i64 0)) 3, type := 4, pos := "l03_entry.go:174", after := #[{ on := 15, ground := Ground.data }, { on := 6, ground := Ground.guard }], guard := some (6, false) }) (v := ?_) rfl (by kernel_rfl) (by kernel_rfl) (by kernel_rfl) (fun _ _ _ h => h) (Or.inl ⟨by rfl, ?_⟩) (by assumption) ?_
        rotate_left
        · intro w hSw; (try dsimp only at hSw); go_simp; (try with_reducible rfl)
        (try simp only [Act.put, List.setIfInBounds_toArray, List.set_cons_zero, List.set_cons_succ])
        refine wpAnyH_take (i := 17) (oi := { dst := some 27, op := Op.pick (Operand.tmp 16) (Operand.const (Value.bool true)) (Operand.tmp 26), type := 4, pos := "l03_entry.go:174", after := #[{ on := 6, ground := Ground.data }, { on := 16, ground := Ground.data }], guard := none }) (v := ?_) rfl (by kernel_rfl) (by kernel_rfl) (by kernel_rfl) (fun _ _ _ h => h) (Or.inl ⟨by rfl, ?_⟩) (by assumption) ?_
        rotate_left
        · intro w hSw; (try dsimp only at hSw); go_simp; (try with_reducible rfl)
        (try simp only [Act.put, List.setIfInBounds_toArray, List.set_cons_zero, List.set_cons_succ])
        refine wpAnyH_done (by kernel_rfl) ?_ _
        clear hHeld
        have HB5 := Lib.hid hb5
        clear hb3 hb4 hb5 hbd SK H56 H99 H100
        by_cases hq : 0 ≤ q
        · have HE := Lib.hid (HYes.out (by omega))
          go_wp2
          go_ret
          exact ⟨ret_bool HE.out.symm, HB5.out⟩
        · have HE := Lib.hid (HNo.out (by omega))
          go_wp2
          go_roundw
          case rel => exact ⟨k + 1, by omega, by go_num, HNx.out, HE.out, HB5.out⟩
          case measure => simp [intOf]; omega
    · have e : k = V.length := by omega
      subst e
      rw [List.take_length] at HAl HDf
      have HE : Hid (canB V = decide (V.length ≤ 4)) := Lib.hid (by
        unfold canB; rw [HAl.out, @decide_eq_true _ (Classical.propDecidable _) HDf.out]; simp)
      have HQ : Hid (decide ((V.length : Int) ≤ 4) = decide (V.length ≤ 4)) := Lib.hid (by rw [Bool.eq_iff_iff]; simp; omega)
      go_wp2
      go_ret
      exact ⟨ret_bool (by rw [HE.out, ← HQ.out]), HB.out⟩
end Go.Proofs.YtjajpdghamecoaaGreat
/- ValueAdd: what the specification's text returns. -/
namespace Go.Proofs.YtjajpdghamecoaaGreat
open Go.RowKit
attribute [local go_sem ↓] Go.wp_at_zero Go.wp_at_succ

theorem addR_code {d : RdnL} {l : List AttrV} {nm val : ByteArray} {c : Int} (h : vcode (rightB d l) nm val = c) (hc : c ≠ 0) : addR d l nm val = (c, [], []) := by
  unfold addR; rw [h, if_pos hc]
theorem vcode_one {r : Bool} {nm val : ByteArray} (h1 : ¬ 8000 < nm.size) (h2 : ¬ 8000 < val.size) (h : (r && nmL nm && valB val) = false) : vcode r nm val = 1 := by rw [vcode_small h1 h2, h]; rfl
theorem vcode_ok {r : Bool} {nm val : ByteArray} (h1 : ¬ 8000 < nm.size) (h2 : ¬ 8000 < val.size) (h : (r && nmL nm && valB val) = true) : vcode r nm val = 0 := by rw [vcode_small h1 h2, h]; rfl
set_option maxRecDepth 100000 in
set_option maxHeartbeats 1000000 in
theorem SpecValueAdd_any (ao bo : Option Addr) (d : RdnL) (l : List AttrV) (ca cb : Nat) (nm val : ByteArray) (w : World) (hd : DnAt w ao d) (hl : AttrsAt w bo l) (hfd : Fits d) (hfl : FitsA l) (hn : nm.size ≤ maxLen) (hv : val.size ≤ maxLen) :
    Calls Tryz.prog 14 #[.agg #[.slice ao d.length ca, .slice bo l.length cb], .string nm, .string val] w (SpecOut w (addR d l nm val)) := by
  have HD := Lib.hid hd; have HL := Lib.hid hl; have FD := Lib.hid hfd; have FL := Lib.hid hfl; have Hn := Lib.hid hn; have Hv := Lib.hid hv; clear hd hl hfd hfl
  go_enter Tryz.func14, Tryz.ntmps14
  go_wp2_with fail
  refine calls_any' (fun W => Below w.heap.size w W ∧ Two W w.heap.size 26 (.slice ao d.length ca) (.slice bo l.length cb) ∧ Three W (w.heap.size + 1) 30 (.slice none 0 0) (.slice none 0 0) (.int .i64 0)) ⟨more (more (Below.refl _ _) _) _, (twoNew w 26 _ _).alloc _, threeNext w _ 30 _ _ _⟩ ?_
  rintro W ⟨hbW, t0, t1⟩
  refine (l03Long_any nm val W hn hv).mono ?_
  rintro e w1 ⟨rfl, rfl⟩
  have B1 := Lib.hid hbW; have T1 := Lib.hid t0; have U1 := Lib.hid t1
  clear hbW t0 t1
  by_cases hbig : 8000 < nm.size ∨ 8000 < val.size
  · have hq : (decide (8000 < nm.size) || decide (8000 < val.size)) = true := by simpa using hbig
    rw [hq]
    have HO := Lib.hid (addR_code (d := d) (l := l) (vcode_big (r := rightB d l) hbig) (by decide))
    clear hbig hq
    go_wp2_with fail
    refine (l03Ill_any 2 W).mono ?_
    rintro e w4 ⟨rfl, hb4⟩
    have U4 := Lib.hid (U1.out.below hb4); have B4 := Lib.hid (B1.out.trans (hb4.mono B1.out.size))
    clear hb4
    obtain ⟨⟨k0, k1, k2⟩, f0, f1, f2⟩ := U4.out.cells
    obtain ⟨⟨q0, q1, q2⟩, _⟩ := (((U4.out.set0 (.slice none 0 0)).set1 (.slice none 0 0)).set2 (.int .i64 2)).cells
    unfold failV
    go_wp2_with fail
    refine bodyPost_ret (v := failV 2) (by simp [results, Tryz.results14, go_sem, q0, q1, q2, failV]) rfl ?_
    rw [HO.out]
    exact specOut_fail (below_three B4.out _ _ _)
  · have hn8 : ¬ 8000 < nm.size := fun h => hbig (.inl h)
    have hv8 : ¬ 8000 < val.size := fun h => hbig (.inr h)
    have hq : (decide (8000 < nm.size) || decide (8000 < val.size)) = false := by simp; omega
    rw [hq]
    have HOb : Hid ((rightB d l && nmL nm && valB val) = false → addR d l nm val = (1, [], [])) := Lib.hid (fun h => addR_code (vcode_one hn8 hv8 h) (by decide))
    have HOk : Hid ((rightB d l && nmL nm && valB val) = true → vcode (rightB d l) nm val = 0) := Lib.hid (fun h => vcode_ok hn8 hv8 h)
    clear hbig hq
    obtain ⟨⟨p0, p1⟩, _⟩ := T1.out.cells
    go_wp2_with fail
    clear p0 p1
    refine (SpecEntryRight_any ao bo d l ca cb W (HD.out.below B1.out) (HL.out.below B1.out) FD.out FL.out).mono ?_
    rintro e w2 ⟨rfl, hb2⟩
    have B2 := Lib.hid (B1.out.trans (hb2.mono B1.out.size)); have T2 := Lib.hid (T1.out.below hb2); have U2 := Lib.hid (U1.out.below hb2)
    clear hb2 B1 T1 U1
    have HIll : Hid (∀ w3, Below w.heap.size w w3 → Three w3 (w.heap.size + 1) 30 (.slice none 0 0) (.slice none 0 0) (.int .i64 0) → Calls Tryz.prog 54 #[.int .i64 1] w3 fun e w4 => e = .returned (failV 1) ∧ Below w.heap.size w w4 ∧ Three w4 (w.heap.size + 1) 30 (.slice none 0 0) (.slice none 0 0) (.int .i64 0)) :=
      Lib.hid (fun w3 h1 h2 => (l03Ill_any 1 w3).mono fun e w4 ⟨a, b⟩ => ⟨a, h1.trans (b.mono h1.size), h2.below b⟩)
    cases hr : rightB d l
    · have HO := Lib.hid (HOb.out (by rw [hr]; rfl))
      clear HOb HOk
      go_wp2_with fail
      refine (HIll.out w2 B2.out U2.out).mono ?_
      rintro e w4 ⟨rfl, b4, u4⟩
      have U4 := Lib.hid u4; have B4 := Lib.hid b4
      clear b4 u4
      obtain ⟨⟨k0, k1, k2⟩, f0, f1, f2⟩ := U4.out.cells
      obtain ⟨⟨q0, q1, q2⟩, _⟩ := (((U4.out.set0 (.slice none 0 0)).set1 (.slice none 0 0)).set2 (.int .i64 1)).cells
      unfold failV
      go_wp2_with fail
      refine bodyPost_ret (v := failV 1) (by simp [results, Tryz.results14, go_sem, q0, q1, q2, failV]) rfl ?_
      rw [HO.out]
      exact specOut_fail (below_three B4.out _ _ _)
    · go_wp2_with fail
      refine (SpecNameRight_any nm w2 Hn.out).mono ?_
      rintro e w3 ⟨rfl, rfl⟩
      cases hm : nmL nm
      · have HO := Lib.hid (HOb.out (by rw [hr, hm]; rfl))
        clear HOb HOk
        go_wp2_with fail
        refine (HIll.out w2 B2.out U2.out).mono ?_
        rintro e w4 ⟨rfl, b4, u4⟩
        have U4 := Lib.hid u4; have B4 := Lib.hid b4
        clear b4 u4
        obtain ⟨⟨k0, k1, k2⟩, f0, f1, f2⟩ := U4.out.cells
        obtain ⟨⟨q0, q1, q2⟩, _⟩ := (((U4.out.set0 (.slice none 0 0)).set1 (.slice none 0 0)).set2 (.int .i64 1)).cells
        unfold failV
        go_wp2_with fail
        refine bodyPost_ret (v := failV 1) (by simp [results, Tryz.results14, go_sem, q0, q1, q2, failV]) rfl ?_
        rw [HO.out]
        exact specOut_fail (below_three B4.out _ _ _)
      · go_wp2_with fail
        refine (l02Value_any val w2 Hv.out).mono ?_
        rintro e w3 ⟨rfl, hb3⟩
        have B3 := Lib.hid (B2.out.trans (hb3.mono B2.out.size)); have T3 := Lib.hid (T2.out.below hb3); have U3 := Lib.hid (U2.out.below hb3)
        clear hb3 B2 T2 U2
        cases hp : valB val
        · have HO := Lib.hid (HOb.out (by rw [hr, hm, hp]; rfl))
          clear HOb HOk
          go_wp2_with fail
          refine (HIll.out w3 B3.out U3.out).mono ?_
          rintro e w4 ⟨rfl, b4, u4⟩
          have U4 := Lib.hid u4; have B4 := Lib.hid b4
          clear b4 u4
          obtain ⟨⟨k0, k1, k2⟩, f0, f1, f2⟩ := U4.out.cells
          obtain ⟨⟨q0, q1, q2⟩, _⟩ := (((U4.out.set0 (.slice none 0 0)).set1 (.slice none 0 0)).set2 (.int .i64 1)).cells
          unfold failV
          go_wp2_with fail
          refine bodyPost_ret (v := failV 1) (by simp [results, Tryz.results14, go_sem, q0, q1, q2, failV]) rfl ?_
          rw [HO.out]
          exact specOut_fail (below_three B4.out _ _ _)
        · have HC := Lib.hid (HOk.out (by rw [hr, hm, hp]; rfl))
          clear HOb HOk HIll
          obtain ⟨⟨p0, p1⟩, _⟩ := T3.out.cells
          have HAdd := Lib.hid (l03Add_any ao bo d l ca cb nm val w3 (HD.out.below B3.out) (HL.out.below B3.out) FD.out FL.out (by omega) (by omega) HC.out)
          generalize hre : addR d l nm val = r at *
          have HRe := Lib.hid hre; clear hre
          obtain ⟨c, D, T⟩ := r
          have hw1 : w.heap.size + 1 < w3.heap.size := U3.out.lt
          go_wp2_with fail
          refine HAdd.out.mono ?_
          rintro e w4 ⟨⟨vo, vc, uo, uc, rfl, x4, y4⟩, hb4⟩
          dsimp only at x4 y4 ⊢
          have U4 := Lib.hid (U3.out.below hb4); have B4 := Lib.hid (B3.out.trans (hb4.mono B3.out.size)); have X4 := Lib.hid x4; have Y4 := Lib.hid y4
          clear hb4 x4 y4 p0 p1
          obtain ⟨⟨k0, k1, k2⟩, f0, f1, f2⟩ := U4.out.cells
          obtain ⟨⟨q0, q1, q2⟩, _⟩ := (((U4.out.set0 (.slice vo D.length vc)).set1 (.slice uo T.length uc)).set2 (.int .i64 c)).cells
          go_wp2_with fail
          refine bodyPost_ret (v := .agg #[.slice vo D.length vc, .slice uo T.length uc, .int .i64 c]) (by simp [results, Tryz.results14, go_sem, q0, q1, q2]) rfl ?_
          exact ⟨⟨vo, vc, uo, uc, rfl, own_mono (own_cellOut (own_cellOut (own_cellOut X4.out hw1) hw1) hw1) B3.out.size, (((Y4.out.cellOut hw1).cellOut hw1).cellOut hw1).mono B3.out.size⟩, below_three B4.out _ _ _⟩
end Go.Proofs.YtjajpdghamecoaaGreat
/- l03Put, AttrSet: what the specification's text returns. -/
namespace Go.Proofs.YtjajpdghamecoaaGreat
open Go.RowKit
attribute [local go_sem ↓] Go.wp_at_zero Go.wp_at_succ

theorem at_lack {d : RdnL} {l : List AttrV} {nm : ByteArray} (hr : rightB d l = true) : (atI l nm < 0) ↔ (attrOfL d l nm).length = 0 := by
  rw [attrOf_yes hr]
  constructor
  · intro h; rw [of_at h]; rfl
  · intro h
    apply Classical.byContradiction
    intro hn
    obtain ⟨k, hk, _, e⟩ := of_at' hn
    rw [e] at h
    unfold rightB attrsB at hr
    simp only [Bool.and_eq_true, List.all_eq_true] at hr
    have := hr.2.1.2 _ (List.getElem_mem hk)
    unfold attrB valsB at this
    simp only [Bool.and_eq_true, decide_eq_true_eq] at this
    omega
noncomputable def putR (d : RdnL) (l : List AttrV) (nm : ByteArray) (V : List ByteArray) : OutR := if V ≠ [] ∧ lackB d l nm = true then (9, [], []) else (0, d, setL l nm (sortN V))
set_option maxRecDepth 100000 in
set_option maxHeartbeats 1000000 in
theorem l03Put_any (ao bo vo : Option Addr) (d : RdnL) (l : List AttrV) (V : List ByteArray) (ca cb vc : Nat) (nm : ByteArray) (w : World) (hd : DnAt w ao d) (hl : AttrsAt w bo l) (hfd : Fits d) (hfl : FitsA l) (hv : StrsAt w vo V) (hfv : FitsV V) (h12 : V.length ≤ 400) (hr : rightB d l = true) :
    Calls Tryz.prog 69 #[.agg #[.slice ao d.length ca, .slice bo l.length cb], .string nm, .slice vo V.length vc] w (SpecOut w (putR d l nm V)) := by
  have h8 := (right_eight hr).1
  have hin := right_inc hr
  have hdp : 0 < d.length := by unfold rightB at hr; simp only [Bool.and_eq_true, decide_eq_true_eq] at hr; exact hr.1.2
  have hac : ao = none → ca = 0 := fun e => by
    subst e
    rcases hd with h | ⟨b, off, e, _⟩
    · rw [h] at hdp; simp at hdp
    · cases e
  have HAt := Lib.hid (at_lack (nm := nm) hr)
  have HO9 : Hid (0 < V.length → l.length = 8 → atI l nm < 0 → putR d l nm V = (9, [], [])) := Lib.hid (fun h1 h2 h3 => by
    have hk : lackB d l nm = true := by unfold lackB; rw [decide_eq_true h2, decide_eq_true (HAt.out.1 h3)]; rfl
    unfold putR; rw [if_pos ⟨List.length_pos_iff.1 h1, hk⟩])
  have HO0 : Hid (¬ (0 < V.length ∧ l.length = 8 ∧ atI l nm < 0) → putR d l nm V = (0, d, setL l nm (sortN V))) := Lib.hid (fun h => by
    unfold putR; rw [if_neg ?_]
    rintro ⟨h1, h2⟩
    unfold lackB at h2
    simp only [Bool.and_eq_true, decide_eq_true_eq] at h2
    exact h ⟨List.length_pos_iff.2 h1, h2.1, HAt.out.2 h2.2⟩)
  have HD := Lib.hid hd; have HL := Lib.hid hl; have FD := Lib.hid hfd; have FL := Lib.hid hfl; have HV := Lib.hid hv; have FV := Lib.hid hfv; have HI := Lib.hid hin; clear hd hl hfd hfl hv hfv hin HAt
  have hX : (Below w.heap.size w ((w.alloc (.cells #[.slice ao d.length ca, .slice bo l.length cb] 26)).alloc (.cells #[.slice none 0 0, .slice none 0 0, .int .i64 0] 30)) ∧ Two ((w.alloc (.cells #[.slice ao d.length ca, .slice bo l.length cb] 26)).alloc (.cells #[.slice none 0 0, .slice none 0 0, .int .i64 0] 30)) w.heap.size 26 (.slice ao d.length ca) (.slice bo l.length cb) ∧ Three ((w.alloc (.cells #[.slice ao d.length ca, .slice bo l.length cb] 26)).alloc (.cells #[.slice none 0 0, .slice none 0 0, .int .i64 0] 30)) (w.heap.size + 1) 30 (.slice none 0 0) (.slice none 0 0) (.int .i64 0)) :=
    ⟨more (more (Below.refl _ _) _) _, (twoNew w 26 _ _).alloc _, threeNext w _ 30 _ _ _⟩
  have HX := Lib.hid hX
  clear hX
  by_cases hV0 : 0 < V.length
  · have g0 : 0 < (V.length : Int) := by omega
    by_cases hl8 : l.length = 8
    · have g8 : 8 ≤ (l.length : Int) := by omega
      have H8 := Lib.hid hl8; clear hl8
      go_enter Tryz.func69, Tryz.ntmps69
      go_wp2_with fail
      refine calls_any' (fun W => Below w.heap.size w W ∧ Two W w.heap.size 26 (.slice ao d.length ca) (.slice bo l.length cb) ∧ Three W (w.heap.size + 1) 30 (.slice none 0 0) (.slice none 0 0) (.int .i64 0)) HX.out ?_
      clear HX
      rintro W ⟨hbW, t0, t1⟩
      refine (l03At_any ao bo d l ca cb nm W (HL.out.below hbW) FL.out).mono ?_
      rintro e w1 ⟨rfl, hb1⟩
      have B1 := Lib.hid (hbW.trans (hb1.mono hbW.size)); have T1 := Lib.hid (t0.below hb1); have U1 := Lib.hid (t1.below hb1)
      clear hbW t0 t1 hb1
      by_cases hat : atI l nm < 0
      · have HO := Lib.hid (HO9.out hV0 H8.out hat)
        clear HO9 HO0
        generalize atI l nm = q at *
        go_wp2_with fail
        refine (l03Ill_any 9 w1).mono ?_
        rintro e w4 ⟨rfl, hb4⟩
        have U4 := Lib.hid (U1.out.below hb4); have B4 := Lib.hid (B1.out.trans (hb4.mono B1.out.size))
        clear hb4
        obtain ⟨⟨k0, k1, k2⟩, f0, f1, f2⟩ := U4.out.cells
        obtain ⟨⟨q0, q1, q2⟩, _⟩ := (((U4.out.set0 (.slice none 0 0)).set1 (.slice none 0 0)).set2 (.int .i64 9)).cells
        unfold failV
        go_wp2_with fail
        refine bodyPost_ret (v := failV 9) (by simp [results, Tryz.results69, go_sem, q0, q1, q2, failV]) rfl ?_
        rw [HO.out]
        exact specOut_fail (below_three B4.out _ _ _)
      · have HO := Lib.hid (HO0.out (fun h => hat h.2.2))
        clear HO9 HO0
        generalize atI l nm = q at *
        have T4 := Lib.hid T1.out; have U4 := Lib.hid U1.out; have B4 := Lib.hid B1.out
        obtain ⟨w4, hw4⟩ : ∃ w4, w4 = w1 := ⟨_, rfl⟩
        subst hw4
        obtain ⟨⟨p0, p1⟩, _⟩ := T4.out.cells
        go_wp2_with fail
        clear p0 p1
        have hw1 : w.heap.size + 1 < w4.heap.size := U4.out.lt
        refine (l03Set_any ao bo vo d l V ca cb vc nm w4 (HD.out.below B4.out) (HL.out.below B4.out) (HV.out.below B4.out) FD.out FL.out FV.out (by omega) h12 hac HI.out).mono ?_
        rintro e w8 ⟨⟨po, pc, qo, qc, rfl, e1, e2⟩, hb8⟩
        have E1 := Lib.hid e1; have E2 := Lib.hid e2; have HB8 := Lib.hid hb8
        have U8 := Lib.hid (U4.out.below hb8)
        clear e1 e2 hb8
        generalize setL l nm (sortN V) = T at *
        obtain ⟨⟨k0, k1, k2⟩, f0, f1, f2⟩ := U8.out.cells
        obtain ⟨⟨q0, q1, q2⟩, _⟩ := (((U8.out.set0 (.slice po d.length pc)).set1 (.slice qo T.length qc)).set2 (.int .i64 0)).cells
        go_wp2_with fail
        refine bodyPost_ret (v := .agg #[.slice po d.length pc, .slice qo T.length qc, .int .i64 0]) (by simp [results, Tryz.results69, go_sem, q0, q1, q2]) rfl ?_
        rw [HO.out]
        exact fin_out B4.out HB8.out hw1 E1.out E2.out _ _ _
    · have g8 : ¬ 8 ≤ (l.length : Int) := by omega
      have HO := Lib.hid (HO0.out (fun h => hl8 h.2.1))
      clear HO9 HO0
      go_enter Tryz.func69, Tryz.ntmps69
      go_wp2_with fail
      refine calls_any' (fun W => Below w.heap.size w W ∧ Two W w.heap.size 26 (.slice ao d.length ca) (.slice bo l.length cb) ∧ Three W (w.heap.size + 1) 30 (.slice none 0 0) (.slice none 0 0) (.int .i64 0)) HX.out ?_
      clear HX
      rintro w4 ⟨hbW, t0, t1⟩
      have B4 := Lib.hid hbW; have T4 := Lib.hid t0; have U4 := Lib.hid t1
      clear hbW t0 t1
      have hw1 : w.heap.size + 1 < w4.heap.size := U4.out.lt
      refine (l03Set_any ao bo vo d l V ca cb vc nm w4 (HD.out.below B4.out) (HL.out.below B4.out) (HV.out.below B4.out) FD.out FL.out FV.out (by omega) h12 hac HI.out).mono ?_
      rintro e w8 ⟨⟨po, pc, qo, qc, rfl, e1, e2⟩, hb8⟩
      have E1 := Lib.hid e1; have E2 := Lib.hid e2; have HB8 := Lib.hid hb8
      have U8 := Lib.hid (U4.out.below hb8)
      clear e1 e2 hb8
      generalize setL l nm (sortN V) = T at *
      obtain ⟨⟨k0, k1, k2⟩, f0, f1, f2⟩ := U8.out.cells
      obtain ⟨⟨q0, q1, q2⟩, _⟩ := (((U8.out.set0 (.slice po d.length pc)).set1 (.slice qo T.length qc)).set2 (.int .i64 0)).cells
      go_wp2_with fail
      refine bodyPost_ret (v := .agg #[.slice po d.length pc, .slice qo T.length qc, .int .i64 0]) (by simp [results, Tryz.results69, go_sem, q0, q1, q2]) rfl ?_
      rw [HO.out]
      exact fin_out B4.out HB8.out hw1 E1.out E2.out _ _ _
  · have g0 : ¬ 0 < (V.length : Int) := by omega
    have HO := Lib.hid (HO0.out (fun h => hV0 h.1))
    clear HO9 HO0
    go_enter Tryz.func69, Tryz.ntmps69
    go_wp2_with fail
    refine calls_any' (fun W => Below w.heap.size w W ∧ Two W w.heap.size 26 (.slice ao d.length ca) (.slice bo l.length cb) ∧ Three W (w.heap.size + 1) 30 (.slice none 0 0) (.slice none 0 0) (.int .i64 0)) HX.out ?_
    clear HX
    rintro w4 ⟨hbW, t0, t1⟩
    have B4 := Lib.hid hbW; have T4 := Lib.hid t0; have U4 := Lib.hid t1
    clear hbW t0 t1
    have hw1 : w.heap.size + 1 < w4.heap.size := U4.out.lt
    refine (l03Set_any ao bo vo d l V ca cb vc nm w4 (HD.out.below B4.out) (HL.out.below B4.out) (HV.out.below B4.out) FD.out FL.out FV.out (by omega) h12 hac HI.out).mono ?_
    rintro e w8 ⟨⟨po, pc, qo, qc, rfl, e1, e2⟩, hb8⟩
    have E1 := Lib.hid e1; have E2 := Lib.hid e2; have HB8 := Lib.hid hb8
    have U8 := Lib.hid (U4.out.below hb8)
    clear e1 e2 hb8
    generalize setL l nm (sortN V) = T at *
    obtain ⟨⟨k0, k1, k2⟩, f0, f1, f2⟩ := U8.out.cells
    obtain ⟨⟨q0, q1, q2⟩, _⟩ := (((U8.out.set0 (.slice po d.length pc)).set1 (.slice qo T.length qc)).set2 (.int .i64 0)).cells
    go_wp2_with fail
    refine bodyPost_ret (v := .agg #[.slice po d.length pc, .slice qo T.length qc, .int .i64 0]) (by simp [results, Tryz.results69, go_sem, q0, q1, q2]) rfl ?_
    rw [HO.out]
    exact fin_out B4.out HB8.out hw1 E1.out E2.out _ _ _
set_option maxRecDepth 100000 in
set_option maxHeartbeats 1000000 in
theorem SpecAttrSet_any (ao bo vo : Option Addr) (d : RdnL) (l : List AttrV) (V : List ByteArray) (ca cb vc : Nat) (nm : ByteArray) (w : World) (hd : DnAt w ao d) (hl : AttrsAt w bo l) (hfd : Fits d) (hfl : FitsA l) (hn : nm.size ≤ maxLen) (hv : ValsAt w vo vc V) (hfv : FitsV V) :
    Calls Tryz.prog 24 #[.agg #[.slice ao d.length ca, .slice bo l.length cb], .string nm, .slice vo V.length vc] w (SpecOut w (setR d l nm V)) := by
  have hVl := hfv.1
  have HD := Lib.hid hd; have HL := Lib.hid hl; have FD := Lib.hid hfd; have FL := Lib.hid hfl; have Hn := Lib.hid hn; have HV := Lib.hid hv; have FV := Lib.hid hfv; clear hd hl hfd hfl hv hfv
  unfold maxLen at hn
  have HX : Hid (Below w.heap.size w ((w.alloc (.cells #[.slice ao d.length ca, .slice bo l.length cb] 26)).alloc (.cells #[.slice none 0 0, .slice none 0 0, .int .i64 0] 30)) ∧ Two ((w.alloc (.cells #[.slice ao d.length ca, .slice bo l.length cb] 26)).alloc (.cells #[.slice none 0 0, .slice none 0 0, .int .i64 0] 30)) w.heap.size 26 (.slice ao d.length ca) (.slice bo l.length cb) ∧ Three ((w.alloc (.cells #[.slice ao d.length ca, .slice bo l.length cb] 26)).alloc (.cells #[.slice none 0 0, .slice none 0 0, .int .i64 0] 30)) (w.heap.size + 1) 30 (.slice none 0 0) (.slice none 0 0) (.int .i64 0)) :=
    Lib.hid ⟨more (more (Below.refl _ _) _) _, (twoNew w 26 _ _).alloc _, threeNext w _ 30 _ _ _⟩
  have HIll : Hid (∀ (c : Int) w3, Below w.heap.size w w3 → Three w3 (w.heap.size + 1) 30 (.slice none 0 0) (.slice none 0 0) (.int .i64 0) → Calls Tryz.prog 54 #[.int .i64 c] w3 fun e w4 => e = .returned (failV c) ∧ Below w.heap.size w w4 ∧ Three w4 (w.heap.size + 1) 30 (.slice none 0 0) (.slice none 0 0) (.int .i64 0)) :=
    Lib.hid (fun c w3 h1 h2 => (l03Ill_any c w3).mono fun e w4 ⟨a, b⟩ => ⟨a, h1.trans (b.mono h1.size), h2.below b⟩)
  by_cases hbig : 8000 < nm.size ∨ 400 < V.length
  · have HO : Hid (setR d l nm V = (2, [], [])) := Lib.hid (by unfold setR; rw [if_pos hbig])
    by_cases h1 : 8000 < nm.size
    · have g : 8000 < (nm.size : Int) := by omega
      go_enter Tryz.func24, Tryz.ntmps24
      go_wp2_with fail
      refine calls_any' (fun W => Below w.heap.size w W ∧ Two W w.heap.size 26 (.slice ao d.length ca) (.slice bo l.length cb) ∧ Three W (w.heap.size + 1) 30 (.slice none 0 0) (.slice none 0 0) (.int .i64 0)) HX.out ?_
      rintro W ⟨hbW, t0, t1⟩
      refine (HIll.out 2 W hbW t1).mono ?_
      rintro e w4 ⟨rfl, b4, u4⟩
      have U4 := Lib.hid u4; have B4 := Lib.hid b4
      clear b4 u4
      obtain ⟨⟨k0, k1, k2⟩, f0, f1, f2⟩ := U4.out.cells
      obtain ⟨⟨q0, q1, q2⟩, _⟩ := (((U4.out.set0 (.slice none 0 0)).set1 (.slice none 0 0)).set2 (.int .i64 2)).cells
      unfold failV
      go_wp2_with fail
      refine bodyPost_ret (v := failV 2) (by simp [results, Tryz.results24, go_sem, q0, q1, q2, failV]) rfl ?_
      rw [HO.out]
      exact specOut_fail (below_three B4.out _ _ _)
    · have g : ¬ 8000 < (nm.size : Int) := by omega
      have g' : 400 < (V.length : Int) := by omega
      go_enter Tryz.func24, Tryz.ntmps24
      go_wp2_with fail
      refine calls_any' (fun W => Below w.heap.size w W ∧ Two W w.heap.size 26 (.slice ao d.length ca) (.slice bo l.length cb) ∧ Three W (w.heap.size + 1) 30 (.slice none 0 0) (.slice none 0 0) (.int .i64 0)) HX.out ?_
      rintro W ⟨hbW, t0, t1⟩
      refine (HIll.out 2 W hbW t1).mono ?_
      rintro e w4 ⟨rfl, b4, u4⟩
      have U4 := Lib.hid u4; have B4 := Lib.hid b4
      clear b4 u4
      obtain ⟨⟨k0, k1, k2⟩, f0, f1, f2⟩ := U4.out.cells
      obtain ⟨⟨q0, q1, q2⟩, _⟩ := (((U4.out.set0 (.slice none 0 0)).set1 (.slice none 0 0)).set2 (.int .i64 2)).cells
      unfold failV
      go_wp2_with fail
      refine bodyPost_ret (v := failV 2) (by simp [results, Tryz.results24, go_sem, q0, q1, q2, failV]) rfl ?_
      rw [HO.out]
      exact specOut_fail (below_three B4.out _ _ _)
  have g : ¬ 8000 < (nm.size : Int) := by omega
  have g' : ¬ 400 < (V.length : Int) := by omega
  have HOb : Hid ((rightB d l && nmL nm && canB V) = false → setR d l nm V = (1, [], [])) := Lib.hid (fun h => by unfold setR; rw [if_neg hbig, if_pos h])
  have HOp : Hid ((rightB d l && nmL nm && canB V) = true → setR d l nm V = putR d l nm V) := Lib.hid (fun h => by unfold setR putR; rw [if_neg hbig, if_neg (by rw [h]; simp)])
  clear hbig
  go_enter Tryz.func24, Tryz.ntmps24
  go_wp2_with fail
  refine calls_any' (fun W => Below w.heap.size w W ∧ Two W w.heap.size 26 (.slice ao d.length ca) (.slice bo l.length cb) ∧ Three W (w.heap.size + 1) 30 (.slice none 0 0) (.slice none 0 0) (.int .i64 0)) HX.out ?_
  clear HX
  rintro W ⟨hbW, t0, t1⟩
  refine (SpecEntryRight_any ao bo d l ca cb W (HD.out.below hbW) (HL.out.below hbW) FD.out FL.out).mono ?_
  rintro e w1 ⟨rfl, hb1⟩
  have B1 := Lib.hid (hbW.trans (hb1.mono hbW.size)); have T1 := Lib.hid (t0.below hb1); have U1 := Lib.hid (t1.below hb1)
  clear hbW t0 t1 hb1
  cases hr : rightB d l
  · have HO := Lib.hid (HOb.out (by rw [hr]; rfl))
    clear HOb HOp
    go_wp2_with fail
    refine (HIll.out 1 w1 B1.out U1.out).mono ?_
    rintro e w4 ⟨rfl, b4, u4⟩
    have U4 := Lib.hid u4; have B4 := Lib.hid b4
    clear b4 u4
    obtain ⟨⟨k0, k1, k2⟩, f0, f1, f2⟩ := U4.out.cells
    obtain ⟨⟨q0, q1, q2⟩, _⟩ := (((U4.out.set0 (.slice none 0 0)).set1 (.slice none 0 0)).set2 (.int .i64 1)).cells
    unfold failV
    go_wp2_with fail
    refine bodyPost_ret (v := failV 1) (by simp [results, Tryz.results24, go_sem, q0, q1, q2, failV]) rfl ?_
    rw [HO.out]
    exact specOut_fail (below_three B4.out _ _ _)
  · go_wp2_with fail
    refine (SpecNameRight_any nm w1 Hn.out).mono ?_
    rintro e w2 ⟨rfl, rfl⟩
    cases hm : nmL nm
    · have HO := Lib.hid (HOb.out (by rw [hr, hm]; rfl))
      clear HOb HOp
      go_wp2_with fail
      refine (HIll.out 1 w1 B1.out U1.out).mono ?_
      rintro e w4 ⟨rfl, b4, u4⟩
      have U4 := Lib.hid u4; have B4 := Lib.hid b4
      clear b4 u4
      obtain ⟨⟨k0, k1, k2⟩, f0, f1, f2⟩ := U4.out.cells
      obtain ⟨⟨q0, q1, q2⟩, _⟩ := (((U4.out.set0 (.slice none 0 0)).set1 (.slice none 0 0)).set2 (.int .i64 1)).cells
      unfold failV
      go_wp2_with fail
      refine bodyPost_ret (v := failV 1) (by simp [results, Tryz.results24, go_sem, q0, q1, q2, failV]) rfl ?_
      rw [HO.out]
      exact specOut_fail (below_three B4.out _ _ _)
    · go_wp2_with fail
      refine (l03New_any vo V vc w1 (HV.out.below B1.out) FV.out).mono ?_
      rintro e w3 ⟨rfl, hb3⟩
      have B3 := Lib.hid (B1.out.trans (hb3.mono B1.out.size)); have T3 := Lib.hid (T1.out.below hb3); have U3 := Lib.hid (U1.out.below hb3)
      clear hb3 B1 T1 U1
      cases hcn : canB V
      · have HO := Lib.hid (HOb.out (by rw [hr, hm, hcn]; rfl))
        clear HOb HOp
        go_wp2_with fail
        refine (HIll.out 1 w3 B3.out U3.out).mono ?_
        rintro e w4 ⟨rfl, b4, u4⟩
        have U4 := Lib.hid u4; have B4 := Lib.hid b4
        clear b4 u4
        obtain ⟨⟨k0, k1, k2⟩, f0, f1, f2⟩ := U4.out.cells
        obtain ⟨⟨q0, q1, q2⟩, _⟩ := (((U4.out.set0 (.slice none 0 0)).set1 (.slice none 0 0)).set2 (.int .i64 1)).cells
        unfold failV
        go_wp2_with fail
        refine bodyPost_ret (v := failV 1) (by simp [results, Tryz.results24, go_sem, q0, q1, q2, failV]) rfl ?_
        rw [HO.out]
        exact specOut_fail (below_three B4.out _ _ _)
      · have HO := Lib.hid (HOp.out (by rw [hr, hm, hcn]; rfl))
        have HPut := Lib.hid (l03Put_any ao bo vo d l V ca cb vc nm w3 (HD.out.below B3.out) (HL.out.below B3.out) FD.out FL.out (HV.out.1.below B3.out) FV.out (by omega) hr)
        clear HOb HOp HIll
        have hw1 : w.heap.size + 1 < w3.heap.size := U3.out.lt
        obtain ⟨⟨p0, p1⟩, _⟩ := T3.out.cells
        generalize hre : putR d l nm V = r at *
        clear hre
        obtain ⟨c, D, T⟩ := r
        go_wp2_with fail
        refine HPut.out.mono ?_
        rintro e w4 ⟨⟨xo, xc, yo, yc, rfl, x4, y4⟩, hb4⟩
        dsimp only at x4 y4 ⊢
        have U4 := Lib.hid (U3.out.below hb4); have B4 := Lib.hid (B3.out.trans (hb4.mono B3.out.size)); have X4 := Lib.hid x4; have Y4 := Lib.hid y4
        clear hb4 x4 y4 p0 p1
        obtain ⟨⟨k0, k1, k2⟩, f0, f1, f2⟩ := U4.out.cells
        obtain ⟨⟨q0, q1, q2⟩, _⟩ := (((U4.out.set0 (.slice xo D.length xc)).set1 (.slice yo T.length yc)).set2 (.int .i64 c)).cells
        go_wp2_with fail
        refine bodyPost_ret (v := .agg #[.slice xo D.length xc, .slice yo T.length yc, .int .i64 c]) (by simp [results, Tryz.results24, go_sem, q0, q1, q2]) rfl ?_
        rw [HO.out]
        exact ⟨⟨xo, xc, yo, yc, rfl, own_mono (own_cellOut (own_cellOut (own_cellOut X4.out hw1) hw1) hw1) B3.out.size, (((Y4.out.cellOut hw1).cellOut hw1).cellOut hw1).mono B3.out.size⟩, below_three B4.out _ _ _⟩
end Go.Proofs.YtjajpdghamecoaaGreat
/- The state of a law that has a result in hand. -/
namespace Go.Proofs.YtjajpdghamecoaaGreat
open Go.RowKit
attribute [local go_sem ↓] Go.wp_at_zero Go.wp_at_succ

theorem EntOwn.ent {w : World} {v : Value} {d : RdnL} {l : List AttrV} {lo : Nat} (h : EntOwn w v d l lo) : EntAt w v d l := by
  obtain ⟨G, g, rfl, _, _, h3, _, h5⟩ := h
  exact ⟨_, _, _, _, rfl, h3, h5.attrs, Nat.le_refl _, Nat.le_refl _⟩
theorem Two.mid' {w w' : World} {g a b : Nat} {T : TypeId} {x y : Value} (h : Two w g T x y) (hm : Mid a b w w') (hx : g < a ∨ b ≤ g) : Two w' g T x y := (hm.2.2.2.2 g h.lt hx).trans h
theorem Three.mid {w w' : World} {g a b : Nat} {T : TypeId} {x y z : Value} (h : Three w g T x y z) (hm : Mid a b w w') (hx : g < a ∨ b ≤ g) : Three w' g T x y z := (hm.2.2.2.2 g h.lt hx).trans h
/-- the law's argument is as it was, what the specification returned is as it was, and the program's result lies in blocks from glo to below ghi, itself in the block ghi -/
structure StG (w a3 : World) (A0 A1 v u : Value) (c : Int) (glo ghi : Nat) (D : RdnL) (T : List AttrV) (W : World) : Prop where
  base : Below w.heap.size w W
  low : Below a3.heap.size a3 W
  arg : Two W w.heap.size 52 A0 A1
  cell : Three W ghi 30 v u (.int .i64 c)
  out : OutIn W glo ghi v u D T
structure StM (w a3 : World) (A0 A1 v u : Value) (c : Int) (glo ghi : Nat) (D : RdnL) (T : List AttrV) (W : World) : Prop where
  base : Below w.heap.size w W
  low : Below a3.heap.size a3 W
  arg : Two W w.heap.size 52 A0 A1
  cell : Three W ghi 30 v u (.int .i64 c)
  out : OutMk W glo ghi v u D T
section
variable {w a3 W W' : World} {A0 A1 v u : Value} {c : Int} {glo ghi : Nat} {D : RdnL} {T : List AttrV}
theorem StG.below (h : StG w a3 A0 A1 v u c glo ghi D T W) (hb : Below W.heap.size W W') : StG w a3 A0 A1 v u c glo ghi D T W' := ⟨h.base.trans (hb.mono h.base.size), h.low.trans (hb.mono h.low.size), h.arg.below hb, h.cell.below hb, h.out.below hb⟩
theorem StM.below (h : StM w a3 A0 A1 v u c glo ghi D T W) (hb : Below W.heap.size W W') : StM w a3 A0 A1 v u c glo ghi D T W' := ⟨h.base.trans (hb.mono h.base.size), h.low.trans (hb.mono h.low.size), h.arg.below hb, h.cell.below hb, h.out.below hb⟩
theorem StG.gcells (h : StG w a3 A0 A1 v u c glo ghi D T W) : (W.cell? ⟨ghi, 0, none⟩ = some v ∧ W.cell? ⟨ghi, 1, none⟩ = some u ∧ W.cell? ⟨ghi, 2, none⟩ = some (.int .i64 c)) ∧ (W.frozen? ⟨ghi, 0, none⟩ = false ∧ W.frozen? ⟨ghi, 1, none⟩ = false ∧ W.frozen? ⟨ghi, 2, none⟩ = false) := h.cell.cells
theorem StM.gcells (h : StM w a3 A0 A1 v u c glo ghi D T W) : (W.cell? ⟨ghi, 0, none⟩ = some v ∧ W.cell? ⟨ghi, 1, none⟩ = some u ∧ W.cell? ⟨ghi, 2, none⟩ = some (.int .i64 c)) ∧ (W.frozen? ⟨ghi, 0, none⟩ = false ∧ W.frozen? ⟨ghi, 1, none⟩ = false ∧ W.frozen? ⟨ghi, 2, none⟩ = false) := h.cell.cells
theorem StG.gl (h : StG w a3 A0 A1 v u c glo ghi D T W) : ghi < W.heap.size := h.cell.lt
theorem StG.dn {vo : Option Addr} {n vc : Nat} (h : StG w a3 A0 A1 (.slice vo n vc) u c glo ghi D T W) : DnAt W vo D := own_dn h.out.1.1
theorem StG.attrs {uo : Option Addr} {n uc : Nat} (h : StG w a3 A0 A1 v (.slice uo n uc) c glo ghi D T W) : AttrsAt W uo T := h.out.2.attrs
theorem StG.mid {hi : Nat} (h : StG w a3 A0 A1 v u c glo ghi D T W) (hm : Mid a3.heap.size hi W W') (h1 : w.heap.size < a3.heap.size) (h2 : w.heap.size ≤ a3.heap.size) (h3 : hi ≤ glo) (h4 : glo ≤ ghi) : StG w a3 A0 A1 v u c glo ghi D T W' :=
  ⟨hm.below h.base h2, hm.below h.low (Nat.le_refl _), h.arg.mid' hm (.inl h1), h.cell.mid hm (.inr (by omega)), h.out.mid hm (.inr h3)⟩
theorem StG.marked (h : StG w a3 A0 A1 v u c glo ghi D T W) (ho : OutMk W' glo ghi v u D T) (hm : Mid glo ghi W W') (h1 : w.heap.size < glo) (h2 : a3.heap.size ≤ glo) : StM w a3 A0 A1 v u c glo ghi D T W' :=
  ⟨hm.below h.base (Nat.le_of_lt h1), hm.below h.low h2, h.arg.mid' hm (.inl h1), h.cell.mid hm (.inr (Nat.le_refl _)), ho⟩
theorem stG_of {w5 : World} {vo uo : Option Addr} {n m vc uc : Nat} (hb : Below w.heap.size w w5) (hl : Below a3.heap.size a3 w5) (ht : Two w5 w.heap.size 52 A0 A1) (ho : w5.ownsRow glo 97 2 (.slice vo n vc) D.length (rs D)) (ha : AttrsOwn w5 glo (.slice uo m uc) T) (c : Int) :
    StG w a3 A0 A1 (.slice vo n vc) (.slice uo m uc) c glo w5.heap.size D T (w5.alloc (.cells #[.slice vo n vc, .slice uo m uc, .int .i64 c] 30)) := by
  have hal := more (Below.refl w5.heap.size w5) (.cells #[.slice vo n vc, .slice uo m uc, .int .i64 c] 30)
  exact ⟨more hb _, more hl _, ht.alloc _, heap_alloc_new w5 _, (rowIn_of ho).below hal, (attrsMk_of ha _).below hal⟩
end
end Go.Proofs.YtjajpdghamecoaaGreat
/- The law FnExactAttrSet: its walk. -/
namespace Go.Proofs.YtjajpdghamecoaaGreat
open Go.RowKit
attribute [local go_sem ↓] Go.wp_at_zero Go.wp_at_succ

theorem SpecAttrSet_ent (v : Value) (vo : Option Addr) (vc : Nat) (d : RdnL) (l : List AttrV) (nm : ByteArray) (V : List ByteArray) (w : World) (h : EntAt w v d l) (hv : ValsAt w vo vc V) (hfd : Fits d) (hfl : FitsA l) (hn : nm.size ≤ maxLen) (hfv : FitsV V) : Calls Tryz.prog 24 #[v, .string nm, .slice vo V.length vc] w (SpecOut w (setR d l nm V)) := by
  obtain ⟨ao, ca, bo, cb, rfl, h2, h3, _, _⟩ := h
  exact SpecAttrSet_any ao bo vo d l V ca cb vc nm w h2 h3 hfd hfl hn hv hfv
theorem StrSh.mid {w w' : World} {b n lo hi : Nat} (h : StrSh w b n) (hm : Mid lo hi w w') (hx : b < lo ∨ hi ≤ b) : StrSh w' b n := by
  obtain ⟨C, h1, h2⟩ := h
  exact ⟨C, (hm.2.2.2.2 b (Array.getElem?_eq_some_iff.1 h1).1 hx).trans h1, h2⟩
set_option maxRecDepth 100000 in
set_option maxHeartbeats 2000000 in
theorem markEntry_pos (v : Value) (d : RdnL) (l : List AttrV) (lo hi : Nat) (w w1 : World) (hE : EntOwn w1 v d l lo) (hi1 : hi = w1.heap.size) (hb : Below w1.heap.size w1 w) (hz : sizeE d l ≤ 1048576) :
    Calls Tryz.prog 34 #[v, .int .i64 1] w fun e w' => (∃ n : Nat, 0 < n ∧ n ≤ 10000000 ∧ e = .returned (.int .i64 (n : Int))) ∧ Mid lo hi w w' := by
  obtain ⟨G, g, rfl, h1, h2, h3, h4, h5⟩ := hE
  unfold sizeE at hz
  have D0 := Lib.hid (h4.below hb)
  have A0 : Hid (AttrSh w g lo hi l) := Lib.hid (by subst hi1; exact (h5.sh h2).below hb)
  have hG : G < hi := by subst hi1; exact h4.lt
  have hg : g < hi := by subst hi1; exact h5.lt
  have hcz := cntA_size l
  have hiw : hi ≤ w.heap.size := by subst hi1; exact hb.size
  clear h3 h4 h5 hb hi1
  go_enter Tryz.func34, Tryz.ntmps34
  go_wp2_with fail
  have hal := more (Below.refl w.heap.size w) (.cells #[.slice (some ⟨G, 0, none⟩) d.length d.length, .slice (some ⟨g, 0, none⟩) l.length l.length] 26)
  refine calls_any' (fun W => Below w.heap.size w W ∧ w.heap.size < W.heap.size ∧ Two W w.heap.size 26 (.slice (some ⟨G, 0, none⟩) d.length d.length) (.slice (some ⟨g, 0, none⟩) l.length l.length)) ⟨hal, by simp, twoNew w 26 _ _⟩ ?_
  clear hal
  rintro W ⟨hbW, hlW, t0⟩
  have D1 := Lib.hid (D0.out.below hbW); have A1 := Lib.hid (A0.out.below hbW)
  refine (markRdnS_some G d.length d.length 1 W (Nat.le_refl _) (by omega) (by omega) (by omega) D1.out).mono ?_
  rintro e w2 ⟨rfl, _, hg2⟩
  have A2 := Lib.hid (A1.out.pairs D1.out hg2)
  have M2 := Lib.hid ((Mid.of_below (lo := lo) (hi := hi) hbW).trans (Mid.of_grown hg2 h1 hG))
  have T2 : Hid (Two w2 w.heap.size 26 (.slice (some ⟨G, 0, none⟩) d.length d.length) (.slice (some ⟨g, 0, none⟩) l.length l.length)) := Lib.hid ((hg2.block w.heap.size hlW (by intro e; injection e with e; omega)).trans t0)
  obtain ⟨⟨c0, c1⟩, _⟩ := T2.out.cells
  clear hbW hlW t0 hg2 D0 D1 A0 A1
  have HA : Hid (∀ X, AttrSh X g lo hi l → Calls Tryz.prog 84 #[.slice (some ⟨g, 0, none⟩) l.length l.length, .int .i64 ((1 + 2 * d.length : Nat) : Int)] X fun e w' => e = .returned (.int .i64 ((1 + 2 * d.length + cntA l l.length : Nat) : Int)) ∧ Mid lo hi X w') :=
    Lib.hid (fun X h => markAttrS_any g lo hi (1 + 2 * d.length) l X h h2 hg (by omega) (by omega) (by omega))
  have hbd : 1 + 2 * d.length + cntA l l.length ≤ 10000000 := by omega
  have hbp : 0 < 1 + 2 * d.length + cntA l l.length := by omega
  go_wp2_with fail
  refine (HA.out w2 A2.out).mono ?_
  rintro e w3 ⟨rfl, hm3⟩
  have M3 := Lib.hid (M2.out.trans hm3)
  clear hm3
  generalize 1 + 2 * d.length + cntA l l.length = q at *
  go_wp2
  go_ret
  exact ⟨⟨q, hbp, hbd, rfl⟩, M3.out⟩
set_option maxRecDepth 100000 in
set_option maxHeartbeats 1000000 in
theorem FnExactAttrSet_walk (ao bo : Option Addr) (d : RdnL) (l : List AttrV) (ca cb : Nat) (nm : ByteArray) (po : Option Addr) (V : List ByteArray) (pc : Nat) (w : World) (hd : DnAt w ao d) (hl : AttrsAt w bo l) (hfd : Long d) (hfl : LongA l) (hnm : nm.size ≤ maxLen) (hval : ValsAt w po pc V) (hlv : LongV V) :
    Calls Tryz.prog 7 #[.agg #[.slice ao d.length ca, .slice bo l.length cb], .string nm, .slice po V.length pc] w fun e w' => e = .returned (.bool true) ∧ Below w.heap.size w w' := by
  have HD := Lib.hid hd; have HL := Lib.hid hl; have LD := Lib.hid hfd; have LL := Lib.hid hfl; have Hnm := Lib.hid hnm; have Hval := Lib.hid hval; have LV := Lib.hid hlv; clear hd hl hfd hfl hval hlv
  unfold maxLen at hnm
  by_cases hbig : 1048576 < nm.size
  · have g : 1048576 < (nm.size : Int) := by omega
    go_enter Tryz.func7, Tryz.ntmps7
    go_wp2
    go_ret
    exact ⟨rfl, more (Below.refl _ _) _⟩
  have gn : ¬ 1048576 < (nm.size : Int) := by omega
  go_enter Tryz.func7, Tryz.ntmps7
  have HB0 : Hid (Below w.heap.size w (w.alloc (.cells #[.slice ao d.length ca, .slice bo l.length cb] 52))) := Lib.hid (more (Below.refl _ _) _)
  have HT0 : Hid (Two (w.alloc (.cells #[.slice ao d.length ca, .slice bo l.length cb] 52)) w.heap.size 52 (.slice ao d.length ca) (.slice bo l.length cb)) := Lib.hid (twoNew w 52 _ _)
  go_wp2_with fail
  refine (szEntry_any ao bo d l ca cb 1048576 _ (HD.out.below HB0.out) (HL.out.below HB0.out) LD.out LL.out (by omega) (by omega)).mono ?_
  rintro e w1 ⟨rfl, b1'⟩
  have b1 := HB0.out.trans (b1'.mono HB0.out.size)
  have T1 := Lib.hid (HT0.out.below b1')
  obtain ⟨⟨p0, p1⟩, _⟩ := T1.out.cells
  clear b1'
  by_cases hfit : ((sizeE d l : Nat) : Int) ≤ 1048576
  · rw [leftR_pos hfit]
    obtain ⟨hfd, hfl⟩ := fitsE (d := d) (l := l) (by omega)
    have FD := Lib.hid hfd; have FL := Lib.hid hfl
    have hdl := hfd.1
    have HSz : Hid (sizeE d l ≤ 1048576) := Lib.hid (by omega)
    clear hfd hfl
    have h0 : ¬ (1048576 : Int) - ((sizeE d l : Nat) : Int) < 0 := by omega
    generalize hte : ((sizeE d l : Nat) : Int) = t at *
    have Hte := Lib.hid hte; clear hte
    have ht0 : 0 ≤ 1048576 - t := by omega
    have ht1 : 1048576 - t ≤ 1048576 := by have : (0 : Int) ≤ t := by rw [← Hte.out]; omega
                                           omega
    go_wp2_with fail
    refine (szStringS_any po V pc (1048576 - t) w1 (Hval.out.1.below b1) LV.out ht0 ht1).mono ?_
    rintro e w1b ⟨rfl, b1b⟩
    have T1b := Lib.hid (T1.out.below b1b)
    have b1c := b1.trans (b1b.mono b1.size)
    clear b1b b1 T1 p0 p1
    obtain ⟨⟨p0, p1⟩, _⟩ := T1b.out.cells
    by_cases hfit2 : ((V.length + sizeV V : Nat) : Int) ≤ 1048576 - t
    case neg =>
      rw [leftR_neg hfit2]
      clear hfit2
      go_wp2
      go_ret
      exact ⟨rfl, b1c⟩
    rw [leftR_pos hfit2]
    have hfv : FitsV V := fitsV_of (by omega)
    have FV := Lib.hid hfv
    have hvl := hfv.1
    have HSm := Lib.hid (setR_small (d := d) (nm := nm) FL.out hfv)
    clear hfv
    have h02 : ¬ (1048576 - t) - ((V.length + sizeV V : Nat) : Int) < 0 := by omega
    generalize ((V.length + sizeV V : Nat) : Int) = t2 at *
    go_wp2_with fail
    refine (toEntry_any ao bo d l ca cb w1b (HD.out.below b1c) (HL.out.below b1c) hdl FL.out).mono ?_
    rintro e w2a ⟨v2, rfl, e2a, b2a⟩
    have B2a := Lib.hid (b1c.trans (b2a.mono b1c.size))
    have T2a := Lib.hid (T1b.out.below b2a)
    have E2a := Lib.hid e2a
    clear b2a b1c T1b p0 p1 e2a
    go_wp2_with fail
    refine (toStringS_any po V pc w2a (Hval.out.1.below B2a.out) hvl).mono ?_
    rintro e w2 ⟨u2, rfl, gv, rfl, _, _, hsv, b2⟩
    have B2 := Lib.hid (B2a.out.trans (b2.mono B2a.out.size))
    have T2 := Lib.hid (T2a.out.below b2)
    have e2 := E2a.out.below b2
    have SV := Lib.hid hsv
    clear b2 B2a T2a E2a hsv
    have HAt : Hid (∀ (xo : Option Addr) (cx : Nat) (yo : Option Addr) (cy : Nat) (g0 : Nat) (Y : World), DnAt Y xo d → AttrsAt Y yo l → StrsAt Y (some ⟨g0, 0, none⟩) V → Calls Tryz.prog 21 #[.agg #[.slice xo d.length cx, .slice yo l.length cy], .string nm, .slice (some ⟨g0, 0, none⟩) V.length V.length] Y (ImplOut Y (setR d l nm V))) :=
      Lib.hid (fun xo cx yo cy g0 Y h1 h2 h3 => AttrSet_out xo yo (some ⟨g0, 0, none⟩) d l V cx cy V.length nm Y h1 h2 FD.out FL.out Hnm.out ⟨h3, Nat.le_refl _, fun e => by cases e⟩ FV.out)
    have HSp := Lib.hid (SpecAttrSet_ent v2 (some ⟨gv, 0, none⟩) V.length d l nm V w2 e2 ⟨SV.out, Nat.le_refl _, fun e => by cases e⟩ FD.out FL.out Hnm.out FV.out)
    clear e2 SV
    generalize setR d l nm V = r at *
    obtain ⟨c, D, T⟩ := r
    have hD6 : D.length ≤ 6 := HSm.out.1
    have hT8 : cntA T T.length ≤ 800 := HSm.out.2.1
    have FT : Hid (FitsA T) := Lib.hid HSm.out.2.2
    clear HSm
    go_wp2_with fail
    refine HSp.out.mono ?_
    rintro e w3 ⟨⟨vo0, vc0, uo0, uc0, rfl, x3', y3'⟩, b3⟩
    have x3 := own_dn x3'; have y3 := y3'.attrs
    dsimp only at x3 y3 ⊢
    clear x3' y3'
    have B3 := Lib.hid (more (B2.out.trans (b3.mono B2.out.size)) (.cells #[.slice vo0 D.length vc0, .slice uo0 T.length uc0, .int .i64 c] 30))
    have T3 := Lib.hid ((T2.out.below b3).alloc (.cells #[.slice vo0 D.length vc0, .slice uo0 T.length uc0, .int .i64 c] 30))
    have hal := more (Below.refl w3.heap.size w3) (.cells #[.slice vo0 D.length vc0, .slice uo0 T.length uc0, .int .i64 c] 30)
    have S3 : Hid (Three (w3.alloc (.cells #[.slice vo0 D.length vc0, .slice uo0 T.length uc0, .int .i64 c] 30)) w3.heap.size 30 (.slice vo0 D.length vc0) (.slice uo0 T.length uc0) (.int .i64 c) ∧ DnAt (w3.alloc (.cells #[.slice vo0 D.length vc0, .slice uo0 T.length uc0, .int .i64 c] 30)) vo0 D ∧ AttrsAt (w3.alloc (.cells #[.slice vo0 D.length vc0, .slice uo0 T.length uc0, .int .i64 c] 30)) uo0 T) :=
      Lib.hid ⟨heap_alloc_new w3 _, x3.below hal, y3.below hal⟩
    obtain ⟨⟨p0, p1⟩, _⟩ := T3.out.cells
    clear b3 x3 y3 B2 T2 HSp hal
    go_wp2_with fail
    clear p0 p1
    refine calls_any' (fun W => Below w.heap.size w W ∧ Two W w.heap.size 52 (.slice ao d.length ca) (.slice bo l.length cb) ∧ Three W w3.heap.size 30 (.slice vo0 D.length vc0) (.slice uo0 T.length uc0) (.int .i64 c) ∧ DnAt W vo0 D ∧ AttrsAt W uo0 T) ⟨B3.out, T3.out, S3.out⟩ ?_
    clear B3 T3 S3
    rintro a3 ⟨bA, tA, sA⟩
    have S3 := Lib.hid sA
    have hg3 : w3.heap.size < a3.heap.size := sA.1.lt
    generalize w3.heap.size = g3 at *
    refine (toEntry_row ao bo d l ca cb a3 (HD.out.below bA) (HL.out.below bA) hdl FL.out).mono ?_
    rintro e w4 ⟨v4, rfl, e4, b4⟩
    have B4 := Lib.hid (bA.trans (b4.mono bA.size)); have C4 := Lib.hid b4
    have T4 := Lib.hid (tA.below b4)
    have E4 := Lib.hid e4
    have L34 := b4.size
    have hwl : w.heap.size < a3.heap.size := tA.lt
    have hwa : w.heap.size ≤ a3.heap.size := bA.size
    obtain ⟨G, g, hve, _⟩ := e4
    subst hve
    clear b4 bA tA sA
    obtain ⟨_, _, _, _, he1, x5, y5, _⟩ := E4.out.ent
    have X5 : Hid (DnAt w4 (some ⟨G, 0, none⟩) d ∧ AttrsAt w4 (some ⟨g, 0, none⟩) l) := Lib.hid (by
      injection he1 with he1
      simp at he1
      obtain ⟨⟨rfl, rfl⟩, rfl, rfl⟩ := he1
      exact ⟨x5, y5⟩)
    clear he1 x5 y5
    have hB4 : Below w4.heap.size w4 (w4.alloc (.cells #[.slice (some ⟨G, 0, none⟩) d.length d.length, .slice (some ⟨g, 0, none⟩) l.length l.length] 26)) := more (Below.refl _ _) _
    have R5 : Hid (Below w.heap.size w (w4.alloc (.cells #[.slice (some ⟨G, 0, none⟩) d.length d.length, .slice (some ⟨g, 0, none⟩) l.length l.length] 26)) ∧ Below a3.heap.size a3 (w4.alloc (.cells #[.slice (some ⟨G, 0, none⟩) d.length d.length, .slice (some ⟨g, 0, none⟩) l.length l.length] 26)) ∧ Below w4.heap.size w4 (w4.alloc (.cells #[.slice (some ⟨G, 0, none⟩) d.length d.length, .slice (some ⟨g, 0, none⟩) l.length l.length] 26)) ∧ Two (w4.alloc (.cells #[.slice (some ⟨G, 0, none⟩) d.length d.length, .slice (some ⟨g, 0, none⟩) l.length l.length] 26)) w.heap.size 52 (.slice ao d.length ca) (.slice bo l.length cb) ∧ Two (w4.alloc (.cells #[.slice (some ⟨G, 0, none⟩) d.length d.length, .slice (some ⟨g, 0, none⟩) l.length l.length] 26)) w4.heap.size 26 (.slice (some ⟨G, 0, none⟩) d.length d.length) (.slice (some ⟨g, 0, none⟩) l.length l.length)) :=
      Lib.hid ⟨more B4.out _, more C4.out _, hB4, T4.out.alloc _, twoNew w4 26 _ _⟩
    clear hB4
    go_wp2_with fail
    refine calls_any' (fun W => Below w.heap.size w W ∧ Below a3.heap.size a3 W ∧ Below w4.heap.size w4 W ∧ Two W w.heap.size 52 (.slice ao d.length ca) (.slice bo l.length cb) ∧ Two W w4.heap.size 26 (.slice (some ⟨G, 0, none⟩) d.length d.length) (.slice (some ⟨g, 0, none⟩) l.length l.length)) R5.out ?_
    clear R5 B4 T4 C4
    rintro Wx ⟨hbX, hcX, hbX4, tX0, tX1⟩
    refine (toStringS_row po V pc Wx (Hval.out.1.below hbX) hvl).mono ?_
    rintro e W ⟨u4, rfl, gx, rfl, hgx1, hgx2, hrx, bx⟩
    have hbW := hbX.trans (bx.mono hbX.size); have hc3 := hcX.trans (bx.mono hcX.size); have hb4 := hbX4.trans (bx.mono hbX4.size)
    have t0 := tX0.below bx; have t1 := tX1.below bx
    have hwx : w4.heap.size < gx := Nat.lt_of_lt_of_le tX1.lt hgx1
    clear hbX hcX hbX4 tX0 tX1 bx hgx1
    have HbW := Lib.hid hbW; have Hc3 := Lib.hid hc3; have Hb4 := Lib.hid hb4; have Ht0 := Lib.hid t0; have Ht1 := Lib.hid t1; have Hrx := Lib.hid hrx
    obtain ⟨⟨p0, p1⟩, _⟩ := t1.cells
    clear hbW hc3 hb4 t0 t1 hrx
    go_wp2_with fail
    have hbW := HbW.out; have hc3 := Hc3.out; have hb4 := Hb4.out; have t0 := Ht0.out; have t1 := Ht1.out; have rx := Hrx.out
    clear HbW Hc3 Hb4 Ht0 Ht1 Hrx p0 p1
    refine (HAt.out (some ⟨G, 0, none⟩) d.length (some ⟨g, 0, none⟩) l.length gx W (X5.out.1.below hb4) (X5.out.2.below hb4) rx.strs).mono ?_
    rintro e w5 ⟨⟨vo, vc, uo, uc, rfl, o5, a5⟩, b5⟩
    dsimp only at o5 a5 ⊢
    have hlo : w4.heap.size ≤ W.heap.size := hb4.size
    have hgg : W.heap.size ≤ w5.heap.size := b5.size
    have G5 := Lib.hid (stG_of (hbW.trans (b5.mono hbW.size)) (hc3.trans (b5.mono hc3.size)) (t0.below b5) o5 a5 c)
    have C5 := Lib.hid (more (hb4.trans (b5.mono hb4.size)) (.cells #[.slice vo D.length vc, .slice uo T.length uc, .int .i64 c] 30))
    have RX5 := Lib.hid ((rx.below b5).below (more (Below.refl _ _) (.cells #[.slice vo D.length vc, .slice uo T.length uc, .int .i64 c] 30)))
    have U5 := Lib.hid ((t1.below b5).alloc (.cells #[.slice vo D.length vc, .slice uo T.length uc, .int .i64 c] 30))
    generalize W.heap.size = glo at *
    clear hbW hc3 hb4 t0 t1 o5 a5 b5 rx
    obtain ⟨⟨s0, s1, s2⟩, _⟩ := G5.out.gcells
    obtain ⟨⟨r0, r1, r2⟩, _⟩ := (S3.out.1.below G5.out.low).cells
    go_wp2_with fail
    clear s0 s1 s2 r0 r1 r2
    refine calls_any' (fun Y => StG w a3 (.slice ao d.length ca) (.slice bo l.length cb) (.slice vo D.length vc) (.slice uo T.length uc) c glo w5.heap.size D T Y ∧ Below w4.heap.size w4 Y ∧ Two Y w4.heap.size 26 (.slice (some ⟨G, 0, none⟩) d.length d.length) (.slice (some ⟨g, 0, none⟩) l.length l.length) ∧ RowS Y gx V.length V) ⟨G5.out, C5.out, U5.out, RX5.out⟩ ?_
    clear G5 C5 U5 RX5
    generalize w5.heap.size = ghi at *
    rintro a5 ⟨gA, cA, uA, rA⟩
    have HEq : Hid (∀ (Y : World) (xo : Option Addr) (cx : Nat) (yo : Option Addr) (cy : Nat), Below a3.heap.size a3 Y → DnAt Y xo D → AttrsAt Y yo T → Calls Tryz.prog 32 #[.agg #[.slice xo D.length cx, .slice yo T.length cy, .int .i64 c], .agg #[.slice vo0 D.length vc0, .slice uo0 T.length uc0, .int .i64 c]] Y fun e w' => e = .returned (.bool true) ∧ Below Y.heap.size Y w') :=
      Lib.hid (fun Y xo cx yo cy h h1 h2 => eqEntryOut_same xo yo vo0 uo0 cx cy vc0 uc0 c D T Y h1 h2 (S3.out.2.1.below h) (S3.out.2.2.below h) (by omega) FT.out)
    refine (HEq.out a5 vo vc uo uc gA.low gA.dn gA.attrs).mono ?_
    rintro e w6 ⟨rfl, b6⟩
    have G6 := Lib.hid (gA.below b6); have C6 := Lib.hid (cA.trans (b6.mono cA.size)); have U6 := Lib.hid (uA.below b6); have R6 := Lib.hid (rA.below b6)
    clear b6 gA cA uA rA
    have SK : Hid (∀ Y : World, Below w6.heap.size w6 Y → (Below w6.heap.size w6 Y ∧ Y.cell? ⟨w.heap.size, 0, none⟩ = some (.slice ao d.length ca) ∧ Y.cell? ⟨w.heap.size, 1, none⟩ = some (.slice bo l.length cb) ∧ Y.cell? ⟨w4.heap.size, 0, none⟩ = some (.slice (some ⟨G, 0, none⟩) d.length d.length) ∧ Y.cell? ⟨w4.heap.size, 1, none⟩ = some (.slice (some ⟨g, 0, none⟩) l.length l.length))) :=
      Lib.hid (fun Y h => ⟨h, (G6.out.arg.below h).cells.1.1, (G6.out.arg.below h).cells.1.2, (U6.out.below h).cells.1.1, (U6.out.below h).cells.1.2⟩)
    have H29 : Hid (∀ Y, Below w6.heap.size w6 Y → Calls Tryz.prog 31 #[.agg #[.slice ao d.length ca, .slice bo l.length cb]] Y fun e w' => (∃ zo cz uo cu, e = .returned (.agg #[.slice zo d.length cz, .slice uo l.length cu]) ∧ DnAt w' zo d ∧ AttrsAt w' uo l) ∧ Below w6.heap.size w6 w') :=
      Lib.hid (fun Y h => (toEntry_any ao bo d l ca cb Y (HD.out.below (G6.out.base.trans (h.mono G6.out.base.size))) (HL.out.below (G6.out.base.trans (h.mono G6.out.base.size))) hdl FL.out).mono fun e w' ⟨v, h1, ⟨zo, cz, uo, cu, h2, h3, h4, _⟩, h5⟩ => ⟨⟨zo, cz, uo, cu, by rw [h1, h2], h3, h4⟩, h.trans (h5.mono h.size)⟩)
    have H31 : Hid (∀ Y zo cz uo cu, Below w6.heap.size w6 Y → DnAt Y zo d → AttrsAt Y uo l → Calls Tryz.prog 33 #[.agg #[.slice (some ⟨G, 0, none⟩) d.length d.length, .slice (some ⟨g, 0, none⟩) l.length l.length], .agg #[.slice zo d.length cz, .slice uo l.length cu]] Y fun e w' => e = .returned (.bool true) ∧ Below w6.heap.size w6 w') :=
      Lib.hid (fun Y zo cz uo cu h h3 h4 => (eqEntry_any (some ⟨G, 0, none⟩) (some ⟨g, 0, none⟩) zo uo d l d.length l.length cz cu Y (X5.out.1.below (C6.out.trans (h.mono C6.out.size))) (X5.out.2.below (C6.out.trans (h.mono C6.out.size))) h3 h4 hdl FL.out).mono fun _ _ g => ⟨g.1, h.trans (g.2.mono h.size)⟩)
    have hb0 : Below w6.heap.size w6 w6 := Below.refl _ _
    have hbd := hb0.drew
    go_wp2_with fail
    go_region_held3 (fun Y => Below w6.heap.size w6 Y ∧ Y.cell? ⟨w.heap.size, 0, none⟩ = some (.slice ao d.length ca) ∧ Y.cell? ⟨w.heap.size, 1, none⟩ = some (.slice bo l.length cb) ∧ Y.cell? ⟨w4.heap.size, 0, none⟩ = some (.slice (some ⟨G, 0, none⟩) d.length d.length) ∧ Y.cell? ⟨w4.heap.size, 1, none⟩ = some (.slice (some ⟨g, 0, none⟩) l.length l.length))
      (exact SK.out _ (by assumption))
      (first
        | (go_at_call 31; refine (H29.out _ (by assumption)).mono ?_; rintro e w7 ⟨⟨zo7, cz7, uo7, cu7, rfl, hz6, hu6⟩, hb7⟩; have Z7 := Lib.hid hz6; have W7 := Lib.hid hu6; clear hz6 hu6)
        | (go_at_call 33; refine (H31.out _ _ _ _ _ (by assumption) ?_ ?_).mono ?_; (focus (first | exact Z7.out | exact Z7.out.below ((Below.refl _ _).drew))); (focus (first | exact W7.out | exact W7.out.below ((Below.refl _ _).drew))); rintro e w8 ⟨rfl, hb8⟩)
        | (fail "none"))
    have G8 := Lib.hid (G6.out.below hb8); have C8 := Lib.hid (C6.out.trans (hb8.mono C6.out.size)); have U8 := Lib.hid (U6.out.below hb8); have R8 := Lib.hid (R6.out.below hb8)
    clear SK H29 H31 hb0 hbd hb7 hb8 Z7 W7 G6 C6 U6 R6
    go_wp2_with fail
    refine (toStringS_any po V pc w8 (Hval.out.1.below G8.out.base) hvl).mono ?_
    rintro e w8b ⟨u8, rfl, gy, rfl, _, _, hsy, b8b⟩
    have G8b := Lib.hid (G8.out.below b8b); have C8b := Lib.hid (C8.out.trans (b8b.mono C8.out.size)); have U8b := Lib.hid (U8.out.below b8b); have R8b := Lib.hid (R8.out.below b8b); have SY := Lib.hid hsy
    clear b8b hsy G8 C8 U8 R8
    go_wp2_with fail
    refine (eqStringS_same (some ⟨gx, 0, none⟩) (some ⟨gy, 0, none⟩) V V.length V.length w8b R8b.out.strs SY.out hvl).mono ?_
    rintro e w8c ⟨rfl, b8c⟩
    have G8 := Lib.hid (G8b.out.below b8c); have C8 := Lib.hid (C8b.out.trans (b8c.mono C8b.out.size)); have U8 := Lib.hid (U8b.out.below b8c); have R8 := Lib.hid (R8b.out.below b8c)
    clear b8c G8b C8b U8b R8b SY
    obtain ⟨⟨p0, p1⟩, _⟩ := U8.out.cells
    go_wp2_with fail
    refine (markEntry_pos _ d l a3.heap.size w4.heap.size w8c w4 E4.out rfl C8.out HSz.out).mono ?_
    rintro e w9a ⟨⟨n9, hn0, hn9, rfl⟩, m9⟩
    have G9a := Lib.hid (G8.out.mid m9 hwl hwa (by omega) hgg)
    have S9a := Lib.hid (R8.out.sh.mid m9 (.inr (Nat.le_of_lt hwx)))
    clear m9 p0 p1 G8 C8 U8 R8
    go_wp2_with fail
    refine (markStringS_some gx V.length V.length n9 w9a (Nat.le_refl _) hvl hn0 hn9 S9a.out).mono ?_
    rintro e w9 ⟨rfl, _, g9⟩
    have G9 := Lib.hid (G9a.out.mid (Mid.of_grown (lo := a3.heap.size) (hi := glo) g9 (by omega) hgx2) hwl hwa (Nat.le_refl _) hgg)
    clear g9 G9a S9a
    have hp9 : ¬ ((n9 + V.length : Nat) : Int) < 0 := by omega
    generalize ((n9 + V.length : Nat) : Int) = n9v at *
    obtain ⟨⟨s0, s1, s2⟩, _⟩ := G9.out.gcells
    obtain ⟨⟨r0, r1, r2⟩, _⟩ := (S3.out.1.below G9.out.low).cells
    go_wp2_with fail
    clear s0 s1 s2 r0 r1 r2
    refine (HEq.out w9 vo vc uo uc G9.out.low G9.out.dn G9.out.attrs).mono ?_
    rintro e w10 ⟨rfl, b10⟩
    have G10 := Lib.hid (G9.out.below b10)
    clear b10 G9
    obtain ⟨⟨s0, s1, s2⟩, _⟩ := G10.out.gcells
    go_wp2_with fail
    clear s0 s1 s2
    refine (markEntryOut_own vo uo vc uc c D T glo ghi w10 G10.out.out (by omega) hT8 (Nat.le_of_lt G10.out.gl)).mono ?_
    rintro e w11 ⟨rfl, o11, m11⟩
    have G11 := Lib.hid (G10.out.marked o11 m11 (by omega) (by omega))
    clear o11 m11 G10
    have HH : Hid (∀ Y, StM w a3 (.slice ao d.length ca) (.slice bo l.length cb) (.slice vo D.length vc) (.slice uo T.length uc) c glo ghi D T Y → Calls Tryz.prog 36 #[.agg #[.slice vo D.length vc, .slice uo T.length uc, .int .i64 c], .int .i64 1] Y fun e w' => e = .returned (.int .i64 (cntE D T : Int)) ∧ Below Y.heap.size Y w') :=
      Lib.hid (fun Y h => heldEntryOut_own vo uo vc uc c D T glo ghi Y h.out (by omega) hT8)
    have hq1 : ¬ (cntE D T : Int) < 0 := by omega
    generalize (cntE D T : Int) = Q at *
    have hq2 : (Q != Q) = false := by simp
    obtain ⟨⟨s0, s1, s2⟩, _⟩ := G11.out.gcells
    go_wp2_with fail
    clear s0 s1 s2
    refine (HH.out w11 G11.out).mono ?_
    rintro e w12 ⟨rfl, b12⟩
    have G12 := Lib.hid (G11.out.below b12)
    clear b12 G11
    obtain ⟨⟨p0, p1⟩, _⟩ := G12.out.arg.cells
    go_wp2_with fail
    clear p0 p1
    refine (toEntry_any ao bo d l ca cb w12 (HD.out.below G12.out.base) (HL.out.below G12.out.base) hdl FL.out).mono ?_
    rintro e w13 ⟨v13, rfl, ⟨xo, cx, yo, cy, rfl, x13, y13, _, _⟩, b13⟩
    have G13 := Lib.hid (G12.out.below b13)
    have X13 := Lib.hid x13; have Y13 := Lib.hid y13
    clear b13 G12 x13 y13
    go_wp2_with fail
    refine (toStringS_any po V pc w13 (Hval.out.1.below G13.out.base) hvl).mono ?_
    rintro e w13b ⟨u13, rfl, gz, rfl, _, _, hsz13, b13b⟩
    have G13b := Lib.hid (G13.out.below b13b); have X13b := Lib.hid (X13.out.below b13b); have Y13b := Lib.hid (Y13.out.below b13b); have Z13 := Lib.hid hsz13
    clear b13b hsz13 G13 X13 Y13
    go_wp2_with fail
    refine (HAt.out xo cx yo cy gz w13b X13b.out Y13b.out Z13.out).mono ?_
    rintro e w14 ⟨⟨ho, hc, io, ic, rfl, o14, a14⟩, b14⟩
    dsimp only at o14 a14 ⊢
    have hal := more (Below.refl w14.heap.size w14) (.cells #[.slice ho D.length hc, .slice io T.length ic, .int .i64 c] 30)
    have G14 := Lib.hid ((G13b.out.below b14).below hal)
    have O14 := Lib.hid ((own_dn o14).below hal); have A14 := Lib.hid ((attrsMk_of a14 1).attrs.below hal)
    have V14 : Hid (Three (w14.alloc (.cells #[.slice ho D.length hc, .slice io T.length ic, .int .i64 c] 30)) w14.heap.size 30 (.slice ho D.length hc) (.slice io T.length ic) (.int .i64 c)) := Lib.hid (heap_alloc_new w14 _)
    clear b14 hal G13b X13b Y13b Z13 o14 a14
    obtain ⟨⟨s0, s1, s2⟩, _⟩ := V14.out.cells
    obtain ⟨⟨r0, r1, r2⟩, _⟩ := (S3.out.1.below G14.out.low).cells
    go_wp2_with fail
    clear s0 s1 s2 r0 r1 r2
    refine (HEq.out _ ho hc io ic G14.out.low O14.out A14.out).mono ?_
    rintro e w15 ⟨rfl, b15⟩
    have G15 := Lib.hid (G14.out.below b15)
    clear b15 G14 O14 A14 V14
    obtain ⟨⟨s0, s1, s2⟩, _⟩ := G15.out.gcells
    go_wp2_with fail
    clear s0 s1 s2
    refine (HH.out w15 G15.out).mono ?_
    rintro e w16 ⟨rfl, b16⟩
    have G16 := Lib.hid (G15.out.below b16)
    clear b16 G15
    go_wp2
    go_ret
    exact ⟨rfl, G16.out.base⟩
  · rw [leftR_neg hfit]
    clear hfit
    go_wp2
    go_ret
    exact ⟨rfl, b1⟩
end Go.Proofs.YtjajpdghamecoaaGreat
