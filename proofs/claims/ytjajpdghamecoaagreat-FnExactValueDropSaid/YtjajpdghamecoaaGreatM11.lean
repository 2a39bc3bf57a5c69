/- Merged texts: SpSort, SortU, SpAdd, Held2, SetF, StepS. -/
import Derived.Test.YtjajpdghamecoaaGreatM10
import Derived.Deep.RegionHeld
/- l03Sort: what the specification's text returns. -/
namespace Go.Proofs.YtjajpdghamecoaaGreat
open Go.RowKit
attribute [local go_sem ↓] Go.wp_at_zero Go.wp_at_succ

def insN (x : ByteArray) (o : List ByteArray) : List ByteArray := o.takeWhile (fun y => normLt y x) ++ x :: o.dropWhile (fun y => normLt y x)
def sortN (V : List ByteArray) : List ByteArray := V.foldl (fun o x => insN x o) []
theorem sortN_snoc (V : List ByteArray) (x : ByteArray) : sortN (V ++ [x]) = insN x (sortN V) := by unfold sortN; rw [List.foldl_append]; rfl
theorem insN_perm (x : ByteArray) (o : List ByteArray) : (insN x o).Perm (x :: o) := by
  unfold insN
  refine List.perm_middle.trans ?_
  rw [List.takeWhile_append_dropWhile]
theorem sortN_perm (V : List ByteArray) : (sortN V).Perm V := by
  refine snoc_rec (P := fun V => (sortN V).Perm V) (.refl _) (fun l a ih => ?_) V
  rw [sortN_snoc]
  exact (insN_perm a _).trans ((List.Perm.cons a ih).trans (List.perm_append_comm (l₁ := [a])))
theorem sortN_len (V : List ByteArray) : (sortN V).length = V.length := (sortN_perm V).length_eq
/-- the first k are less, the k-th is not: so the place is k -/
theorem insN_at {x : ByteArray} {o : List ByteArray} {k : Nat} (hk : k ≤ o.length) (h1 : ∀ i (hi : i < o.length), i < k → normLt o[i] x = true) (h2 : ∀ h : k < o.length, normLt o[k] x = false) : insN x o = o.take k ++ [x] ++ o.drop k := by
  have ht : o.takeWhile (fun y => normLt y x) = o.take k ∧ o.dropWhile (fun y => normLt y x) = o.drop k := by
    induction o generalizing k with
    | nil => simp
    | cons y o ih =>
      cases k with
      | zero =>
        have := h2 (by simp)
        simp at this
        simp [this]
      | succ k =>
        have hy := h1 0 (by simp) (by omega)
        simp at hy
        have := ih (k := k) (by simpa using hk) (fun i hi hik => by have := h1 (i + 1) (by simpa using hi) (by omega); simpa using this) (fun h => by have := h2 (by simpa using h); simpa using this)
        simp [hy, this.1, this.2]
  unfold insN
  rw [ht.1, ht.2]; simp
theorem Tryz.elem36' : Tryz.prog.elem 36 = 9 := by kernel_rfl
theorem Tryz.size9' (w : World) : (sizeOf 9).run Tryz.prog w = .ok 1 w := by kernel_rfl
theorem head36 (a : Addr) (n k cap : Nat) (hk : k ≤ cap) (W : World) : (Instr.slice 36 (.slice (some a) n cap) none (some (.int .i64 (k : Int))) none).run Tryz.prog W = .ok (.slice (some a) k cap) W := by
  rw [run_slice_h W 36 (some a) n cap (by rw [Tryz.elem36']; exact Tryz.underlying36) .i64 (k : Int) (by omega) (by omega), Tryz.elem36', Tryz.size9']
  simp [Result.andThen, sliced]
  intro _
  unfold Addr.add; split <;> simp_all
theorem tail36 (w : World) (a : Addr) (o : List ByteArray) (k cap : Nat) (hk : k ≤ o.length) (hc : o.length ≤ cap) (hd : StrsAt w (some a) o) :
    ∃ a', (∀ W : World, (Instr.slice 36 (.slice (some a) o.length cap) (some (.int .i64 (k : Int))) none none).run Tryz.prog W = .ok (.slice (some a') (o.length - k) (cap - k)) W) ∧ StrsAt w (some a') (o.drop k) := by
  refine ⟨if cap = k then a else a.add k, fun W => ?_, ?_⟩
  · rw [run_slice_l W 36 (some a) o.length cap (by rw [Tryz.elem36']; exact Tryz.underlying36) .i64 (k : Int) (by omega) (by omega), Tryz.elem36', Tryz.size9']
    simp [Result.andThen, sliced]
    split <;> simp
  · by_cases h0 : o.length = k
    · exact .inl (List.drop_eq_nil_of_le (by omega))
    · rw [if_neg (by omega)]
      obtain ⟨b, off, e0, hb, _⟩ := hd.at (k := 0) (by omega)
      injection e0 with e0
      subst e0
      refine .inr ⟨b, off + k, by simp [Addr.add], hb, fun i hi => ?_⟩
      rw [List.length_drop] at hi
      rw [List.getElem_drop]
      obtain ⟨b', off', e, _, c1⟩ := hd.at (k := k + i) (by omega)
      cases e
      rw [Nat.add_assoc]; exact c1
theorem StrsAt.take {w : World} {ao : Option Addr} {o : List ByteArray} (h : StrsAt w ao o) (k : Nat) : StrsAt w ao (o.take k) := by
  rcases h with h | ⟨b, off, h1, h2, h3⟩
  · subst h; exact .inl (by simp)
  · exact .inr ⟨b, off, h1, h2, fun i hi => by rw [List.getElem_take]; exact h3 i (by rw [List.length_take] at hi; omega)⟩
set_option maxRecDepth 100000 in
set_option maxHeartbeats 1000000 in
theorem l03Sort_any (vo : Option Addr) (V : List ByteArray) (vc : Nat) (w : World) (hd : StrsAt w vo V) (hf : FitsV V) (h12 : V.length ≤ 400) :
    Calls Tryz.prog 132 #[.slice vo V.length vc] w (GivesV w (sortN V)) := by
  have HD := Lib.hid hd; have HF := Lib.hid hf; clear hd hf
  go_enter Tryz.func132, Tryz.ntmps132
  go_wp2_with fail
  go_loopw [3, 4] (fun v i wr => ∃ k : Nat, k ≤ V.length ∧ i = .int .i64 k ∧ (∃ a n c, v = .slice (some a) n c) ∧ wr.ownsRow w.heap.size 9 1 v (sortN (V.take k)).length (ss (sortN (V.take k))) ∧ Below w.heap.size w wr) (fun _ i _ => V.length - (intOf i).toNat)
  case atStart => exact ⟨0, Nat.zero_le _, rfl, ⟨_, _, _, rfl⟩, own_zero w rfl (Nat.le_refl _), more (Below.refl _ _) _⟩
  case round =>
    obtain ⟨Y, rfl⟩ : ∃ Y, Y = wr := ⟨_, rfl⟩
    obtain ⟨k, hk, rfl, ⟨oa, on, oc, rfl⟩, hown, hbel⟩ := hrel
    have hsz := hbel.size
    by_cases hlt : k < V.length
    · obtain ⟨p, off, rfl, hp0, hd1⟩ := (HD.out.below hbel).at hlt
      have hzx := HF.out.max hlt
      have HN : Hid (sortN (V.take (k + 1)) = insN V[k] (sortN (V.take k))) := Lib.hid (by rw [take_snoc' V k hlt, sortN_snoc])
      have hol : (sortN (V.take k)).length = k := by rw [sortN_len, List.length_take]; omega
      have HZo : Hid (∀ s ∈ sortN (V.take k), s.size ≤ maxLen) := Lib.hid (fun s hs => by have := HF.out.2 s (List.mem_of_mem_take ((sortN_perm _).mem_iff.1 hs)); unfold maxLen; omega)
      generalize sortN (V.take k) = o at *
      generalize V[k] = x at *
      have hol' : o.length ≤ 400 := by omega
      clear hol
      obtain rfl : on = o.length := by obtain ⟨_, _, e⟩ := own_slice hown; injection e
      have HS := Lib.hid (own_strs hown)
      have HOc := Lib.hid (own_cap hown)
      have HO := Lib.hid hown; have HB := Lib.hid hbel
      clear hown hbel
      go_wp2_with fail
      go_loopw [5] (fun i Z => ∃ j : Nat, j ≤ o.length ∧ i = .int .i64 j ∧ (∀ i (hi : i < o.length), i < j → normLt o[i] x = true) ∧ Below Y.heap.size Y Z) (fun i _ => o.length - (intOf i).toNat)
      case atStart => exact ⟨0, Nat.zero_le _, rfl, fun i _ h => absurd h (Nat.not_lt_zero _), Below.refl _ _⟩
      case round =>
        obtain ⟨j, hj, rfl, hlow, hbz⟩ := hrel
        have Hlow := Lib.hid hlow; clear hlow
        have hsz2 := hbz.size
        by_cases hjl : j < o.length
        · obtain ⟨q, qo, eqa, hq0, hq1⟩ := HS.out.at hjl
          injection eqa with eqa
          subst eqa
          have hzo := HZo.out o[j] (List.getElem_mem _)
          have HX : Hid (normLt o[j] x = false → insN x o = o.take j ++ [x] ++ o.drop j) := Lib.hid (fun h => insN_at hj Hlow.out (fun _ => h))
          have HNx : Hid (normLt o[j] x = true → ∀ i (hi : i < o.length), i < j + 1 → normLt o[i] x = true) := Lib.hid (fun hn i h hij => by
            by_cases e : i = j
            · subst e; exact hn
            · exact Hlow.out i h (by omega))
          have HQ : Hid (normLt o[j] x = Op.bytesLess (normS o[j]).toList (normS x).toList) := Lib.hid rfl
          have SK : Hid (∀ Z : World, Below wr.heap.size wr Z → (Below wr.heap.size wr Z ∧ Z.cell? ⟨q, qo + j, none⟩ = some (.string o[j]) ∧ Z.cell? ⟨p, off + k, none⟩ = some (.string x))) :=
            Lib.hid (fun Z h => ⟨h, ((hbz.trans (h.mono hsz2)).cell (p := ⟨q, qo + j, none⟩) hq0).trans hq1, ((hbz.trans (h.mono hsz2)).cell (p := ⟨p, off + k, none⟩) hp0).trans hd1⟩)
          clear hq1
          generalize o[j] = y at *
          have HN1 : Hid (∀ Z, Below wr.heap.size wr Z → Calls Tryz.prog 99 #[.string y] Z fun e w' => e = .returned (.string (normS y)) ∧ Below wr.heap.size wr w') := Lib.hid (fun Z h => SpecNorm_from wr y Z hzo h)
          have HN2 : Hid (∀ Z, Below wr.heap.size wr Z → Calls Tryz.prog 99 #[.string x] Z fun e w' => e = .returned (.string (normS x)) ∧ Below wr.heap.size wr w') := Lib.hid (fun Z h => SpecNorm_from wr x Z hzx h)
          have hb0 : Below wr.heap.size wr wr := Below.refl _ _
          have hbd := hb0.drew
          have g1 : (0 : Int) ≤ (j : Int) := by omega
          have g2 : (j : Int) < (o.length : Int) := by omega
          have g2n : decide (j < o.length) = true := by simpa using hjl
          have g3 : (0 : Int) ≤ (k : Int) := by omega
          have g4 : (k : Int) < (V.length : Int) := by omega
          generalize normS y = ny at *
          generalize normS x = nx at *
          cases hn : Op.bytesLess ny.toList nx.toList
          · have HX' := Lib.hid (HX.out (HQ.out.trans hn))
            go_wp2_with fail
            refine wp_region_held_drew (S := (fun Z => Below wr.heap.size wr Z ∧ Z.cell? ⟨q, qo + j, none⟩ = some (.string y) ∧ Z.cell? ⟨p, off + k, none⟩ = some (.string x))) (by kernel_rfl) ?_ (fun hHeld => ?_)
            · (try dsimp only)
              exact SK.out _ (by assumption)
            refine wpAnyH_take (i := 0) (oi := { dst := some 14, op := Op.move (Operand.tmp 5), type := 3, pos := "l03_entry.go:89", after := #[], guard := none }) (v := ?_) rfl (by kernel_rfl) (by kernel_rfl) (by kernel_rfl) (fun _ _ _ h => h) (Or.inl ⟨by rfl, ?_⟩) (by assumption) ?_
            rotate_left
            · intro w hSw; (try dsimp only at hSw); go_simp; (try with_reducible rfl)
            (try simp only [Act.put, List.setIfInBounds_toArray, List.set_cons_zero, List.set_cons_succ])
            refine wpAnyH_take (i := 1) (oi := { dst := some 15, op := Op.move (Operand.tmp 3), type := 36, pos := "l03_entry.go:89", after := #[], guard := none }) (v := ?_) rfl (by kernel_rfl) (by kernel_rfl) (by kernel_rfl) (fun _ _ _ h => h) (Or.inl ⟨by rfl, ?_⟩) (by assumption) ?_
            rotate_left
            · intro w hSw; (try dsimp only at hSw); go_simp; (try with_reducible rfl)
            (try simp only [Act.put, List.setIfInBounds_toArray, List.set_cons_zero, List.set_cons_succ])
            refine wpAnyH_take (i := 2) (oi := { dst := some 16, op := Op.call { callee := Callee.builtin Builtin.len, args := #[Operand.tmp 15], argTypes := #[36] }, type := 3, pos := "l03_entry.go:89", after := #[{ on := 1, ground := Ground.data }], guard := none }) (v := ?_) rfl (by kernel_rfl) (by kernel_rfl) (by kernel_rfl) (fun _ _ _ h => h) (Or.inl ⟨by rfl, ?_⟩) (by assumption) ?_
            rotate_left
            · intro w hSw; (try dsimp only at hSw); go_simp; (try with_reducible rfl)
            (try simp only [Act.put, List.setIfInBounds_toArray, List.set_cons_zero, List.set_cons_succ])
            refine wpAnyH_take (i := 3) (oi := { dst := some 17, op := Op.binOp BinOp.lss 3 (Operand.tmp 14) (Operand.tmp 16) 3, type := 4, pos := "l03_entry.go:89", after := #[{ on := 0, ground := Ground.data }, { on := 2, ground := Ground.data }], guard := none }) (v := ?_) rfl (by kernel_rfl) (by kernel_rfl) (by kernel_rfl) (fun _ _ _ h => h) (Or.inl ⟨by rfl, ?_⟩) (by assumption) ?_
            rotate_left
            · intro w hSw; (try dsimp only at hSw); go_simp; (try with_reducible rfl)
            (try simp only [Act.put, List.setIfInBounds_toArray, List.set_cons_zero, List.set_cons_succ])
            refine wpAnyH_take (i := 4) (oi := { dst := some 18, op := Op.move (Operand.tmp 17), type := 4, pos := "l03_entry.go:89", after := #[{ on := 3, ground := Ground.data }], guard := none }) (v := ?_) rfl (by kernel_rfl) (by kernel_rfl) (by kernel_rfl) (fun _ _ _ h => h) (Or.inl ⟨by rfl, ?_⟩) (by assumption) ?_
            rotate_left
            · intro w hSw; (try dsimp only at hSw); go_simp; (try with_reducible rfl)
            (try simp only [Act.put, List.setIfInBounds_toArray, List.set_cons_zero, List.set_cons_succ])
            refine wpAnyH_take (i := 5) (oi := { dst := some 19, op := Op.move (Operand.tmp 3), type := 36, pos := "l03_entry.go:89", after := #[{ on := 4, ground := Ground.guard }], guard := some (4, true) }) (v := ?_) rfl (by kernel_rfl) (by kernel_rfl) (by kernel_rfl) (fun _ _ _ h => h) (Or.inl ⟨by rfl, ?_⟩) (by assumption) ?_
            rotate_left
            · intro w hSw; (try dsimp only at hSw); go_simp; (try with_reducible rfl)
            (try simp only [Act.put, List.setIfInBounds_toArray, List.set_cons_zero, List.set_cons_succ])
            refine wpAnyH_take (i := 6) (oi := { dst := some 20, op := Op.move (Operand.tmp 5), type := 3, pos := "l03_entry.go:89", after := #[{ on := 4, ground := Ground.guard }], guard := some (4, true) }) (v := ?_) rfl (by kernel_rfl) (by kernel_rfl) (by kernel_rfl) (fun _ _ _ h => h) (Or.inl ⟨by rfl, ?_⟩) (by assumption) ?_
            rotate_left
            · intro w hSw; (try dsimp only at hSw); go_simp; (try with_reducible rfl)
            (try simp only [Act.put, List.setIfInBounds_toArray, List.set_cons_zero, List.set_cons_succ])
            refine wpAnyH_take (i := 7) (oi := { dst := some 21, op := Op.indexAddr 36 (Operand.tmp 19) (Operand.tmp 20), type := 0, pos := "l03_entry.go:89", after := #[{ on := 5, ground := Ground.data }, { on := 6, ground := Ground.data }, { on := 4, ground := Ground.guard }], guard := some (4, true) }) (v := ?_) rfl (by kernel_rfl) (by kernel_rfl) (by kernel_rfl) (fun _ _ _ h => h) (Or.inl ⟨by rfl, ?_⟩) (by assumption) ?_
            rotate_left
            · intro w hSw; (try dsimp only at hSw); go_simp; (try with_reducible rfl)
            (try simp only [Act.put, List.setIfInBounds_toArray, List.set_cons_zero, List.set_cons_succ])
            refine wpAnyH_take (i := 8) (oi := { dst := some 22, op := Op.load 9 (Operand.tmp 21), type := 9, pos := "l03_entry.go:89", after := #[{ on := 7, ground := Ground.data }, { on := 4, ground := Ground.guard }], guard := some (4, true) }) (v := ?_) rfl (by kernel_rfl) (by kernel_rfl) (by kernel_rfl) (fun _ _ _ h => h) (Or.inl ⟨by rfl, ?_⟩) (by assumption) ?_
            rotate_left
            · intro w hSw; (try dsimp only at hSw); go_simp; (try with_reducible rfl)
            (try simp only [Act.put, List.setIfInBounds_toArray, List.set_cons_zero, List.set_cons_succ])
            refine wpAnyH_take (i := 10) (oi := { dst := some 24, op := Op.move (Operand.tmp 0), type := 36, pos := "l03_entry.go:89", after := #[{ on := 4, ground := Ground.guard }], guard := some (4, true) }) (v := ?_) rfl (by kernel_rfl) (by kernel_rfl) (by kernel_rfl) (fun _ _ _ h => h) (Or.inl ⟨by rfl, ?_⟩) (by assumption) ?_
            rotate_left
            · intro w hSw; (try dsimp only at hSw); go_simp; (try with_reducible rfl)
            (try simp only [Act.put, List.setIfInBounds_toArray, List.set_cons_zero, List.set_cons_succ])
            refine wpAnyH_take (i := 11) (oi := { dst := some 25, op := Op.move (Operand.tmp 4), type := 3, pos := "l03_entry.go:89", after := #[{ on := 4, ground := Ground.guard }], guard := some (4, true) }) (v := ?_) rfl (by kernel_rfl) (by kernel_rfl) (by kernel_rfl) (fun _ _ _ h => h) (Or.inl ⟨by rfl, ?_⟩) (by assumption) ?_
            rotate_left
            · intro w hSw; (try dsimp only at hSw); go_simp; (try with_reducible rfl)
            (try simp only [Act.put, List.setIfInBounds_toArray, List.set_cons_zero, List.set_cons_succ])
            refine wpAnyH_take (i := 12) (oi := { dst := some 26, op := Op.indexAddr 36 (Operand.tmp 24) (Operand.tmp 25), type := 0, pos := "l03_entry.go:89", after := #[{ on := 10, ground := Ground.data }, { on := 11, ground := Ground.data }, { on := 4, ground := Ground.guard }], guard := some (4, true) }) (v := ?_) rfl (by kernel_rfl) (by kernel_rfl) (by kernel_rfl) (fun _ _ _ h => h) (Or.inl ⟨by rfl, ?_⟩) (by assumption) ?_
            rotate_left
            · intro w hSw; (try dsimp only at hSw); go_simp; (try with_reducible rfl)
            (try simp only [Act.put, List.setIfInBounds_toArray, List.set_cons_zero, List.set_cons_succ])
            refine wpAnyH_take (i := 13) (oi := { dst := some 27, op := Op.load 9 (Operand.tmp 26), type := 9, pos := "l03_entry.go:89", after := #[{ on := 12, ground := Ground.data }, { on := 4, ground := Ground.guard }], guard := some (4, true) }) (v := ?_) rfl (by kernel_rfl) (by kernel_rfl) (by kernel_rfl) (fun _ _ _ h => h) (Or.inl ⟨by rfl, ?_⟩) (by assumption) ?_
            rotate_left
            · intro w hSw; (try dsimp only at hSw); go_simp; (try with_reducible rfl)
            (try simp only [Act.put, List.setIfInBounds_toArray, List.set_cons_zero, List.set_cons_succ])
            refine wpAnyH_ready (rs := [9]) (by kernel_rfl) (by simp) ?_
            refine AllReadyH.cons (o := { dst := some 23, op := Op.call { callee := Callee.value (Operand.func 99), args := #[Operand.tmp 22], argTypes := #[9] }, type := 9, pos := "l03_entry.go:89", after := #[{ on := 8, ground := Ground.data }, { on := 4, ground := Ground.chain }, { on := 4, ground := Ground.guard }], guard := some (4, true) }) rfl (fun K hK => ?_) AllReadyH.nil
            go_simp
            (refine (HN1.out _ (by assumption)).mono ?_; rintro e w7 ⟨rfl, hb7⟩; go_wp2_with fail)
            clear hHeld
            refine hK.out _ _ ?_ (fun hHeld => ?_)
            · (try dsimp only)
              exact SK.out _ (by assumption)
            clear hK K
            (try simp only [Act.put, List.setIfInBounds_toArray, List.set_cons_zero, List.set_cons_succ])
            refine wpAnyH_ready (rs := [14]) (by kernel_rfl) (by simp) ?_
            refine AllReadyH.cons (o := { dst := some 28, op := Op.call { callee := Callee.value (Operand.func 99), args := #[Operand.tmp 27], argTypes := #[9] }, type := 9, pos := "l03_entry.go:89", after := #[{ on := 13, ground := Ground.data }, { on := 9, ground := Ground.chain }, { on := 4, ground := Ground.guard }], guard := some (4, true) }) rfl (fun K hK => ?_) AllReadyH.nil
            go_simp
            (refine (HN2.out _ (by assumption)).mono ?_; rintro e w8 ⟨rfl, hb8⟩; go_wp2_with fail)
            clear hHeld
            refine hK.out _ _ ?_ (fun hHeld => ?_)
            · (try dsimp only)
              exact SK.out _ (by assumption)
            clear hK K
            (try simp only [Act.put, List.setIfInBounds_toArray, List.set_cons_zero, List.set_cons_succ])
            refine wpAnyH_take (i := 15) (oi := { dst := some 29, op := Op.binOp BinOp.lss 9 (Operand.tmp 23) (Operand.tmp 28) 9, type := 4, pos := "l03_entry.go:89", after := #[{ on := 9, ground := Ground.data }, { on := 14, ground := Ground.data }, { on := 4, ground := Ground.guard }], guard := some (4, true) }) (v := ?_) rfl (by kernel_rfl) (by kernel_rfl) (by kernel_rfl) (fun _ _ _ h => h) (Or.inl ⟨by rfl, ?_⟩) (by assumption) ?_
            rotate_left
            · intro w hSw; (try dsimp only at hSw); go_simp; (try with_reducible rfl)
            (try simp only [Act.put, List.setIfInBounds_toArray, List.set_cons_zero, List.set_cons_succ])
            refine wpAnyH_take (i := 16) (oi := { dst := some 30, op := Op.pick (Operand.tmp 18) (Operand.tmp 29) (Operand.const (Value.bool false)), type := 4, pos := "l03_entry.go:89", after := #[{ on := 4, ground := Ground.data }, { on := 15, ground := Ground.data }], guard := none }) (v := ?_) rfl (by kernel_rfl) (by kernel_rfl) (by kernel_rfl) (fun _ _ _ h => h) (Or.inl ⟨by rfl, ?_⟩) (by assumption) ?_
            rotate_left
            · intro w hSw; (try dsimp only at hSw); go_simp; (try with_reducible rfl)
            (try simp only [Act.put, List.setIfInBounds_toArray, List.set_cons_zero, List.set_cons_succ])
            refine wpAnyH_done (by kernel_rfl) ?_ _
            refine then_world (fun Z => Below Y.heap.size Y Z) (hbz.trans (hb8.mono hsz2)) ?_
            rintro Z hbZ
            have OZ := Lib.hid (own_below HO.out hbZ); have BZw := Lib.hid (HB.out.trans (hbZ.mono HB.out.size)); have hzY := hbZ.size
            have hxZ := (hbZ.cell (p := ⟨p, off + k, none⟩) hp0).trans hd1
            have SZ := Lib.hid (HS.out.below hbZ)
            have hh := head36 ⟨q, qo, none⟩ o.length j oc (by have := HOc.out; omega)
            obtain ⟨ta, hta, hts⟩ := tail36 Y ⟨q, qo, none⟩ o j oc hj HOc.out HS.out
            have HTs := Lib.hid (hts.below hbZ)
            have hpZ : p < Z.heap.size := Nat.lt_of_lt_of_le hp0 hzY
            have B0 := more (Below.refl Z.heap.size Z) (.cells #[] 9)
            have O0 := Lib.hid (own_zero Z (B := Z.heap.size) rfl (Nat.le_refl _))
            have HT0 := Lib.hid ((SZ.out.take j).below B0)
            have hnj : j = (o.take j).length := by rw [List.length_take]; omega
            have hnd : o.length - j = (o.drop j).length := by rw [List.length_drop]
            have Hnj := Lib.hid hnj; have Hnd := Lib.hid hnd
            have hl0 : ([] : List ByteArray).length + (o.take j).length ≤ 1000000000 := by rw [← hnj]; simp; omega
            have hl1 : ([] ++ o.take j).length ≤ 1000000000 := by simp; omega
            have hl2 : (([] ++ o.take j) ++ [x]).length + (o.drop j).length ≤ 1000000000 := by simp; omega
            have Hl0 := Lib.hid hl0; have Hl1 := Lib.hid hl1; have Hl2 := Lib.hid hl2
            have HFin : Hid (sortN (V.take (k + 1)) = (([] ++ o.take j) ++ [x]) ++ o.drop j) := Lib.hid (by rw [HN.out, HX'.out]; simp)
            clear hts hbZ hnj hnd hl0 hl1 hl2
            go_wp2_with (first
              | (at_builtin; refine append_strs Z.heap.size rfl _ _ rfl _ [] rfl O0.out (some ⟨q, qo, none⟩) (o.take j) oc _ Hnj.out rfl HT0.out (fun e => by cases e) Hl0.out B0.size B0 ?_; intro v4 w4 hown4 hbel4; have hx4 := (hbel4.cell (p := ⟨p, off + k, none⟩) hpZ).trans hxZ)
              | (at_builtin; refine append_str Z.heap.size rfl _ _ rfl _ ([] ++ o.take j) rfl hown4 _ rfl Hl1.out hbel4.size hbel4 ?_; intro v5 w5 hown5 hbel5 hsz5 _ _)
              | (at_builtin; refine append_strs Z.heap.size rfl _ _ rfl _ (([] ++ o.take j) ++ [x]) rfl hown5 (some ta) (o.drop j) (oc - j) _ Hnd.out rfl (HTs.out.below hbel5) (fun e => by cases e) Hl2.out hsz5 hbel5 ?_; intro v6 w6 hown6 hbel6)
              | (fail "none"))
            refine ⟨⟨k + 1, by omega, by go_num, ?_, ?_, BZw.out.trans (hbel6.mono BZw.out.size)⟩, ?_⟩
            · obtain ⟨g6, c6, e6, _⟩ := hown6.form (by simp; omega)
              exact ⟨_, _, _, e6⟩
            · rw [HFin.out]; exact own_mono hown6 BZw.out.size
            · simp [intOf]; omega
          · have HN' := Lib.hid (HNx.out (HQ.out.trans hn))
            go_wp2_with fail
            refine wp_region_held_drew (S := (fun Z => Below wr.heap.size wr Z ∧ Z.cell? ⟨q, qo + j, none⟩ = some (.string y) ∧ Z.cell? ⟨p, off + k, none⟩ = some (.string x))) (by kernel_rfl) ?_ (fun hHeld => ?_)
            · (try dsimp only)
              exact SK.out _ (by assumption)
            refine wpAnyH_take (i := 0) (oi := { dst := some 14, op := Op.move (Operand.tmp 5), type := 3, pos := "l03_entry.go:89", after := #[], guard := none }) (v := ?_) rfl (by kernel_rfl) (by kernel_rfl) (by kernel_rfl) (fun _ _ _ h => h) (Or.inl ⟨by rfl, ?_⟩) (by assumption) ?_
            rotate_left
            · intro w hSw; (try dsimp only at hSw); go_simp; (try with_reducible rfl)
            (try simp only [Act.put, List.setIfInBounds_toArray, List.set_cons_zero, List.set_cons_succ])
            refine wpAnyH_take (i := 1) (oi := { dst := some 15, op := Op.move (Operand.tmp 3), type := 36, pos := "l03_entry.go:89", after := #[], guard := none }) (v := ?_) rfl (by kernel_rfl) (by kernel_rfl) (by kernel_rfl) (fun _ _ _ h => h) (Or.inl ⟨by rfl, ?_⟩) (by assumption) ?_
            rotate_left
            · intro w hSw; (try dsimp only at hSw); go_simp; (try with_reducible rfl)
            (try simp only [Act.put, List.setIfInBounds_toArray, List.set_cons_zero, List.set_cons_succ])
            refine wpAnyH_take (i := 2) (oi := { dst := some 16, op := Op.call { callee := Callee.builtin Builtin.len, args := #[Operand.tmp 15], argTypes := #[36] }, type := 3, pos := "l03_entry.go:89", after := #[{ on := 1, ground := Ground.data }], guard := none }) (v := ?_) rfl (by kernel_rfl) (by kernel_rfl) (by kernel_rfl) (fun _ _ _ h => h) (Or.inl ⟨by rfl, ?_⟩) (by assumption) ?_
            rotate_left
            · intro w hSw; (try dsimp only at hSw); go_simp; (try with_reducible rfl)
            (try simp only [Act.put, List.setIfInBounds_toArray, List.set_cons_zero, List.set_cons_succ])
            refine wpAnyH_take (i := 3) (oi := { dst := some 17, op := Op.binOp BinOp.lss 3 (Operand.tmp 14) (Operand.tmp 16) 3, type := 4, pos := "l03_entry.go:89", after := #[{ on := 0, ground := Ground.data }, { on := 2, ground := Ground.data }], guard := none }) (v := ?_) rfl (by kernel_rfl) (by kernel_rfl) (by kernel_rfl) (fun _ _ _ h => h) (Or.inl ⟨by rfl, ?_⟩) (by assumption) ?_
            rotate_left
            · intro w hSw; (try dsimp only at hSw); go_simp; (try with_reducible rfl)
            (try simp only [Act.put, List.setIfInBounds_toArray, List.set_cons_zero, List.set_cons_succ])
            refine wpAnyH_take (i := 4) (oi := { dst := some 18, op := Op.move (Operand.tmp 17), type := 4, pos := "l03_entry.go:89", after := #[{ on := 3, ground := Ground.data }], guard := none }) (v := ?_) rfl (by kernel_rfl) (by kernel_rfl) (by kernel_rfl) (fun _ _ _ h => h) (Or.inl ⟨by rfl, ?_⟩) (by assumption) ?_
            rotate_left
            · intro w hSw; (try dsimp only at hSw); go_simp; (try with_reducible rfl)
            (try simp only [Act.put, List.setIfInBounds_toArray, List.set_cons_zero, List.set_cons_succ])
            refine wpAnyH_take (i := 5) (oi := { dst := some 19, op := Op.move (Operand.tmp 3), type := 36, pos := "l03_entry.go:89", after := #[{ on := 4, ground := Ground.guard }], guard := some (4, true) }) (v := ?_) rfl (by kernel_rfl) (by kernel_rfl) (by kernel_rfl) (fun _ _ _ h => h) (Or.inl ⟨by rfl, ?_⟩) (by assumption) ?_
            rotate_left
            · intro w hSw; (try dsimp only at hSw); go_simp; (try with_reducible rfl)
            (try simp only [Act.put, List.setIfInBounds_toArray, List.set_cons_zero, List.set_cons_succ])
            refine wpAnyH_take (i := 6) (oi := { dst := some 20, op := Op.move (Operand.tmp 5), type := 3, pos := "l03_entry.go:89", after := #[{ on := 4, ground := Ground.guard }], guard := some (4, true) }) (v := ?_) rfl (by kernel_rfl) (by kernel_rfl) (by kernel_rfl) (fun _ _ _ h => h) (Or.inl ⟨by rfl, ?_⟩) (by assumption) ?_
            rotate_left
            · intro w hSw; (try dsimp only at hSw); go_simp; (try with_reducible rfl)
            (try simp only [Act.put, List.setIfInBounds_toArray, List.set_cons_zero, List.set_cons_succ])
            refine wpAnyH_take (i := 7) (oi := { dst := some 21, op := Op.indexAddr 36 (Operand.tmp 19) (Operand.tmp 20), type := 0, pos := "l03_entry.go:89", after := #[{ on := 5, ground := Ground.data }, { on := 6, ground := Ground.data }, { on := 4, ground := Ground.guard }], guard := some (4, true) }) (v := ?_) rfl (by kernel_rfl) (by kernel_rfl) (by kernel_rfl) (fun _ _ _ h => h) (Or.inl ⟨by rfl, ?_⟩) (by assumption) ?_
            rotate_left
            · intro w hSw; (try dsimp only at hSw); go_simp; (try with_reducible rfl)
            (try simp only [Act.put, List.setIfInBounds_toArray, List.set_cons_zero, List.set_cons_succ])
            refine wpAnyH_take (i := 8) (oi := { dst := some 22, op := Op.load 9 (Operand.tmp 21), type := 9, pos := "l03_entry.go:89", after := #[{ on := 7, ground := Ground.data }, { on := 4, ground := Ground.guard }], guard := some (4, true) }) (v := ?_) rfl (by kernel_rfl) (by kernel_rfl) (by kernel_rfl) (fun _ _ _ h => h) (Or.inl ⟨by rfl, ?_⟩) (by assumption) ?_
            rotate_left
            · intro w hSw; (try dsimp only at hSw); go_simp; (try with_reducible rfl)
            (try simp only [Act.put, List.setIfInBounds_toArray, List.set_cons_zero, List.set_cons_succ])
            refine wpAnyH_take (i := 10) (oi := { dst := some 24, op := Op.move (Operand.tmp 0), type := 36, pos := "l03_entry.go:89", after := #[{ on := 4, ground := Ground.guard }], guard := some (4, true) }) (v := ?_) rfl (by kernel_rfl) (by kernel_rfl) (by kernel_rfl) (fun _ _ _ h => h) (Or.inl ⟨by rfl, ?_⟩) (by assumption) ?_
            rotate_left
            · intro w hSw; (try dsimp only at hSw); go_simp; (try with_reducible rfl)
            (try simp only [Act.put, List.setIfInBounds_toArray, List.set_cons_zero, List.set_cons_succ])
            refine wpAnyH_take (i := 11) (oi := { dst := some 25, op := Op.move (Operand.tmp 4), type := 3, pos := "l03_entry.go:89", after := #[{ on := 4, ground := Ground.guard }], guard := some (4, true) }) (v := ?_) rfl (by kernel_rfl) (by kernel_rfl) (by kernel_rfl) (fun _ _ _ h => h) (Or.inl ⟨by rfl, ?_⟩) (by assumption) ?_
            rotate_left
            · intro w hSw; (try dsimp only at hSw); go_simp; (try with_reducible rfl)
            (try simp only [Act.put, List.setIfInBounds_toArray, List.set_cons_zero, List.set_cons_succ])
            refine wpAnyH_take (i := 12) (oi := { dst := some 26, op := Op.indexAddr 36 (Operand.tmp 24) (Operand.tmp 25), type := 0, pos := "l03_entry.go:89", after := #[{ on := 10, ground := Ground.data }, { on := 11, ground := Ground.data }, { on := 4, ground := Ground.guard }], guard := some (4, true) }) (v := ?_) rfl (by kernel_rfl) (by kernel_rfl) (by kernel_rfl) (fun _ _ _ h => h) (Or.inl ⟨by rfl, ?_⟩) (by assumption) ?_
            rotate_left
            · intro w hSw; (try dsimp only at hSw); go_simp; (try with_reducible rfl)
            (try simp only [Act.put, List.setIfInBounds_toArray, List.set_cons_zero, List.set_cons_succ])
            refine wpAnyH_take (i := 13) (oi := { dst := some 27, op := Op.load 9 (Operand.tmp 26), type := 9, pos := "l03_entry.go:89", after := #[{ on := 12, ground := Ground.data }, { on := 4, ground := Ground.guard }], guard := some (4, true) }) (v := ?_) rfl (by kernel_rfl) (by kernel_rfl) (by kernel_rfl) (fun _ _ _ h => h) (Or.inl ⟨by rfl, ?_⟩) (by assumption) ?_
            rotate_left
            · intro w hSw; (try dsimp only at hSw); go_simp; (try with_reducible rfl)
            (try simp only [Act.put, List.setIfInBounds_toArray, List.set_cons_zero, List.set_cons_succ])
            refine wpAnyH_ready (rs := [9]) (by kernel_rfl) (by simp) ?_
            refine AllReadyH.cons (o := { dst := some 23, op := Op.call { callee := Callee.value (Operand.func 99), args := #[Operand.tmp 22], argTypes := #[9] }, type := 9, pos := "l03_entry.go:89", after := #[{ on := 8, ground := Ground.data }, { on := 4, ground := Ground.chain }, { on := 4, ground := Ground.guard }], guard := some (4, true) }) rfl (fun K hK => ?_) AllReadyH.nil
            go_simp
            (refine (HN1.out _ (by assumption)).mono ?_; rintro e w7 ⟨rfl, hb7⟩; go_wp2_with fail)
            clear hHeld
            refine hK.out _ _ ?_ (fun hHeld => ?_)
            · (try dsimp only)
              exact SK.out _ (by assumption)
            clear hK K
            (try simp only [Act.put, List.setIfInBounds_toArray, List.set_cons_zero, List.set_cons_succ])
            refine wpAnyH_ready (rs := [14]) (by kernel_rfl) (by simp) ?_
            refine AllReadyH.cons (o := { dst := some 28, op := Op.call { callee := Callee.value (Operand.func 99), args := #[Operand.tmp 27], argTypes := #[9] }, type := 9, pos := "l03_entry.go:89", after := #[{ on := 13, ground := Ground.data }, { on := 9, ground := Ground.chain }, { on := 4, ground := Ground.guard }], guard := some (4, true) }) rfl (fun K hK => ?_) AllReadyH.nil
            go_simp
            (refine (HN2.out _ (by assumption)).mono ?_; rintro e w8 ⟨rfl, hb8⟩; go_wp2_with fail)
            clear hHeld
            refine hK.out _ _ ?_ (fun hHeld => ?_)
            · (try dsimp only)
              exact SK.out _ (by assumption)
            clear hK K
            (try simp only [Act.put, List.setIfInBounds_toArray, List.set_cons_zero, List.set_cons_succ])
            refine wpAnyH_take (i := 15) (oi := { dst := some 29, op := Op.binOp BinOp.lss 9 (Operand.tmp 23) (Operand.tmp 28) 9, type := 4, pos := "l03_entry.go:89", after := #[{ on := 9, ground := Ground.data }, { on := 14, ground := Ground.data }, { on := 4, ground := Ground.guard }], guard := some (4, true) }) (v := ?_) rfl (by kernel_rfl) (by kernel_rfl) (by kernel_rfl) (fun _ _ _ h => h) (Or.inl ⟨by rfl, ?_⟩) (by assumption) ?_
            rotate_left
            · intro w hSw; (try dsimp only at hSw); go_simp; (try with_reducible rfl)
            (try simp only [Act.put, List.setIfInBounds_toArray, List.set_cons_zero, List.set_cons_succ])
            refine wpAnyH_take (i := 16) (oi := { dst := some 30, op := Op.pick (Operand.tmp 18) (Operand.tmp 29) (Operand.const (Value.bool false)), type := 4, pos := "l03_entry.go:89", after := #[{ on := 4, ground := Ground.data }, { on := 15, ground := Ground.data }], guard := none }) (v := ?_) rfl (by kernel_rfl) (by kernel_rfl) (by kernel_rfl) (fun _ _ _ h => h) (Or.inl ⟨by rfl, ?_⟩) (by assumption) ?_
            rotate_left
            · intro w hSw; (try dsimp only at hSw); go_simp; (try with_reducible rfl)
            (try simp only [Act.put, List.setIfInBounds_toArray, List.set_cons_zero, List.set_cons_succ])
            refine wpAnyH_done (by kernel_rfl) ?_ _
            go_wp2
            go_roundw
            case rel => exact ⟨j + 1, by omega, by go_num, HN'.out, hbz.trans (hb8.mono hsz2)⟩
            case measure => simp [intOf]; omega
        · have HX := Lib.hid (insN_at (x := x) (k := j) hj Hlow.out (fun h => absurd h hjl))
          have g2 : ¬ (j : Int) < (o.length : Int) := by omega
          have g2n : decide (j < o.length) = false := by simpa using hjl
          go_wp2_with fail
          refine wp_region_held_drew (S := (fun _ => True)) (by kernel_rfl) ?_ (fun hHeld => ?_)
          · (try dsimp only)
            all_goals trivial
          refine wpAnyH_take (i := 0) (oi := { dst := some 14, op := Op.move (Operand.tmp 5), type := 3, pos := "l03_entry.go:89", after := #[], guard := none }) (v := ?_) rfl (by kernel_rfl) (by kernel_rfl) (by kernel_rfl) (fun _ _ _ h => h) (Or.inl ⟨by rfl, ?_⟩) (by assumption) ?_
          rotate_left
          · intro w hSw; (try dsimp only at hSw); go_simp; (try with_reducible rfl)
          (try simp only [Act.put, List.setIfInBounds_toArray, List.set_cons_zero, List.set_cons_succ])
          refine wpAnyH_take (i := 1) (oi := { dst := some 15, op := Op.move (Operand.tmp 3), type := 36, pos := "l03_entry.go:89", after := #[], guard := none }) (v := ?_) rfl (by kernel_rfl) (by kernel_rfl) (by kernel_rfl) (fun _ _ _ h => h) (Or.inl ⟨by rfl, ?_⟩) (by assumption) ?_
          rotate_left
          · intro w hSw; (try dsimp only at hSw); go_simp; (try with_reducible rfl)
          (try simp only [Act.put, List.setIfInBounds_toArray, List.set_cons_zero, List.set_cons_succ])
          refine wpAnyH_take (i := 2) (oi := { dst := some 16, op := Op.call { callee := Callee.builtin Builtin.len, args := #[Operand.tmp 15], argTypes := #[36] }, type := 3, pos := "l03_entry.go:89", after := #[{ on := 1, ground := Ground.data }], guard := none }) (v := ?_) rfl (by kernel_rfl) (by kernel_rfl) (by kernel_rfl) (fun _ _ _ h => h) (Or.inl ⟨by rfl, ?_⟩) (by assumption) ?_
          rotate_left
          · intro w hSw; (try dsimp only at hSw); go_simp; (try with_reducible rfl)
          (try simp only [Act.put, List.setIfInBounds_toArray, List.set_cons_zero, List.set_cons_succ])
          refine wpAnyH_take (i := 3) (oi := { dst := some 17, op := Op.binOp BinOp.lss 3 (Operand.tmp 14) (Operand.tmp 16) 3, type := 4, pos := "l03_entry.go:89", after := #[{ on := 0, ground := Ground.data }, { on := 2, ground := Ground.data }], guard := none }) (v := ?_) rfl (by kernel_rfl) (by kernel_rfl) (by kernel_rfl) (fun _ _ _ h => h) (Or.inl ⟨by rfl, ?_⟩) (by assumption) ?_
          rotate_left
          · intro w hSw; (try dsimp only at hSw); go_simp; (try with_reducible rfl)
          (try simp only [Act.put, List.setIfInBounds_toArray, List.set_cons_zero, List.set_cons_succ])
          refine wpAnyH_take (i := 4) (oi := { dst := some 18, op := Op.move (Operand.tmp 17), type := 4, pos := "l03_entry.go:89", after := #[{ on := 3, ground := Ground.data }], guard := none }) (v := ?_) rfl (by kernel_rfl) (by kernel_rfl) (by kernel_rfl) (fun _ _ _ h => h) (Or.inl ⟨by rfl, ?_⟩) (by assumption) ?_
          rotate_left
          · intro w hSw; (try dsimp only at hSw); go_simp; (try with_reducible rfl)
          (try simp only [Act.put, List.setIfInBounds_toArray, List.set_cons_zero, List.set_cons_succ])
          refine wpAnyH_take (i := 5) (oi := { dst := some 19, op := Op.move (Operand.tmp 3), type := 36, pos := "l03_entry.go:89", after := #[{ on := 4, ground := Ground.guard }], guard := some (4, true) }) (v := undef) rfl (by kernel_rfl) (by kernel_rfl) (by kernel_rfl) (fun _ _ _ h => h) (Or.inr ⟨by rfl, rfl⟩) (by assumption) ?_
          (try simp only [Act.put, List.setIfInBounds_toArray, List.set_cons_zero, List.set_cons_succ])
          refine wpAnyH_take (i := 6) (oi := { dst := some 20, op := Op.move (Operand.tmp 5), type := 3, pos := "l03_entry.go:89", after := #[{ on := 4, ground := Ground.guard }], guard := some (4, true) }) (v := undef) rfl (by kernel_rfl) (by kernel_rfl) (by kernel_rfl) (fun _ _ _ h => h) (Or.inr ⟨by rfl, rfl⟩) (by assumption) ?_
          (try simp only [Act.put, List.setIfInBounds_toArray, List.set_cons_zero, List.set_cons_succ])
          refine wpAnyH_take (i := 7) (oi := { dst := some 21, op := Op.indexAddr 36 (Operand.tmp 19) (Operand.tmp 20), type := 0, pos := "l03_entry.go:89", after := #[{ on := 5, ground := Ground.data }, { on := 6, ground := Ground.data }, { on := 4, ground := Ground.guard }], guard := some (4, true) }) (v := undef) rfl (by kernel_rfl) (by kernel_rfl) (by kernel_rfl) (fun _ _ _ h => h) (Or.inr ⟨by rfl, rfl⟩) (by assumption) ?_
          (try simp only [Act.put, List.setIfInBounds_toArray, List.set_cons_zero, List.set_cons_succ])
          refine wpAnyH_take (i := 8) (oi := { dst := some 22, op := Op.load 9 (Operand.tmp 21), type := 9, pos := "l03_entry.go:89", after := #[{ on := 7, ground := Ground.data }, { on := 4, ground := Ground.guard }], guard := some (4, true) }) (v := undef) rfl (by kernel_rfl) (by kernel_rfl) (by kernel_rfl) (fun _ _ _ h => h) (Or.inr ⟨by rfl, rfl⟩) (by assumption) ?_
          (try simp only [Act.put, List.setIfInBounds_toArray, List.set_cons_zero, List.set_cons_succ])
          refine wpAnyH_take (i := 9) (oi := { dst := some 23, op := Op.call { callee := Callee.value (Operand.func 99), args := #[Operand.tmp 22], argTypes := #[9] }, type := 9, pos := "l03_entry.go:89", after := #[{ on := 8, ground := Ground.data }, { on := 4, ground := Ground.chain }, { on := 4, ground := Ground.guard }], guard := some (4, true) }) (v := undef) rfl (by kernel_rfl) (by kernel_rfl) (by kernel_rfl) (fun _ _ _ h => h) (Or.inr ⟨by rfl, rfl⟩) (by assumption) ?_
          (try simp only [Act.put, List.setIfInBounds_toArray, List.set_cons_zero, List.set_cons_succ])
          refine wpAnyH_take (i := 10) (oi := { dst := some 24, op := Op.move (Operand.tmp 0), type := 36, pos := "l03_entry.go:89", after := #[{ on := 4, ground := Ground.guard }], guard := some (4, true) }) (v := undef) rfl (by kernel_rfl) (by kernel_rfl) (by kernel_rfl) (fun _ _ _ h => h) (Or.inr ⟨by rfl, rfl⟩) (by assumption) ?_
          (try simp only [Act.put, List.setIfInBounds_toArray, List.set_cons_zero, List.set_cons_succ])
          refine wpAnyH_take (i := 11) (oi := { dst := some 25, op := Op.move (Operand.tmp 4), type := 3, pos := "l03_entry.go:89", after := #[{ on := 4, ground := Ground.guard }], guard := some (4, true) }) (v := undef) rfl (by kernel_rfl) (by kernel_rfl) (by kernel_rfl) (fun _ _ _ h => h) (Or.inr ⟨by rfl, rfl⟩) (by assumption) ?_
          (try simp only [Act.put, List.setIfInBounds_toArray, List.set_cons_zero, List.set_cons_succ])
          refine wpAnyH_take (i := 12) (oi := { dst := some 26, op := Op.indexAddr 36 (Operand.tmp 24) (Operand.tmp 25), type := 0, pos := "l03_entry.go:89", after := #[{ on := 10, ground := Ground.data }, { on := 11, ground := Ground.data }, { on := 4, ground := Ground.guard }], guard := some (4, true) }) (v := undef) rfl (by kernel_rfl) (by kernel_rfl) (by kernel_rfl) (fun _ _ _ h => h) (Or.inr ⟨by rfl, rfl⟩) (by assumption) ?_
          (try simp only [Act.put, List.setIfInBounds_toArray, List.set_cons_zero, List.set_cons_succ])
          refine wpAnyH_take (i := 13) (oi := { dst := some 27, op := Op.load 9 (Operand.tmp 26), type := 9, pos := "l03_entry.go:89", after := #[{ on := 12, ground := Ground.data }, { on := 4, ground := Ground.guard }], guard := some (4, true) }) (v := undef) rfl (by kernel_rfl) (by kernel_rfl) (by kernel_rfl) (fun _ _ _ h => h) (Or.inr ⟨by rfl, rfl⟩) (by assumption) ?_
          (try simp only [Act.put, List.setIfInBounds_toArray, List.set_cons_zero, List.set_cons_succ])
          refine wpAnyH_take (i := 14) (oi := { dst := some 28, op := Op.call { callee := Callee.value (Operand.func 99), args := #[Operand.tmp 27], argTypes := #[9] }, type := 9, pos := "l03_entry.go:89", after := #[{ on := 13, ground := Ground.data }, { on := 9, ground := Ground.chain }, { on := 4, ground := Ground.guard }], guard := some (4, true) }) (v := undef) rfl (by kernel_rfl) (by kernel_rfl) (by kernel_rfl) (fun _ _ _ h => h) (Or.inr ⟨by rfl, rfl⟩) (by assumption) ?_
          (try simp only [Act.put, List.setIfInBounds_toArray, List.set_cons_zero, List.set_cons_succ])
          refine wpAnyH_take (i := 15) (oi := { dst := some 29, op := Op.binOp BinOp.lss 9 (Operand.tmp 23) (Operand.tmp 28) 9, type := 4, pos := "l03_entry.go:89", after := #[{ on := 9, ground := Ground.data }, { on := 14, ground := Ground.data }, { on := 4, ground := Ground.guard }], guard := some (4, true) }) (v := undef) rfl (by kernel_rfl) (by kernel_rfl) (by kernel_rfl) (fun _ _ _ h => h) (Or.inr ⟨by rfl, rfl⟩) (by assumption) ?_
          (try simp only [Act.put, List.setIfInBounds_toArray, List.set_cons_zero, List.set_cons_succ])
          refine wpAnyH_take (i := 16) (oi := { dst := some 30, op := Op.pick (Operand.tmp 18) (Operand.tmp 29) (Operand.const (Value.bool false)), type := 4, pos := "l03_entry.go:89", after := #[{ on := 4, ground := Ground.data }, { on := 15, ground := Ground.data }], guard := none }) (v := ?_) rfl (by kernel_rfl) (by kernel_rfl) (by kernel_rfl) (fun _ _ _ h => h) (Or.inl ⟨by rfl, ?_⟩) (by assumption) ?_
          rotate_left
          · intro w hSw; (try dsimp only at hSw); go_simp; (try with_reducible rfl)
          (try simp only [Act.put, List.setIfInBounds_toArray, List.set_cons_zero, List.set_cons_succ])
          refine wpAnyH_done (by kernel_rfl) ?_ _
          refine then_world (fun Z => Below Y.heap.size Y Z) hbz.drew ?_
          rintro Z hbZ
          have OZ := Lib.hid (own_below HO.out hbZ); have BZw := Lib.hid (HB.out.trans (hbZ.mono HB.out.size)); have hzY := hbZ.size
          have hxZ := (hbZ.cell (p := ⟨p, off + k, none⟩) hp0).trans hd1
          have SZ := Lib.hid (HS.out.below hbZ)
          have hh := head36 oa o.length j oc (by have := HOc.out; omega)
          obtain ⟨ta, hta, hts⟩ := tail36 Y oa o j oc hj HOc.out HS.out
          have HTs := Lib.hid (hts.below hbZ)
          have hpZ : p < Z.heap.size := Nat.lt_of_lt_of_le hp0 hzY
          have B0 := more (Below.refl Z.heap.size Z) (.cells #[] 9)
          have O0 := Lib.hid (own_zero Z (B := Z.heap.size) rfl (Nat.le_refl _))
          have HT0 := Lib.hid ((SZ.out.take j).below B0)
          have hnj : j = (o.take j).length := by rw [List.length_take]; omega
          have hnd : o.length - j = (o.drop j).length := by rw [List.length_drop]
          have Hnj := Lib.hid hnj; have Hnd := Lib.hid hnd
          have hl0 : ([] : List ByteArray).length + (o.take j).length ≤ 1000000000 := by rw [← hnj]; simp; omega
          have hl1 : ([] ++ o.take j).length ≤ 1000000000 := by simp; omega
          have hl2 : (([] ++ o.take j) ++ [x]).length + (o.drop j).length ≤ 1000000000 := by simp; omega
          have Hl0 := Lib.hid hl0; have Hl1 := Lib.hid hl1; have Hl2 := Lib.hid hl2
          have HFin : Hid (sortN (V.take (k + 1)) = (([] ++ o.take j) ++ [x]) ++ o.drop j) := Lib.hid (by rw [HN.out, HX.out]; simp)
          clear hts hbZ hnj hnd hl0 hl1 hl2
          go_wp2_with (first
            | (at_builtin; refine append_strs Z.heap.size rfl _ _ rfl _ [] rfl O0.out (some oa) (o.take j) oc _ Hnj.out rfl HT0.out (fun e => by cases e) Hl0.out B0.size B0 ?_; intro v4 w4 hown4 hbel4; have hx4 := (hbel4.cell (p := ⟨p, off + k, none⟩) hpZ).trans hxZ)
            | (at_builtin; refine append_str Z.heap.size rfl _ _ rfl _ ([] ++ o.take j) rfl hown4 _ rfl Hl1.out hbel4.size hbel4 ?_; intro v5 w5 hown5 hbel5 hsz5 _ _)
            | (at_builtin; refine append_strs Z.heap.size rfl _ _ rfl _ (([] ++ o.take j) ++ [x]) rfl hown5 (some ta) (o.drop j) (oc - j) _ Hnd.out rfl (HTs.out.below hbel5) (fun e => by cases e) Hl2.out hsz5 hbel5 ?_; intro v6 w6 hown6 hbel6)
            | (fail "none"))
          refine ⟨⟨k + 1, by omega, by go_num, ?_, ?_, BZw.out.trans (hbel6.mono BZw.out.size)⟩, ?_⟩
          · obtain ⟨g6, c6, e6, _⟩ := hown6.form (by simp; omega)
            exact ⟨_, _, _, e6⟩
          · rw [HFin.out]; exact own_mono hown6 BZw.out.size
          · simp [intOf]; omega
    · obtain rfl : k = V.length := by omega
      have HO : Hid (Y.ownsRow w.heap.size 9 1 (.slice (some oa) on oc) (sortN V).length (ss (sortN V))) := Lib.hid (by have h := hown; rw [List.take_length] at h; exact h)
      clear hown
      go_wp2
      go_ret
      exact ⟨⟨_, rfl, HO.out⟩, hbel⟩
end Go.Proofs.YtjajpdghamecoaaGreat
/- Texts of different norms have one order only. -/
namespace Go.Proofs.YtjajpdghamecoaaGreat
open Go.RowKit

theorem normLt_irrefl (a : ByteArray) : normLt a a = false := less_irrefl _
theorem normLt_trans (a b c : ByteArray) (h1 : normLt a b = true) (h2 : normLt b c = true) : normLt a c = true := less_trans _ _ _ h1 h2
theorem normLt_total {a b : ByteArray} (h : normEq a b = false) (h1 : normLt a b = false) : normLt b a = true := by
  unfold normLt at *
  refine less_total _ _ (fun e => ?_) h1
  unfold normEq at h
  rw [e] at h; simp at h
theorem normEq_symm {a b : ByteArray} (h : normEq a b = false) : normEq b a = false := by
  unfold normEq at *
  rw [beq_eq_false_iff_ne] at *
  exact fun e => h e.symm
/-- no two have one norm -/
def Diff (V : List ByteArray) : Prop := V.Pairwise fun a b => normEq a b = false
theorem Diff.perm {V L : List ByteArray} (h : Diff V) (hp : L.Perm V) : Diff L := hp.symm.pairwise h (fun h => normEq_symm h)
theorem incB_norm {L : List ByteArray} (h : L.Pairwise fun a b => normLt a b = true) : incB normLt L = true :=
  incB_yes fun i hi => (List.pairwise_iff_getElem.1 h) i (i + 1) (by omega) hi (by omega)
theorem incB_pair {L : List ByteArray} (h : incB normLt L = true) : L.Pairwise fun a b => normLt a b = true := by
  rw [List.pairwise_iff_getElem]
  exact fun i j hi hj hij => inc_far normLt_trans h i j hi hj hij
theorem asc_inc {L : List ByteArray} (ha : Asc normLt L L.length) (hd : Diff L) : incB normLt L = true :=
  incB_yes fun i hi => normLt_total (normEq_symm ((List.pairwise_iff_getElem.1 hd) i (i + 1) (by omega) hi (by omega))) (ha i hi hi)
theorem dropWhile_ge {x : ByteArray} : ∀ {o : List ByteArray}, (o.Pairwise fun a b => normLt a b = true) → (∀ y ∈ o, normEq y x = false) → ∀ y ∈ o.dropWhile (fun y => normLt y x), normLt x y = true
  | [], _, _ => by simp
  | z :: o, hp, hd => by
    rw [List.dropWhile_cons]
    cases hz : normLt z x with
    | true => simp; exact fun y hy => dropWhile_ge (List.pairwise_cons.1 hp).2 (fun y hy => hd y (by simp [hy])) y hy
    | false =>
      simp
      have h1 := normLt_total (hd z (by simp)) hz
      exact ⟨h1, fun y hy => normLt_trans _ _ _ h1 ((List.pairwise_cons.1 hp).1 y hy)⟩
theorem takeWhile_lt {x : ByteArray} : ∀ {o : List ByteArray}, ∀ y ∈ o.takeWhile (fun y => normLt y x), normLt y x = true
  | [] => by simp
  | z :: o => by
    rw [List.takeWhile_cons]
    cases hz : normLt z x with
    | true => simp; exact ⟨hz, fun y hy => takeWhile_lt y hy⟩
    | false => simp
theorem insN_inc {x : ByteArray} {o : List ByteArray} (hp : o.Pairwise fun a b => normLt a b = true) (hd : ∀ y ∈ o, normEq y x = false) : (insN x o).Pairwise fun a b => normLt a b = true := by
  unfold insN
  rw [List.pairwise_append, List.pairwise_cons]
  refine ⟨hp.sublist (List.takeWhile_sublist _), ⟨fun y hy => dropWhile_ge hp hd y hy, hp.sublist (List.dropWhile_sublist _)⟩, fun a ha b hb => ?_⟩
  have h1 := takeWhile_lt a ha
  rcases List.mem_cons.1 hb with rfl | hb
  · exact h1
  · exact normLt_trans _ _ _ h1 (dropWhile_ge hp hd b hb)
theorem sortN_inc {V : List ByteArray} (h : Diff V) : (sortN V).Pairwise fun a b => normLt a b = true := by
  revert h
  refine snoc_rec (P := fun V => Diff V → (sortN V).Pairwise fun a b => normLt a b = true) (fun _ => List.Pairwise.nil) (fun l a ih h => ?_) V
  unfold Diff at h
  rw [List.pairwise_append] at h
  rw [sortN_snoc]
  exact insN_inc (ih h.1) (fun y hy => h.2.2 y ((sortN_perm l).mem_iff.1 hy) a (by simp))
theorem sorted_is {V L : List ByteArray} (hp : L.Perm V) (ha : Asc normLt L L.length) (hd : Diff V) : L = sortN V :=
  inc_unique normLt_irrefl normLt_trans (asc_inc ha (hd.perm hp)) (incB_norm (sortN_inc hd)) (hp.trans (sortN_perm V).symm)
theorem inc_diff {V : List ByteArray} (h : incB normLt V = true) : Diff V := by
  refine (incB_pair h).imp fun {a b} hab => ?_
  cases he : normEq a b with
  | false => rfl
  | true =>
    unfold normEq at he; unfold normLt at hab
    rw [beq_iff_eq] at he
    rw [he, less_irrefl] at hab; cases hab
end Go.Proofs.YtjajpdghamecoaaGreat
/- ValueAdd: small pieces of the specification, and that the new values differ. -/
namespace Go.Proofs.YtjajpdghamecoaaGreat
open Go.RowKit
attribute [local go_sem ↓] Go.wp_at_zero Go.wp_at_succ

theorem findI_miss {α : Type} {p : α → Bool} {l : List α} (h : findI p l < 0) : ∀ a ∈ l, p a = false := by
  unfold findI at h
  cases hf : l.findIdx? p with
  | none =>
    rw [List.findIdx?_eq_none_iff] at hf
    exact fun a ha => hf a ha
  | some i => rw [hf] at h; simp at h; omega
theorem vals_inc {d : RdnL} {l : List AttrV} (h : rightB d l = true) (nm : ByteArray) : incB normLt (valsOf l nm) = true := by
  cases ha : atN l nm with
  | none => rw [(atN_none ha).2]; exact incB_yes fun i hi => by simp at hi
  | some i =>
    obtain ⟨hi, _, h2, _⟩ := atN_some ha
    rw [h2]
    unfold rightB attrsB at h
    simp only [Bool.and_eq_true, List.all_eq_true] at h
    have := h.2.1.2 _ (List.getElem_mem hi)
    unfold attrB valsB at this
    simp only [Bool.and_eq_true] at this
    exact this.2.2
/-- the values and one more of another norm -/
theorem add_diff {d : RdnL} {l : List AttrV} {nm val : ByteArray} (hr : rightB d l = true) (h : findI (likeV val) (attrOfL d l nm) < 0) : Diff (attrOfL d l nm ++ [val]) := by
  unfold Diff
  rw [List.pairwise_append]
  refine ⟨?_, by simp, fun a ha b hb => ?_⟩
  · rw [attrOf_yes hr]; exact inc_diff (vals_inc hr nm)
  · simp at hb; subst hb; exact findI_miss h a ha
set_option maxRecDepth 100000 in
set_option maxHeartbeats 400000 in
theorem l03Long_any (a b : ByteArray) (w : World) (ha : a.size ≤ maxLen) (hb : b.size ≤ maxLen) :
    Calls Tryz.prog 53 #[.string a, .string b] w fun e w' => e = .returned (.bool (decide (8000 < a.size) || decide (8000 < b.size))) ∧ w = w' := by
  unfold maxLen at ha hb
  by_cases h1 : 8000 < a.size
  · have g : 8000 < (a.size : Int) := by omega
    have HE : Hid ((decide (8000 < a.size) || decide (8000 < b.size)) = true) := Lib.hid (by simp [h1])
    go_enter Tryz.func53, Tryz.ntmps53
    go_wp2
    go_ret
    first | exact ⟨rfl, rfl⟩ | exact ⟨ret_bool HE.out.symm, rfl⟩
  · have g : ¬ 8000 < (a.size : Int) := by omega
    by_cases h2 : 8000 < b.size
    · have g' : 8000 < (b.size : Int) := by omega
      have HE : Hid ((decide (8000 < a.size) || decide (8000 < b.size)) = true) := Lib.hid (by simp [h2])
      go_enter Tryz.func53, Tryz.ntmps53
      go_wp2
      go_ret
      first | exact ⟨rfl, rfl⟩ | exact ⟨ret_bool HE.out.symm, rfl⟩
    · have g' : ¬ 8000 < (b.size : Int) := by omega
      have HE : Hid ((decide (8000 < a.size) || decide (8000 < b.size)) = false) := Lib.hid (by simp [h1, h2])
      go_enter Tryz.func53, Tryz.ntmps53
      go_wp2
      go_ret
      first | exact ⟨rfl, rfl⟩ | exact ⟨ret_bool HE.out.symm, rfl⟩
set_option maxRecDepth 100000 in
set_option maxHeartbeats 400000 in
theorem l03Ill_any (c : Int) (w : World) : Calls Tryz.prog 54 #[.int .i64 c] w fun e w' => e = .returned (failV c) ∧ Below w.heap.size w w' := by
  go_enter Tryz.func54, Tryz.ntmps54
  go_wp2_with fail
  exact bodyPost_ret (v := failV c) (by simp [results, Tryz.results54, go_sem, failV]) rfl ⟨rfl, more (Below.refl _ _) _⟩
end Go.Proofs.YtjajpdghamecoaaGreat
/- A region that draws its order, where a cell that is loaded is stored anew at its end: the load may be taken first, because the store waits for what waits for the load. -/
namespace Go.Proofs.YtjajpdghamecoaaGreat
open Go Go.RowKit

section
variable {P : Program} {ops : Array Oper} {Q : Exit → Act → World → Prop} {md : Region.Mode} {S S' : World → Prop} {k : Nat}
/-- what is to hold behind an operation: S, and S' as long as number k has not come up -/
def Until (S S' : World → Prop) (k : Nat) (listed : Array Bool) (w : World) : Prop := S w ∧ (listed.getD k true = false → S' w)
def wpAnyL (P : Program) (md : Region.Mode) (ops : Array Oper) (Q : Exit → Act → World → Prop) (S S' : World → Prop) (k : Nat) : Nat → Array Bool → Act → World → Prop
  | 0, listed, a, w => Region.ready md ops listed = [] ∧ Q .normal a w
  | fuel + 1, listed, a, w =>
    (Region.ready md ops listed = [] → Q .normal a w) ∧
    ∀ i ∈ Region.ready md ops listed, wpOp P ops Q i (fun a' w' => Until S S' k (listed.setIfInBounds i true) w' ∧ wpAnyL P md ops Q S S' k fuel (listed.setIfInBounds i true) a' w') a w
theorem wpAny_of_until : ∀ (fuel : Nat) (listed : Array Bool) (a : Act) (w : World), wpAnyL P md ops Q S S' k fuel listed a w → wpAny P md ops Q fuel listed a w
  | 0, _, _, _, h => h
  | fuel + 1, _, _, _, h => ⟨h.1, fun i hi => wpOp_mono (fun a' w' h' => wpAny_of_until fuel _ a' w' h'.2) (h.2 i hi)⟩
theorem Until.step {listed : Array Bool} {i j : Nat} {w : World} (hki : i ≠ k) (h : Until S S' k ((listed.setIfInBounds i true).setIfInBounds j true) w) : Until S S' k (listed.setIfInBounds j true) w := by
  refine ⟨h.1, fun hk => h.2 ?_⟩
  by_cases hji : i = j
  · subst hji
    rw [getD_set_ne true hki] at hk ⊢
    rw [getD_set_ne true hki]; exact hk
  · rw [Array.setIfInBounds_comm _ _ hji, getD_set_ne true hki]; exact hk
/-- an operation that yields in every world that meets R is taken first; R is known behind each operation that may come before it -/
theorem wpAnyL_first {R : World → Prop} {i : Nat} {oi : Oper} {v : Value} (hi : ops[i]? = some oi) (hki : i ≠ k) (hsel : ∀ (j : Nat) (o : Oper) cs b, ops[j]? = some o → o.op ≠ .select cs b)
    (hQ : ∀ c a w, Q (.panic c) (a.put oi.dst v) w → Q (.panic c) a w) (I : Array Bool → Prop)
    (hI : ∀ (listed : Array Bool) (j : Nat), listed.getD i true = false → I listed → j ∈ Region.ready md ops listed → j ≠ i → I (listed.setIfInBounds j true) ∧ ∀ w, Until S S' k (listed.setIfInBounds j true) w → R w) :
    ∀ (fuel : Nat) (listed : Array Bool) (a : Act) (w : World), I listed →
      (∀ j oj, ops[j]? = some oj → j ≠ i → listed.getD j true = false → (∀ e ∈ oj.after, Region.binds md e = true → e.on ≠ i) → oi.apart ops oj = true) →
      i ∈ Region.ready md ops listed → YieldsIf P ops R oi v a → R w → Until S S' k (listed.setIfInBounds i true) w →
      wpAnyL P md ops Q S S' k fuel (listed.setIfInBounds i true) (a.put oi.dst v) w → wpAnyL P md ops Q S S' k (fuel + 1) listed a w := by
  intro fuel
  induction fuel with
  | zero =>
    intro listed a w _ _ hr hy hR hS H
    refine ⟨fun h => (by rw [h] at hr; cases hr), fun j hj => ?_⟩
    by_cases hji : j = i
    · subst hji; exact hy.wpOp hi hR ⟨hS, H⟩
    · have := ready_mono hj hji
      rw [H.1] at this
      cases this
  | succ fuel ih =>
    intro listed a w hIl hfree hr hy hR hS H
    refine ⟨fun h => (by rw [h] at hr; cases hr), fun j hj => ?_⟩
    by_cases hji : j = i
    · subst hji; exact hy.wpOp hi hR ⟨hS, H⟩
    · have h1 := H.2 j (ready_mono hj hji)
      obtain ⟨hjun, oj, hoj, hall⟩ := mem_ready.1 hj
      have hnot : ∀ e ∈ oj.after, Region.binds md e = true → e.on ≠ i := fun e he hb heq => by
        have h1 := hall e he hb
        have h0 := (mem_ready.1 hr).1
        rw [heq] at h1
        rcases Nat.lt_or_ge i listed.size with h' | h'
        · simp [h'] at h0 h1; rw [h0] at h1; cases h1
        · simp [Array.getElem?_eq_none h'] at h1
      have h2 := wpOp_putIf hoj (hfree j oj hoj hji hjun hnot) (fun cs b => hsel i oi cs b hi) (fun cs b => hsel j oj cs b hoj) hQ hy h1
      have hfree' : ∀ k ok, ops[k]? = some ok → k ≠ i → (listed.setIfInBounds j true).getD k true = false →
          (∀ e ∈ ok.after, Region.binds md e = true → e.on ≠ i) → oi.apart ops ok = true := fun k ok hk hki hun hno => by
        refine hfree k ok hk hki ?_ hno
        by_cases hjk : j = k
        · subst hjk; exact hjun
        · rw [getD_set_ne true hjk] at hun; exact hun
      obtain ⟨hI', hRk⟩ := hI listed j (mem_ready.1 hr).1 hIl hj hji
      refine wpOp_mono (fun a' w' h3 => ?_) h2
      have hU := h3.2.1
      have hU' := hU.step hki
      refine ⟨hU', ih (listed.setIfInBounds j true) a' w' hI' hfree' (ready_mono hr (Ne.symm hji)) h3.1 (hRk w' hU') ?_ ?_⟩
      · rw [Array.setIfInBounds_comm _ _ hji]; exact hU
      · rw [Array.setIfInBounds_comm _ _ hji]; exact h3.2.2
/-- take number i first: it yields in every world that meets S -/
theorem wpAnyL_take {i : Nat} {oi : Oper} {v : Value} {fuel : Nat} {listed : Array Bool} {a : Act} {w : World} (hi : ops[i]? = some oi) (hki : i ≠ k)
    (hs : Region.noSelect ops = true) (hf : Region.free md ops listed i = true) (hr : (Region.ready md ops listed).contains i = true)
    (hQ : ∀ c a w, Q (.panic c) (a.put oi.dst v) w → Q (.panic c) a w) (hy : YieldsIf P ops S oi v a) (hS : Until S S' k listed w)
    (h : Until S S' k (listed.setIfInBounds i true) w → wpAnyL P md ops Q S S' k fuel (listed.setIfInBounds i true) (a.put oi.dst v) w) : wpAnyL P md ops Q S S' k (fuel + 1) listed a w := by
  have hU : Until S S' k (listed.setIfInBounds i true) w := ⟨hS.1, fun hk => hS.2 (by rw [getD_set_ne true hki] at hk; exact hk)⟩
  exact wpAnyL_first (R := S) hi hki (Region.noSelect_spec hs) hQ (fun _ => True) (fun _ _ _ _ _ _ => ⟨trivial, fun _ h => h.1⟩) fuel listed a w trivial (Region.free_spec hi hf) (by simpa using hr) hy hS.1 hU (h hU)
/-- take number i first: it yields in every world that meets S'; number m waits for it, and number k for m -/
theorem wpAnyL_load {i m : Nat} {oi om ok : Oper} {v : Value} {fuel : Nat} {listed : Array Bool} {a : Act} {w : World} (hi : ops[i]? = some oi) (hki : i ≠ k)
    (hs : Region.noSelect ops = true) (hf : Region.free md ops listed i = true) (hr : (Region.ready md ops listed).contains i = true)
    (hom : ops[m]? = some om) (hok : ops[k]? = some ok) (hmi : om.after.any (fun e => Region.binds md e && (e.on == i)) = true) (hkm : ok.after.any (fun e => Region.binds md e && (e.on == m)) = true)
    (hlm : listed.getD m true = false) (hlk : listed.getD k true = false)
    (hQ : ∀ c a w, Q (.panic c) (a.put oi.dst v) w → Q (.panic c) a w) (hy : YieldsIf P ops S' oi v a) (hS : Until S S' k listed w)
    (h : Until S S' k (listed.setIfInBounds i true) w → wpAnyL P md ops Q S S' k fuel (listed.setIfInBounds i true) (a.put oi.dst v) w) : wpAnyL P md ops Q S S' k (fuel + 1) listed a w := by
  have hU : Until S S' k (listed.setIfInBounds i true) w := ⟨hS.1, fun hk => hS.2 (by rw [getD_set_ne true hki] at hk; exact hk)⟩
  have waits : ∀ {x y : Nat} {ox : Oper} {listed : Array Bool}, ops[x]? = some ox → ox.after.any (fun e => Region.binds md e && (e.on == y)) = true → listed.getD y true = false → x ∉ Region.ready md ops listed := by
    intro x y ox L hx ha hy hr
    obtain ⟨_, o, ho, hall⟩ := mem_ready.1 hr
    rw [hx] at ho
    cases ho
    obtain ⟨e, he, hb⟩ := Array.any_eq_true'.1 ha
    simp only [Bool.and_eq_true, beq_iff_eq] at hb
    have := hall e he hb.1
    rw [hb.2] at this
    rcases Nat.lt_or_ge y L.size with h' | h'
    · simp [h'] at this hy; rw [hy] at this; cases this
    · simp [Array.getElem?_eq_none h'] at this
  refine wpAnyL_first (R := S') hi hki (Region.noSelect_spec hs) hQ (fun L => L.getD m true = false ∧ L.getD k true = false) ?_ fuel listed a w ⟨hlm, hlk⟩ (Region.free_spec hi hf) (by simpa using hr) hy (hS.2 hlk) hU (h hU)
  intro L j hLi ⟨h1, h2⟩ hj hji
  have hjm : j ≠ m := fun e => waits hom hmi hLi (e ▸ hj)
  have hjk : j ≠ k := fun e => waits hok hkm h1 (e ▸ hj)
  refine ⟨⟨by rw [getD_set_ne true hjm]; exact h1, by rw [getD_set_ne true hjk]; exact h2⟩, fun w hw => hw.2 (by rw [getD_set_ne true hjk]; exact h2)⟩
theorem wpAnyL_done {listed : Array Bool} {a : Act} {w : World} (hr : Region.ready md ops listed = []) (h : Q .normal a w) :
    ∀ fuel, wpAnyL P md ops Q S S' k fuel listed a w
  | 0 => ⟨hr, h⟩
  | _ + 1 => ⟨fun _ => h, by rw [hr]; simp⟩
/-- the one operation that may come up comes up -/
theorem wpAnyL_only {i : Nat} {o : Oper} {fuel : Nat} {listed : Array Bool} {a : Act} {w : World} (hr : Region.ready md ops listed = [i]) (ho : ops[i]? = some o)
    (h : ∀ K' : Act → World → Prop, Shut (∀ a w, Until S S' k (listed.setIfInBounds i true) w → (Until S S' k (listed.setIfInBounds i true) w → wpAnyL P md ops Q S S' k fuel (listed.setIfInBounds i true) a w) → K' a w) → if Region.wanted o (yielded ops a.tmps) = true then Oper.wp P o a w K' Q else K' (a.put o.dst undef) w) :
    wpAnyL P md ops Q S S' k (fuel + 1) listed a w := by
  refine ⟨fun h0 => (by rw [hr] at h0; cases h0), fun j hj => ?_⟩
  rw [hr] at hj
  simp at hj
  subst hj
  exact wpOp_step ho (fun K' hK => h K' (fun a w hS hW => hK a w ⟨hS, hW hS⟩))
theorem wp_region_until (S S' : World → Prop) (k : Nat) {id : Nat} {a : Act} {w : World} (hm : P.follows .mixedOrders = true) (hS : S w.drew) (hS' : S' w.drew)
    (h : Until S S' k (Array.replicate ops.size false) w.drew → wpAnyL P .any ops Q S S' k ops.size (Array.replicate ops.size false) a w.drew) : (Code.region id ops true).wp P Q a w :=
  wp_region_any hm (wpAny_of_until _ _ _ _ (h ⟨hS, fun _ => hS'⟩))
end
end Go.Proofs.YtjajpdghamecoaaGreat
/- An attribute is set by one walk over attributes in order: plain facts. -/
namespace Go.Proofs.YtjajpdghamecoaaGreat
open Go.RowKit

section
variable (T : List AttrV) (nm : ByteArray) (X : List ByteArray)
/-- the new attribute has been laid (or there is none to lay) -/
def doneB (i : Nat) : Bool := decide (X = []) || (T.take i).any (fun a => !nameLt a (nm, X))
/-- what has been laid -/
def accL (i : Nat) : List AttrV := if doneB T nm X i = true then setL (T.take i) nm X else T.take i
variable {T nm X}
theorem setL_snoc (L : List AttrV) (a : AttrV) : setL (L ++ [a]) nm X = (L.filter (fun b => nameLt b (nm, X)) ++ if nameLt a (nm, X) = true then [a] else []) ++ (if X = [] then [] else [(nm, X)]) ++ (L.filter (fun b => nameLt (nm, X) b) ++ if nameLt (nm, X) a = true then [a] else []) := by
  unfold setL
  rw [List.filter_append, List.filter_append]
  congr 2
  · congr 2
    simp only [List.filter_cons, List.filter_nil]
  · congr 1
    simp only [List.filter_cons, List.filter_nil]
theorem not_done {i : Nat} (h : doneB T nm X i = false) : X ≠ [] ∧ ∀ a ∈ T.take i, nameLt a (nm, X) = true := by
  unfold doneB at h
  rw [Bool.or_eq_false_iff] at h
  refine ⟨by simpa using h.1, fun a ha => ?_⟩
  have := List.any_eq_false.1 h.2 a ha
  simpa using this
theorem done_succ (i : Nat) (hi : i < T.length) : doneB T nm X (i + 1) = (doneB T nm X i || !nameLt T[i] (nm, X)) := by
  unfold doneB
  rw [List.take_succ_eq_append_getElem hi, List.any_append, Bool.or_assoc]
  simp
theorem filter_lt {i : Nat} (h : ∀ a ∈ T.take i, nameLt a (nm, X) = true) : (T.take i).filter (fun b => nameLt b (nm, X)) = T.take i ∧ (T.take i).filter (fun b => nameLt (nm, X) b) = [] := by
  refine ⟨List.filter_eq_self.2 h, List.filter_eq_nil_iff.2 fun a ha hb => ?_⟩
  have := nameLt_trans _ _ _ (h a ha) hb
  rw [nameLt_irrefl] at this; cases this
theorem lt_not {a b : AttrV} (h : nameLt a b = true) : nameLt b a = false := by
  cases h1 : nameLt b a with
  | false => rfl
  | true =>
    have := nameLt_trans _ _ _ h h1
    rw [nameLt_irrefl] at this; cases this
theorem same_not {a : AttrV} (h : a.1 = nm) : nameLt a (nm, X) = false ∧ nameLt (nm, X) a = false := by
  unfold nameLt; simp only; rw [h, less_irrefl]; exact ⟨rfl, rfl⟩
theorem acc_a {i : Nat} (hi : i < T.length) (hd : doneB T nm X i = false) (h : nameLt (nm, X) T[i] = true) : accL T nm X (i + 1) = accL T nm X i ++ [(nm, X)] ++ [T[i]] ∧ doneB T nm X (i + 1) = true := by
  have h1 := lt_not h
  have hd' : doneB T nm X (i + 1) = true := by rw [done_succ i hi, h1]; simp
  refine ⟨?_, hd'⟩
  obtain ⟨hX, hA⟩ := not_done hd
  obtain ⟨f1, f2⟩ := filter_lt hA
  unfold accL
  rw [if_pos hd', if_neg (by rw [hd]; simp), List.take_succ_eq_append_getElem hi, setL_snoc, f1, f2, h1, h, if_neg hX]
  simp
theorem acc_b {i : Nat} (hi : i < T.length) (hd : doneB T nm X i = false) (h : T[i].1 = nm) : accL T nm X (i + 1) = accL T nm X i ++ [(nm, X)] ∧ doneB T nm X (i + 1) = true := by
  obtain ⟨h1, h2⟩ := same_not (X := X) h
  have hd' : doneB T nm X (i + 1) = true := by rw [done_succ i hi, h1]; simp
  refine ⟨?_, hd'⟩
  obtain ⟨hX, hA⟩ := not_done hd
  obtain ⟨f1, f2⟩ := filter_lt hA
  unfold accL
  rw [if_pos hd', if_neg (by rw [hd]; simp), List.take_succ_eq_append_getElem hi, setL_snoc, f1, f2, h1, h2, if_neg hX]
  simp
theorem acc_c {i : Nat} (hi : i < T.length) (hd : doneB T nm X i = false) (h : nameLt (nm, X) T[i] = false) (hn : T[i].1 ≠ nm) : accL T nm X (i + 1) = accL T nm X i ++ [T[i]] ∧ doneB T nm X (i + 1) = false := by
  have h1 : nameLt T[i] (nm, X) = true := by
    rcases nameLt_total (a := T[i]) (b := (nm, X)) hn with h' | h'
    · exact h'
    · rw [h] at h'; cases h'
  have hd' : doneB T nm X (i + 1) = false := by rw [done_succ i hi, h1, hd]; rfl
  refine ⟨?_, hd'⟩
  unfold accL
  rw [if_neg (by rw [hd']; simp), if_neg (by rw [hd]; simp), List.take_succ_eq_append_getElem hi]
theorem acc_d {i : Nat} (hi : i < T.length) (hd : doneB T nm X i = true) (h : T[i].1 = nm) : accL T nm X (i + 1) = accL T nm X i ∧ doneB T nm X (i + 1) = true := by
  obtain ⟨h1, h2⟩ := same_not (X := X) h
  have hd' : doneB T nm X (i + 1) = true := by rw [done_succ i hi, hd]; rfl
  refine ⟨?_, hd'⟩
  unfold accL
  rw [if_pos hd', if_pos hd, List.take_succ_eq_append_getElem hi, setL_snoc, h1, h2]
  unfold setL
  simp
theorem acc_e {i : Nat} (hs : incB nameLt T = true) (hi : i < T.length) (hd : doneB T nm X i = true) (hn : T[i].1 ≠ nm) : accL T nm X (i + 1) = accL T nm X i ++ [T[i]] ∧ doneB T nm X (i + 1) = true := by
  have hd' : doneB T nm X (i + 1) = true := by rw [done_succ i hi, hd]; rfl
  refine ⟨?_, hd'⟩
  have hp : ∀ a ∈ T.take i, nameLt a T[i] = true := fun a ha => by
    obtain ⟨j, hj, rfl⟩ := List.getElem_of_mem ha
    rw [List.length_take] at hj
    rw [List.getElem_take]
    exact inc_far nameLt_trans hs j i (by omega) hi (by omega)
  unfold accL
  rw [if_pos hd', if_pos hd, List.take_succ_eq_append_getElem hi, setL_snoc]
  rcases nameLt_total (a := T[i]) (b := (nm, X)) hn with h | h
  · have hA : ∀ a ∈ T.take i, nameLt a (nm, X) = true := fun a ha => nameLt_trans _ _ _ (hp a ha) h
    have hX : X = [] := by
      unfold doneB at hd
      rw [Bool.or_eq_true] at hd
      rcases hd with hd | hd
      · simpa using hd
      · obtain ⟨a, ha, hb⟩ := List.any_eq_true.1 hd
        rw [hA a ha] at hb; cases hb
    obtain ⟨f1, f2⟩ := filter_lt hA
    unfold setL
    rw [f1, f2, h, lt_not h, if_pos hX]
    simp
  · unfold setL
    rw [h, lt_not h]
    simp
theorem acc_end1 (hd : doneB T nm X T.length = true) : accL T nm X T.length = setL T nm X := by
  unfold accL; rw [if_pos hd, List.take_length]
theorem acc_end0 (hd : doneB T nm X T.length = false) : accL T nm X T.length ++ [(nm, X)] = setL T nm X := by
  obtain ⟨hX, hA⟩ := not_done hd
  obtain ⟨f1, f2⟩ := filter_lt hA
  unfold accL; rw [if_neg (by rw [hd]; simp)]
  rw [List.take_length] at f1 f2 ⊢
  unfold setL
  rw [f1, f2, if_neg hX]; simp
theorem acc_zero : accL T nm X 0 = [] ∧ doneB T nm X 0 = decide (X = []) := by
  have h : doneB T nm X 0 = decide (X = []) := by unfold doneB; simp
  refine ⟨?_, h⟩
  unfold accL
  split
  · rename_i h1
    rw [h] at h1
    unfold setL; simp at h1; simp [h1]
  · simp
theorem acc_len (i : Nat) : (accL T nm X i).length ≤ T.length + 1 := by
  unfold accL
  split
  · have := setL_len (T.take i) nm X
    rw [List.length_take] at this; omega
  · rw [List.length_take]; omega
end
/-- pairs stand for attributes, their texts in rows of their own -/
def LaidV (w : World) (B : Nat) (P : List PairV) (A : List AttrV) : Prop := P.length = A.length ∧ ∀ i (h : i < A.length) (h' : i < P.length), P[i].1 = A[i].1 ∧ IsSl P[i].2 ∧ w.ownsRow B 9 1 P[i].2 A[i].2.length (ss A[i].2)
theorem LaidV.below {w w' : World} {B : Nat} {P : List PairV} {A : List AttrV} (h : LaidV w B P A) (hb : Below w.heap.size w w') : LaidV w' B P A :=
  ⟨h.1, fun i a b => by obtain ⟨q1, q2, q3⟩ := h.2 i a b; exact ⟨q1, q2, own_below q3 hb⟩⟩
theorem LaidV.mono {w : World} {B B' : Nat} {P : List PairV} {A : List AttrV} (h : LaidV w B P A) (hB : B' ≤ B) : LaidV w B' P A :=
  ⟨h.1, fun i a b => by obtain ⟨q1, q2, q3⟩ := h.2 i a b; exact ⟨q1, q2, own_mono q3 hB⟩⟩
theorem LaidV.far {w w' : World} {B B' m : Nat} {P : List PairV} {A : List AttrV} {v : Value} {ys : List Value} (h : LaidV w B P A) (hv : w.ownsRow B' 48 2 v m ys) (hg : w.grownBy w' v.ownBlock) : LaidV w' B P A :=
  ⟨h.1, fun i a b => by obtain ⟨q1, q2, q3⟩ := h.2 i a b; exact ⟨q1, q2, own_far q3 hv hg⟩⟩
theorem LaidV.cellOut {w : World} {B R j : Nat} {x : Value} {P : List PairV} {A : List AttrV} (h : LaidV w B P A) (hR : R < B) : LaidV (w.setCell ⟨R, j, none⟩ x) B P A :=
  ⟨h.1, fun i a b => by obtain ⟨q1, q2, q3⟩ := h.2 i a b; exact ⟨q1, q2, own_cellOut q3 hR⟩⟩
theorem LaidV.snoc {w : World} {B : Nat} {P : List PairV} {A : List AttrV} (h : LaidV w B P A) {a : AttrV} {v : Value} (hs : IsSl v) (ho : w.ownsRow B 9 1 v a.2.length (ss a.2)) : LaidV w B (P ++ [(a.1, v)]) (A ++ [a]) := by
  refine ⟨by simp [h.1], fun i p q => ?_⟩
  by_cases e : i < A.length
  · obtain ⟨q1, q2, q3⟩ := h.2 i e (by rw [h.1]; exact e)
    rw [List.getElem_append_left e, List.getElem_append_left (by rw [h.1]; exact e)]
    exact ⟨q1, q2, q3⟩
  · have e' : i = A.length := by simp at p; omega
    subst e'
    have e2 : (A ++ [a])[A.length] = a := by simp
    have e3 : (P ++ [(a.1, v)])[A.length] = (a.1, v) := by
      rw [List.getElem_append_right (by rw [h.1]; exact Nat.le_refl _)]; simp [h.1]
    rw [e2, e3]
    exact ⟨rfl, hs, ho⟩
/-- attributes in a row of the call's own -/
def AttrsRow (w : World) (B : Nat) (v : Value) (A : List AttrV) : Prop := ∃ P : List PairV, w.ownsRow B 48 2 v A.length (ps P) ∧ LaidV w B P A
theorem AttrsRow.attrs {w : World} {B n cap : Nat} {uo : Option Addr} {T : List AttrV} (h : AttrsRow w B (.slice uo n cap) T) : AttrsAt w uo T := by
  obtain ⟨P, h2, h1, h4⟩ := h
  by_cases hT : T = []
  · exact .inl hT
  have hT' : 0 < T.length := List.length_pos_iff.2 hT
  rcases h2.2 with ⟨_, h0⟩ | ⟨g, cap', cur, e, hg, hk, _⟩
  · omega
  · injection e with e1 e2 e3
    subst e1; subst e2; subst e3
    refine .inr ⟨g, 0, rfl, (Array.getElem?_eq_some_iff.1 hk).1, fun i hi => ?_⟩
    have hiP : i < P.length := by omega
    obtain ⟨q1, ⟨vo, m, vc, q2⟩, q4⟩ := h4 i hi hiP
    rw [q2] at q4
    obtain rfl : m = T[i].2.length := by obtain ⟨_, _, e⟩ := own_slice q4; injection e
    have c0 := h2.cellAt (i * 2) (by omega)
    have c1 := h2.cellAt (i * 2 + 1) (by omega)
    obtain ⟨p0, p1⟩ := ps_get P i hiP
    rw [p0, q1] at c0; rw [p1, q2] at c1
    rw [Nat.zero_add]
    refine ⟨c0, vo, vc, c1, own_strs q4, own_cap q4, fun e => ?_⟩
    subst e
    rcases q4.2 with ⟨q, _⟩ | ⟨k, cp, cur, q, _⟩
    · injection q
    · injection q with q; cases q
theorem AttrsRow.below {w w' : World} {B : Nat} {v : Value} {A : List AttrV} (h : AttrsRow w B v A) (hb : Below w.heap.size w w') : AttrsRow w' B v A := by
  obtain ⟨P, h1, h2⟩ := h
  exact ⟨P, own_below h1 hb, h2.below hb⟩
theorem AttrsRow.mono {w : World} {B B' : Nat} {v : Value} {A : List AttrV} (h : AttrsRow w B v A) (hB : B' ≤ B) : AttrsRow w B' v A := by
  obtain ⟨P, h1, h2⟩ := h
  exact ⟨P, own_mono h1 hB, h2.mono hB⟩
theorem AttrsRow.cellOut {w : World} {B R j : Nat} {x v : Value} {A : List AttrV} (h : AttrsRow w B v A) (hR : R < B) : AttrsRow (w.setCell ⟨R, j, none⟩ x) B v A := by
  obtain ⟨P, h1, h2⟩ := h
  exact ⟨P, own_cellOut h1 hR, h2.cellOut hR⟩
end Go.Proofs.YtjajpdghamecoaaGreat
/- Steps of a drawn region: append(texts, texts...) . -/
namespace Go.Proofs.YtjajpdghamecoaaGreat
open Go Go.RowKit
attribute [local go_sem ↓] Go.wp_at_zero Go.wp_at_succ

theorem step_strs {ops : Array Oper} {o : Oper} {a : Act} {K : Act → World → Prop} {Q : Exit → Act → World → Prop} {E : Prop} {w0 wr : World} (B : Nat) (hgd : o.guard = none) (s x : Operand)
    (ho : o.op = .call { callee := .builtin .append, args := #[s, x], argTypes := #[36, 36] }) (v : Value) (pre : List ByteArray) (hs : a.eval s = v) (hown : wr.ownsRow B 9 1 v pre.length (ss pre))
    (ao : Option Addr) (d : List ByteArray) (c n : Nat) (hn : n = d.length) (hx : a.eval x = .slice ao n c) (hd : StrsAt wr ao d) (hc : ao = none → c = 0) (hlen : pre.length + d.length ≤ 1000000000) (hB : B ≤ wr.heap.size) (hbel : Below B w0 wr)
    (h : ∀ v' w', w'.ownsRow B 9 1 v' (pre ++ d).length (ss (pre ++ d)) → Below B w0 w' → wr.grownBy w' v.ownBlock → K (a.put o.dst v') w') :
    if Region.wanted o (yielded ops a.tmps) = true then Oper.wp Tryz.prog o a wr K Q else E := by
  have hw : Region.wanted o (yielded ops a.tmps) = true := by simp [Region.wanted, hgd]
  rw [if_pos hw]
  obtain ⟨i0, hi, hz0, hz1, hz2⟩ := info_parts Tryz.info9
  subst hn
  rcases ao with _ | ad
  · have hd0 : d = [] := by
      rcases hd with h | ⟨b, off, e, _⟩
      · exact h
      · cases e
    subst hd0
    have := hc rfl
    subst this
    have hrun := run_append_owned_none (P := Tryz.prog) (w := wr) B 36 o.type 9 i0 1 Tryz.underlying36 hi v pre.length (ss pre) hown
    unfold Oper.wp execOp
    simp only [ho, resolve, invoke, builtin, Sem.run_bind, Sem.run_pure, Result.andThen_ok, List.map_toArray, List.map_cons, List.map_nil, hs, hx]
    erw [hrun]
    exact h v wr (by rw [List.append_nil]; exact hown) hbel ⟨rfl, rfl, rfl, Nat.le_refl _, fun _ _ _ => rfl⟩
  · have hnews : ∀ j u, (ss d)[j]? = some u → wr.cell? (ad.add j) = some u := by
      rcases hd with hd | ⟨b, off, e, h2, h3⟩
      · subst hd; intro j u hu; simp [ss] at hu
      · cases e; exact strs_cells (.inr ⟨b, off, rfl, h2, h3⟩)
    refine wp_append_own _ s x 36 ho B 9 i0 _ 1 16 Tryz.underlying36 hi hz0 hz1 hz2 rfl (by decide) v pre.length (ss pre) hs hown ad d.length c (ss d) hx (by rw [ss_length]; omega) hnews (ss_one d) ?_ ?_ hB ?_
    · unfold maxLen; omega
    · omega
    · intro v' w' h1 h2 h3
      refine h v' w' ?_ (hbel.grown h2 hB (fun k hk => (hown.lt k hk).1)) h2
      rw [ss_append, List.length_append]; exact h1
end Go.Proofs.YtjajpdghamecoaaGreat
