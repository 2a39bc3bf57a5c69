/- Merged texts: SortS, EntA2, EntA3, SortS2. -/
import Derived.Test.YtjajpdghamecoaaGreatM6
import Derived.Test.YtjajpdghamecoaaGreatM7
import Derived.IntWalk
import Derived.Test.YtjajpdghamecoaaGreatM3
import Derived.LoopN
/- sorted: what the program's text returns, at texts. -/
namespace Go.Proofs.YtjajpdghamecoaaGreat
open Go.RowKit
attribute [local go_sem ↓] Go.wp_at_zero Go.wp_at_succ

theorem normLt_asym (a b : ByteArray) (h : normLt a b = true) : normLt b a = false := by
  cases h2 : normLt b a with
  | false => rfl
  | true =>
    unfold normLt at h h2
    have := less_trans _ _ _ h h2
    rw [less_irrefl] at this; cases this
theorem RowS.put {w : World} {g n k : Nat} {l : List ByteArray} (h : RowS w g n l) (s : ByteArray) : RowS (w.setCell ⟨g, k, none⟩ (.string s)) g n (l.set k s) := by
  obtain ⟨C, h1, h2, h3⟩ := h
  refine ⟨_, heap_set _ h1, by simp [h2], fun i hi => ?_⟩
  have hi' : i < l.length := by simpa using hi
  rw [Array.getElem?_setIfInBounds, List.getElem_set]
  by_cases e : k = i
  · subst e
    have : k < C.size := by
      have := h3 k hi'
      rcases Nat.lt_or_ge k C.size with h | h
      · exact h
      · rw [Array.getElem?_eq_none h] at this; cases this
    rw [if_pos rfl, if_pos rfl, if_pos this]
  · rw [if_neg e, if_neg e]; exact h3 i hi'
theorem RowS.get {w : World} {g n k : Nat} {l : List ByteArray} (h : RowS w g n l) (hk : k < l.length) : w.cell? ⟨g, k, none⟩ = some (.string l[k]) ∧ w.frozen? ⟨g, k, none⟩ = false := by
  obtain ⟨C, h1, h2, h3⟩ := h
  refine ⟨?_, by simp [World.frozen?, h1]⟩
  rw [cell_of_row w g _ C 9 (0, 0) h1]; exact h3 k hk
theorem RowS.lt {w : World} {g n : Nat} {l : List ByteArray} (h : RowS w g n l) : g < w.heap.size := h.sh.lt
theorem RowS.grow {w w' : World} {g n : Nat} {l : List ByteArray} (h : RowS w g n l) (hb : Below w.heap.size w w') : RowS w' g n l := h.below hb
set_option maxRecDepth 100000 in
set_option maxHeartbeats 1000000 in
theorem insertS_any (g n cap : Nat) (L0 : List ByteArray) (w : World) (hR : RowS w g cap L0) (hl : L0.length = n) (hn : n ≤ 400) (hz : ∀ s ∈ L0, s.size ≤ maxLen) :
    Calls Tryz.prog 144 #[.slice (some ⟨g, 0, none⟩) n cap, .int .i64 0, .int .i64 n, .func (.func 94) #[] #[]] w fun e w' => e = .returned (.tuple #[]) ∧ (∃ L : List ByteArray, L.Perm L0 ∧ Asc normLt L n ∧ RowS w' g cap L) ∧ w.grownBy w' (some g) := by
  have HR := Lib.hid hR; have HZ := Lib.hid hz; have HL := Lib.hid hl; clear hR hz hl
  go_enter Tryz.func144, Tryz.ntmps144
  go_wp2_with fail
  go_loopw [8] (fun i wr => ∃ (k : Nat) (L : List ByteArray), i = .int .i64 ((k : Int) + 1) ∧ k ≤ n ∧ L.Perm L0 ∧ Asc normLt L (k + 1) ∧ RowS wr g cap L ∧ w.grownBy wr (some g)) (fun i _ => n + 1 - (intOf i).toNat)
  case atStart => exact ⟨0, L0, rfl, by omega, .refl _, asc_one _, HR.out, ⟨rfl, rfl, rfl, Nat.le_refl _, fun _ _ _ => rfl⟩⟩
  case round =>
    clear HR
    obtain ⟨Y, rfl⟩ : ∃ Y, Y = wr := ⟨_, rfl⟩
    obtain ⟨k, L, rfl, hk, hp, ha, hR, hG⟩ := hrel
    have HP := Lib.hid hp; have HA := Lib.hid ha; have HR := Lib.hid hR; have HG := Lib.hid hG
    have hLn : L.length = n := by rw [← HL.out]; exact hp.length_eq
    clear hp ha hR hG
    by_cases hlt : k + 1 < n
    · have HI := Lib.hid (inner_start (lt := normLt) HA.out (by omega))
      have HLn := Lib.hid hLn; clear hLn
      have g0 : (k : Int) + 1 < (n : Int) := by omega
      go_wp2_with fail
      go_loopw [9] (fun i wr => ∃ (j : Nat) (M : List ByteArray), i = .int .i64 j ∧ M.Perm L0 ∧ Inner normLt M (k + 1) j ∧ RowS wr g cap M ∧ w.grownBy wr (some g)) (fun i _ => (intOf i).toNat)
      case atStart => exact ⟨k + 1, L, by go_num, HP.out, HI.out, HR.out, HG.out⟩
      case round =>
        clear HI HP HA HR HG
        obtain ⟨j, M, rfl, hp, hi, hR, hG⟩ := hrel
        have hMn : M.length = n := by rw [← HL.out]; exact hp.length_eq
        have hji := hi.1
        have HP := Lib.hid hp; have HI := Lib.hid hi; have HR := Lib.hid hR; have HG := Lib.hid hG
        clear hp hi hR hG
        rcases j with _ | m
        · have HE := Lib.hid (inner_end HI.out (.inl rfl))
          go_wp2_with fail
          refine wp_region_held_drew (S := (fun _ => True)) (by kernel_rfl) ?_ (fun hHeld => ?_)
          · (try dsimp only)
            all_goals trivial
          refine wpAnyH_take (i := 0) (oi := { dst := some 18, op := Op.move (Operand.tmp 9), type := 3, pos := "zsortanyfunc.go:12", after := #[], guard := none }) (v := ?_) rfl (by kernel_rfl) (by kernel_rfl) (by kernel_rfl) (fun _ _ _ h => h) (Or.inl ⟨by rfl, ?_⟩) (by assumption) ?_
          rotate_left
          · intro w hSw; (try dsimp only at hSw); go_simp; (try with_reducible rfl)
          (try simp only [Act.put, List.setIfInBounds_toArray, List.set_cons_zero, List.set_cons_succ])
          refine wpAnyH_take (i := 1) (oi := { dst := some 19, op := Op.move (Operand.tmp 1), type := 3, pos := "zsortanyfunc.go:12", after := #[], guard := none }) (v := ?_) rfl (by kernel_rfl) (by kernel_rfl) (by kernel_rfl) (fun _ _ _ h => h) (Or.inl ⟨by rfl, ?_⟩) (by assumption) ?_
          rotate_left
          · intro w hSw; (try dsimp only at hSw); go_simp; (try with_reducible rfl)
          (try simp only [Act.put, List.setIfInBounds_toArray, List.set_cons_zero, List.set_cons_succ])
          refine wpAnyH_take (i := 2) (oi := { dst := some 20, op := Op.binOp BinOp.gtr 3 (Operand.tmp 18) (Operand.tmp 19) 3, type := 4, pos := "zsortanyfunc.go:12", after := #[{ on := 0, ground := Ground.data }, { on := 1, ground := Ground.data }], guard := none }) (v := ?_) rfl (by kernel_rfl) (by kernel_rfl) (by kernel_rfl) (fun _ _ _ h => h) (Or.inl ⟨by rfl, ?_⟩) (by assumption) ?_
          rotate_left
          · intro w hSw; (try dsimp only at hSw); go_simp; (try with_reducible rfl)
          (try simp only [Act.put, List.setIfInBounds_toArray, List.set_cons_zero, List.set_cons_succ])
          refine wpAnyH_take (i := 3) (oi := { dst := some 21, op := Op.move (Operand.tmp 20), type := 4, pos := "zsortanyfunc.go:12", after := #[{ on := 2, ground := Ground.data }], guard := none }) (v := ?_) rfl (by kernel_rfl) (by kernel_rfl) (by kernel_rfl) (fun _ _ _ h => h) (Or.inl ⟨by rfl, ?_⟩) (by assumption) ?_
          rotate_left
          · intro w hSw; (try dsimp only at hSw); go_simp; (try with_reducible rfl)
          (try simp only [Act.put, List.setIfInBounds_toArray, List.set_cons_zero, List.set_cons_succ])
          refine wpAnyH_take (i := 4) (oi := { dst := some 22, op := Op.move (Operand.tmp 3), type := 102, pos := "zsortanyfunc.go:12", after := #[{ on := 3, ground := Ground.guard }], guard := some (3, true) }) (v := undef) rfl (by kernel_rfl) (by kernel_rfl) (by kernel_rfl) (fun _ _ _ h => h) (Or.inr ⟨by rfl, rfl⟩) (by assumption) ?_
          (try simp only [Act.put, List.setIfInBounds_toArray, List.set_cons_zero, List.set_cons_succ])
          refine wpAnyH_take (i := 5) (oi := { dst := some 23, op := Op.move (Operand.tmp 0), type := 36, pos := "zsortanyfunc.go:12", after := #[{ on := 3, ground := Ground.guard }], guard := some (3, true) }) (v := undef) rfl (by kernel_rfl) (by kernel_rfl) (by kernel_rfl) (fun _ _ _ h => h) (Or.inr ⟨by rfl, rfl⟩) (by assumption) ?_
          (try simp only [Act.put, List.setIfInBounds_toArray, List.set_cons_zero, List.set_cons_succ])
          refine wpAnyH_take (i := 6) (oi := { dst := some 24, op := Op.move (Operand.tmp 9), type := 3, pos := "zsortanyfunc.go:12", after := #[{ on := 3, ground := Ground.guard }], guard := some (3, true) }) (v := undef) rfl (by kernel_rfl) (by kernel_rfl) (by kernel_rfl) (fun _ _ _ h => h) (Or.inr ⟨by rfl, rfl⟩) (by assumption) ?_
          (try simp only [Act.put, List.setIfInBounds_toArray, List.set_cons_zero, List.set_cons_succ])
          refine wpAnyH_take (i := 7) (oi := { dst := some 25, op := Op.indexAddr 36 (Operand.tmp 23) (Operand.tmp 24), type := 0, pos := "zsortanyfunc.go:12", after := #[{ on := 5, ground := Ground.data }, { on := 6, ground := Ground.data }, { on := 3, ground := Ground.guard }], guard := some (3, true) }) (v := undef) rfl (by kernel_rfl) (by kernel_rfl) (by kernel_rfl) (fun _ _ _ h => h) (Or.inr ⟨by rfl, rfl⟩) (by assumption) ?_
          (try simp only [Act.put, List.setIfInBounds_toArray, List.set_cons_zero, List.set_cons_succ])
          refine wpAnyH_take (i := 8) (oi := { dst := some 26, op := Op.load 9 (Operand.tmp 25), type := 9, pos := "zsortanyfunc.go:12", after := #[{ on := 7, ground := Ground.data }, { on := 3, ground := Ground.guard }], guard := some (3, true) }) (v := undef) rfl (by kernel_rfl) (by kernel_rfl) (by kernel_rfl) (fun _ _ _ h => h) (Or.inr ⟨by rfl, rfl⟩) (by assumption) ?_
          (try simp only [Act.put, List.setIfInBounds_toArray, List.set_cons_zero, List.set_cons_succ])
          refine wpAnyH_take (i := 9) (oi := { dst := some 27, op := Op.move (Operand.tmp 0), type := 36, pos := "zsortanyfunc.go:12", after := #[{ on := 3, ground := Ground.guard }], guard := some (3, true) }) (v := undef) rfl (by kernel_rfl) (by kernel_rfl) (by kernel_rfl) (fun _ _ _ h => h) (Or.inr ⟨by rfl, rfl⟩) (by assumption) ?_
          (try simp only [Act.put, List.setIfInBounds_toArray, List.set_cons_zero, List.set_cons_succ])
          refine wpAnyH_take (i := 10) (oi := { dst := some 28, op := Op.move (Operand.tmp 9), type := 3, pos := "zsortanyfunc.go:12", after := #[{ on := 3, ground := Ground.guard }], guard := some (3, true) }) (v := undef) rfl (by kernel_rfl) (by kernel_rfl) (by kernel_rfl) (fun _ _ _ h => h) (Or.inr ⟨by rfl, rfl⟩) (by assumption) ?_
          (try simp only [Act.put, List.setIfInBounds_toArray, List.set_cons_zero, List.set_cons_succ])
          refine wpAnyH_take (i := 11) (oi := { dst := some 29, op := Op.binOp BinOp.sub 3 (Operand.tmp 28) (Operand.const (Value.int IntKind.i64 1)) 3, type := 3, pos := "zsortanyfunc.go:12", after := #[{ on := 10, ground := Ground.data }, { on := 3, ground := Ground.guard }], guard := some (3, true) }) (v := undef) rfl (by kernel_rfl) (by kernel_rfl) (by kernel_rfl) (fun _ _ _ h => h) (Or.inr ⟨by rfl, rfl⟩) (by assumption) ?_
          (try simp only [Act.put, List.setIfInBounds_toArray, List.set_cons_zero, List.set_cons_succ])
          refine wpAnyH_take (i := 12) (oi := { dst := some 30, op := Op.indexAddr 36 (Operand.tmp 27) (Operand.tmp 29), type := 0, pos := "zsortanyfunc.go:12", after := #[{ on := 9, ground := Ground.data }, { on := 11, ground := Ground.data }, { on := 3, ground := Ground.guard }], guard := some (3, true) }) (v := undef) rfl (by kernel_rfl) (by kernel_rfl) (by kernel_rfl) (fun _ _ _ h => h) (Or.inr ⟨by rfl, rfl⟩) (by assumption) ?_
          (try simp only [Act.put, List.setIfInBounds_toArray, List.set_cons_zero, List.set_cons_succ])
          refine wpAnyH_take (i := 13) (oi := { dst := some 31, op := Op.load 9 (Operand.tmp 30), type := 9, pos := "zsortanyfunc.go:12", after := #[{ on := 12, ground := Ground.data }, { on := 3, ground := Ground.guard }], guard := some (3, true) }) (v := undef) rfl (by kernel_rfl) (by kernel_rfl) (by kernel_rfl) (fun _ _ _ h => h) (Or.inr ⟨by rfl, rfl⟩) (by assumption) ?_
          (try simp only [Act.put, List.setIfInBounds_toArray, List.set_cons_zero, List.set_cons_succ])
          refine wpAnyH_take (i := 14) (oi := { dst := some 32, op := Op.call { callee := Callee.value (Operand.tmp 22), args := #[Operand.tmp 26, Operand.tmp 31], argTypes := #[9, 9] }, type := 3, pos := "zsortanyfunc.go:12", after := #[{ on := 4, ground := Ground.data }, { on := 8, ground := Ground.data }, { on := 13, ground := Ground.data }, { on := 3, ground := Ground.chain }, { on := 3, ground := Ground.guard }], guard := some (3, true) }) (v := undef) rfl (by kernel_rfl) (by kernel_rfl) (by kernel_rfl) (fun _ _ _ h => h) (Or.inr ⟨by rfl, rfl⟩) (by assumption) ?_
          (try simp only [Act.put, List.setIfInBounds_toArray, List.set_cons_zero, List.set_cons_succ])
          refine wpAnyH_take (i := 15) (oi := { dst := some 33, op := Op.binOp BinOp.lss 3 (Operand.tmp 32) (Operand.const (Value.int IntKind.i64 0)) 3, type := 4, pos := "zsortanyfunc.go:12", after := #[{ on := 14, ground := Ground.data }, { on := 3, ground := Ground.guard }], guard := some (3, true) }) (v := undef) rfl (by kernel_rfl) (by kernel_rfl) (by kernel_rfl) (fun _ _ _ h => h) (Or.inr ⟨by rfl, rfl⟩) (by assumption) ?_
          (try simp only [Act.put, List.setIfInBounds_toArray, List.set_cons_zero, List.set_cons_succ])
          refine wpAnyH_take (i := 16) (oi := { dst := some 34, op := Op.pick (Operand.tmp 21) (Operand.tmp 33) (Operand.const (Value.bool false)), type := 4, pos := "zsortanyfunc.go:12", after := #[{ on := 3, ground := Ground.data }, { on := 15, ground := Ground.data }], guard := none }) (v := ?_) rfl (by kernel_rfl) (by kernel_rfl) (by kernel_rfl) (fun _ _ _ h => h) (Or.inl ⟨by rfl, ?_⟩) (by assumption) ?_
          rotate_left
          · intro w hSw; (try dsimp only at hSw); go_simp; (try with_reducible rfl)
          (try simp only [Act.put, List.setIfInBounds_toArray, List.set_cons_zero, List.set_cons_succ])
          refine wpAnyH_done (by kernel_rfl) ?_ _
          go_wp2
          refine ⟨⟨k + 1, M, by go_num, by omega, HP.out, HE.out, HR.out.below (Below.refl _ _).drew, grown_tr HG.out (grown_of (Below.refl _ _).drew _)⟩, ?_⟩
          simp [intOf]; omega
        · have hm1 : m + 1 < M.length := by omega
          obtain ⟨c0, f0⟩ := HR.out.get (k := m) (by omega)
          obtain ⟨c1, f1⟩ := HR.out.get (k := m + 1) hm1
          have z0 := HZ.out M[m] (HP.out.mem_iff.1 (List.getElem_mem _))
          have z1 := HZ.out M[m + 1] (HP.out.mem_iff.1 (List.getElem_mem _))
          have HStep := Lib.hid (fun h => inner_step normLt_asym HI.out hm1 h)
          have HEnd : Hid (normLt M[m + 1] M[m] = false → Asc normLt M (k + 1 + 1)) := Lib.hid (fun h => inner_end HI.out (.inr ⟨m, hm1, rfl, h⟩))
          have HPm := Lib.hid ((swapL_perm M m hm1).trans HP.out)
          have HSw : Hid (swapL M m hm1 = (M.set (m + 1) M[m]).set m M[m + 1]) := Lib.hid rfl
          have hMset : Hid ((M.set (m + 1) M[m]).set m M[m + 1] = swapL M m hm1) := Lib.hid rfl
          generalize M[m] = x at *
          generalize M[m + 1] = y at *
          have SK : Hid (∀ Z : World, Below wr.heap.size wr Z → (Below wr.heap.size wr Z ∧ Z.cell? ⟨g, m, none⟩ = some (.string x) ∧ Z.cell? ⟨g, m + 1, none⟩ = some (.string y))) :=
            Lib.hid (fun Z h => ⟨h, (h.cell (p := ⟨g, m, none⟩) HR.out.lt).trans c0, (h.cell (p := ⟨g, m + 1, none⟩) HR.out.lt).trans c1⟩)
          have HCmp : Hid (∀ Z, Below wr.heap.size wr Z → Calls Tryz.prog 94 #[.string y, .string x] Z fun e w' => (∃ c : Int, e = .returned (.int .i64 c) ∧ decide (0 ≤ c) = !(normLt y x)) ∧ Below wr.heap.size wr w') :=
            Lib.hid (fun Z h => compareNorms_any wr y x Z z1 z0 h)
          have hb0 : Below wr.heap.size wr wr := Below.refl _ _
          have hbd := hb0.drew
          have g1 : (0 : Int) ≤ (m : Int) := by omega
          have g2 : (m : Int) < (n : Int) := by omega
          have g3 : (m : Int) + 1 < (n : Int) := by omega
          have g4 : (0 : Int) ≤ (m : Int) + 1 := by omega
          have g5 : IntKind.i64.wrap (m : Int) = (m : Int) := IntWalk.i64_in _ (by omega)
          cases hn : normLt y x
          · have HE := Lib.hid (HEnd.out hn)
            rw [hn] at HCmp
            go_wp2_with fail
            refine wp_region_held_drew (S := (fun Z => Below wr.heap.size wr Z ∧ Z.cell? ⟨g, m, none⟩ = some (.string x) ∧ Z.cell? ⟨g, m + 1, none⟩ = some (.string y))) (by kernel_rfl) ?_ (fun hHeld => ?_)
            · (try dsimp only)
              exact SK.out _ (by assumption)
            refine wpAnyH_take (i := 0) (oi := { dst := some 18, op := Op.move (Operand.tmp 9), type := 3, pos := "zsortanyfunc.go:12", after := #[], guard := none }) (v := ?_) rfl (by kernel_rfl) (by kernel_rfl) (by kernel_rfl) (fun _ _ _ h => h) (Or.inl ⟨by rfl, ?_⟩) (by assumption) ?_
            rotate_left
            · intro w hSw; (try dsimp only at hSw); go_simp; (try with_reducible rfl)
            (try simp only [Act.put, List.setIfInBounds_toArray, List.set_cons_zero, List.set_cons_succ])
            refine wpAnyH_take (i := 1) (oi := { dst := some 19, op := Op.move (Operand.tmp 1), type := 3, pos := "zsortanyfunc.go:12", after := #[], guard := none }) (v := ?_) rfl (by kernel_rfl) (by kernel_rfl) (by kernel_rfl) (fun _ _ _ h => h) (Or.inl ⟨by rfl, ?_⟩) (by assumption) ?_
            rotate_left
            · intro w hSw; (try dsimp only at hSw); go_simp; (try with_reducible rfl)
            (try simp only [Act.put, List.setIfInBounds_toArray, List.set_cons_zero, List.set_cons_succ])
            refine wpAnyH_take (i := 2) (oi := { dst := some 20, op := Op.binOp BinOp.gtr 3 (Operand.tmp 18) (Operand.tmp 19) 3, type := 4, pos := "zsortanyfunc.go:12", after := #[{ on := 0, ground := Ground.data }, { on := 1, ground := Ground.data }], guard := none }) (v := ?_) rfl (by kernel_rfl) (by kernel_rfl) (by kernel_rfl) (fun _ _ _ h => h) (Or.inl ⟨by rfl, ?_⟩) (by assumption) ?_
            rotate_left
            · intro w hSw; (try dsimp only at hSw); go_simp; (try with_reducible rfl)
            (try simp only [Act.put, List.setIfInBounds_toArray, List.set_cons_zero, List.set_cons_succ])
            refine wpAnyH_take (i := 3) (oi := { dst := some 21, op := Op.move (Operand.tmp 20), type := 4, pos := "zsortanyfunc.go:12", after := #[{ on := 2, ground := Ground.data }], guard := none }) (v := ?_) rfl (by kernel_rfl) (by kernel_rfl) (by kernel_rfl) (fun _ _ _ h => h) (Or.inl ⟨by rfl, ?_⟩) (by assumption) ?_
            rotate_left
            · intro w hSw; (try dsimp only at hSw); go_simp; (try with_reducible rfl)
            (try simp only [Act.put, List.setIfInBounds_toArray, List.set_cons_zero, List.set_cons_succ])
            refine wpAnyH_take (i := 4) (oi := { dst := some 22, op := Op.move (Operand.tmp 3), type := 102, pos := "zsortanyfunc.go:12", after := #[{ on := 3, ground := Ground.guard }], guard := some (3, true) }) (v := ?_) rfl (by kernel_rfl) (by kernel_rfl) (by kernel_rfl) (fun _ _ _ h => h) (Or.inl ⟨by rfl, ?_⟩) (by assumption) ?_
            rotate_left
            · intro w hSw; (try dsimp only at hSw); go_simp; (try with_reducible rfl)
            (try simp only [Act.put, List.setIfInBounds_toArray, List.set_cons_zero, List.set_cons_succ])
            refine wpAnyH_take (i := 5) (oi := { dst := some 23, op := Op.move (Operand.tmp 0), type := 36, pos := "zsortanyfunc.go:12", after := #[{ on := 3, ground := Ground.guard }], guard := some (3, true) }) (v := ?_) rfl (by kernel_rfl) (by kernel_rfl) (by kernel_rfl) (fun _ _ _ h => h) (Or.inl ⟨by rfl, ?_⟩) (by assumption) ?_
            rotate_left
            · intro w hSw; (try dsimp only at hSw); go_simp; (try with_reducible rfl)
            (try simp only [Act.put, List.setIfInBounds_toArray, List.set_cons_zero, List.set_cons_succ])
            refine wpAnyH_take (i := 6) (oi := { dst := some 24, op := Op.move (Operand.tmp 9), type := 3, pos := "zsortanyfunc.go:12", after := #[{ on := 3, ground := Ground.guard }], guard := some (3, true) }) (v := ?_) rfl (by kernel_rfl) (by kernel_rfl) (by kernel_rfl) (fun _ _ _ h => h) (Or.inl ⟨by rfl, ?_⟩) (by assumption) ?_
            rotate_left
            · intro w hSw; (try dsimp only at hSw); go_simp; (try with_reducible rfl)
            (try simp only [Act.put, List.setIfInBounds_toArray, List.set_cons_zero, List.set_cons_succ])
            refine wpAnyH_take (i := 7) (oi := { dst := some 25, op := Op.indexAddr 36 (Operand.tmp 23) (Operand.tmp 24), type := 0, pos := "zsortanyfunc.go:12", after := #[{ on := 5, ground := Ground.data }, { on := 6, ground := Ground.data }, { on := 3, ground := Ground.guard }], guard := some (3, true) }) (v := ?_) rfl (by kernel_rfl) (by kernel_rfl) (by kernel_rfl) (fun _ _ _ h => h) (Or.inl ⟨by rfl, ?_⟩) (by assumption) ?_
            rotate_left
            · intro w hSw; (try dsimp only at hSw); go_simp; (try with_reducible rfl)
            (try simp only [Act.put, List.setIfInBounds_toArray, List.set_cons_zero, List.set_cons_succ])
            refine wpAnyH_take (i := 8) (oi := { dst := some 26, op := Op.load 9 (Operand.tmp 25), type := 9, pos := "zsortanyfunc.go:12", after := #[{ on := 7, ground := Ground.data }, { on := 3, ground := Ground.guard }], guard := some (3, true) }) (v := ?_) rfl (by kernel_rfl) (by kernel_rfl) (by kernel_rfl) (fun _ _ _ h => h) (Or.inl ⟨by rfl, ?_⟩) (by assumption) ?_
            rotate_left
            · intro w hSw; (try dsimp only at hSw); go_simp; (try with_reducible rfl)
            (try simp only [Act.put, List.setIfInBounds_toArray, List.set_cons_zero, List.set_cons_succ])
            refine wpAnyH_take (i := 9) (oi := { dst := some 27, op := Op.move (Operand.tmp 0), type := 36, pos := "zsortanyfunc.go:12", after := #[{ on := 3, ground := Ground.guard }], guard := some (3, true) }) (v := ?_) rfl (by kernel_rfl) (by kernel_rfl) (by kernel_rfl) (fun _ _ _ h => h) (Or.inl ⟨by rfl, ?_⟩) (by assumption) ?_
            rotate_left
            · intro w hSw; (try dsimp only at hSw); go_simp; (try with_reducible rfl)
            (try simp only [Act.put, List.setIfInBounds_toArray, List.set_cons_zero, List.set_cons_succ])
            refine wpAnyH_take (i := 10) (oi := { dst := some 28, op := Op.move (Operand.tmp 9), type := 3, pos := "zsortanyfunc.go:12", after := #[{ on := 3, ground := Ground.guard }], guard := some (3, true) }) (v := ?_) rfl (by kernel_rfl) (by kernel_rfl) (by kernel_rfl) (fun _ _ _ h => h) (Or.inl ⟨by rfl, ?_⟩) (by assumption) ?_
            rotate_left
            · intro w hSw; (try dsimp only at hSw); go_simp; (try with_reducible rfl)
            (try simp only [Act.put, List.setIfInBounds_toArray, List.set_cons_zero, List.set_cons_succ])
            refine wpAnyH_take (i := 11) (oi := { dst := some 29, op := Op.binOp BinOp.sub 3 (Operand.tmp 28) (Operand.const (Value.int IntKind.i64 1)) 3, type := 3, pos := "zsortanyfunc.go:12", after := #[{ on := 10, ground := Ground.data }, { on := 3, ground := Ground.guard }], guard := some (3, true) }) (v := ?_) rfl (by kernel_rfl) (by kernel_rfl) (by kernel_rfl) (fun _ _ _ h => h) (Or.inl ⟨by rfl, ?_⟩) (by assumption) ?_
            rotate_left
            · intro w hSw; (try dsimp only at hSw); go_simp; (try with_reducible rfl)
            (try simp only [Act.put, List.setIfInBounds_toArray, List.set_cons_zero, List.set_cons_succ])
            refine wpAnyH_take (i := 12) (oi := { dst := some 30, op := Op.indexAddr 36 (Operand.tmp 27) (Operand.tmp 29), type := 0, pos := "zsortanyfunc.go:12", after := #[{ on := 9, ground := Ground.data }, { on := 11, ground := Ground.data }, { on := 3, ground := Ground.guard }], guard := some (3, true) }) (v := ?_) rfl (by kernel_rfl) (by kernel_rfl) (by kernel_rfl) (fun _ _ _ h => h) (Or.inl ⟨by rfl, ?_⟩) (by assumption) ?_
            rotate_left
            · intro w hSw; (try dsimp only at hSw); go_simp; (try with_reducible rfl)
            (try simp only [Act.put, List.setIfInBounds_toArray, List.set_cons_zero, List.set_cons_succ])
            refine wpAnyH_take (i := 13) (oi := { dst := some 31, op := Op.load 9 (Operand.tmp 30), type := 9, pos := "zsortanyfunc.go:12", after := #[{ on := 12, ground := Ground.data }, { on := 3, ground := Ground.guard }], guard := some (3, true) }) (v := ?_) rfl (by kernel_rfl) (by kernel_rfl) (by kernel_rfl) (fun _ _ _ h => h) (Or.inl ⟨by rfl, ?_⟩) (by assumption) ?_
            rotate_left
            · intro w hSw; (try dsimp only at hSw); go_simp; (try with_reducible rfl)
            (try simp only [Act.put, List.setIfInBounds_toArray, List.set_cons_zero, List.set_cons_succ])
            refine wpAnyH_ready (rs := [14]) (by kernel_rfl) (by simp) ?_
            refine AllReadyH.cons (o := { dst := some 32, op := Op.call { callee := Callee.value (Operand.tmp 22), args := #[Operand.tmp 26, Operand.tmp 31], argTypes := #[9, 9] }, type := 3, pos := "zsortanyfunc.go:12", after := #[{ on := 4, ground := Ground.data }, { on := 8, ground := Ground.data }, { on := 13, ground := Ground.data }, { on := 3, ground := Ground.chain }, { on := 3, ground := Ground.guard }], guard := some (3, true) }) rfl (fun K hK => ?_) AllReadyH.nil
            go_simp
            (refine (HCmp.out _ (by assumption)).mono ?_; rintro e w1 ⟨⟨c, rfl, hc⟩, hb1⟩; have hc0 : 0 ≤ c := by simpa using hc; go_wp2_with fail)
            clear hHeld
            refine hK.out _ _ ?_ (fun hHeld => ?_)
            · (try dsimp only)
              exact SK.out _ (by assumption)
            clear hK K
            (try simp only [Act.put, List.setIfInBounds_toArray, List.set_cons_zero, List.set_cons_succ])
            refine wpAnyH_take (i := 15) (oi := { dst := some 33, op := Op.binOp BinOp.lss 3 (Operand.tmp 32) (Operand.const (Value.int IntKind.i64 0)) 3, type := 4, pos := "zsortanyfunc.go:12", after := #[{ on := 14, ground := Ground.data }, { on := 3, ground := Ground.guard }], guard := some (3, true) }) (v := ?_) rfl (by kernel_rfl) (by kernel_rfl) (by kernel_rfl) (fun _ _ _ h => h) (Or.inl ⟨by rfl, ?_⟩) (by assumption) ?_
            rotate_left
            · intro w hSw; (try dsimp only at hSw); go_simp; (try with_reducible rfl)
            (try simp only [Act.put, List.setIfInBounds_toArray, List.set_cons_zero, List.set_cons_succ])
            refine wpAnyH_take (i := 16) (oi := { dst := some 34, op := Op.pick (Operand.tmp 21) (Operand.tmp 33) (Operand.const (Value.bool false)), type := 4, pos := "zsortanyfunc.go:12", after := #[{ on := 3, ground := Ground.data }, { on := 15, ground := Ground.data }], guard := none }) (v := ?_) rfl (by kernel_rfl) (by kernel_rfl) (by kernel_rfl) (fun _ _ _ h => h) (Or.inl ⟨by rfl, ?_⟩) (by assumption) ?_
            rotate_left
            · intro w hSw; (try dsimp only at hSw); go_simp; (try with_reducible rfl)
            (try simp only [Act.put, List.setIfInBounds_toArray, List.set_cons_zero, List.set_cons_succ])
            refine wpAnyH_done (by kernel_rfl) ?_ _
            go_wp2
            refine ⟨⟨k + 1, M, by go_num, by omega, HP.out, HE.out, HR.out.below hb1, grown_tr HG.out (grown_of hb1 _)⟩, ?_⟩
            simp [intOf]; omega
          · have HS' := Lib.hid (HStep.out hn)
            rw [hn] at HCmp
            go_wp2_with fail
            refine wp_region_held_drew (S := (fun Z => Below wr.heap.size wr Z ∧ Z.cell? ⟨g, m, none⟩ = some (.string x) ∧ Z.cell? ⟨g, m + 1, none⟩ = some (.string y))) (by kernel_rfl) ?_ (fun hHeld => ?_)
            · (try dsimp only)
              exact SK.out _ (by assumption)
            refine wpAnyH_take (i := 0) (oi := { dst := some 18, op := Op.move (Operand.tmp 9), type := 3, pos := "zsortanyfunc.go:12", after := #[], guard := none }) (v := ?_) rfl (by kernel_rfl) (by kernel_rfl) (by kernel_rfl) (fun _ _ _ h => h) (Or.inl ⟨by rfl, ?_⟩) (by assumption) ?_
            rotate_left
            · intro w hSw; (try dsimp only at hSw); go_simp; (try with_reducible rfl)
            (try simp only [Act.put, List.setIfInBounds_toArray, List.set_cons_zero, List.set_cons_succ])
            refine wpAnyH_take (i := 1) (oi := { dst := some 19, op := Op.move (Operand.tmp 1), type := 3, pos := "zsortanyfunc.go:12", after := #[], guard := none }) (v := ?_) rfl (by kernel_rfl) (by kernel_rfl) (by kernel_rfl) (fun _ _ _ h => h) (Or.inl ⟨by rfl, ?_⟩) (by assumption) ?_
            rotate_left
            · intro w hSw; (try dsimp only at hSw); go_simp; (try with_reducible rfl)
            (try simp only [Act.put, List.setIfInBounds_toArray, List.set_cons_zero, List.set_cons_succ])
            refine wpAnyH_take (i := 2) (oi := { dst := some 20, op := Op.binOp BinOp.gtr 3 (Operand.tmp 18) (Operand.tmp 19) 3, type := 4, pos := "zsortanyfunc.go:12", after := #[{ on := 0, ground := Ground.data }, { on := 1, ground := Ground.data }], guard := none }) (v := ?_) rfl (by kernel_rfl) (by kernel_rfl) (by kernel_rfl) (fun _ _ _ h => h) (Or.inl ⟨by rfl, ?_⟩) (by assumption) ?_
            rotate_left
            · intro w hSw; (try dsimp only at hSw); go_simp; (try with_reducible rfl)
            (try simp only [Act.put, List.setIfInBounds_toArray, List.set_cons_zero, List.set_cons_succ])
            refine wpAnyH_take (i := 3) (oi := { dst := some 21, op := Op.move (Operand.tmp 20), type := 4, pos := "zsortanyfunc.go:12", after := #[{ on := 2, ground := Ground.data }], guard := none }) (v := ?_) rfl (by kernel_rfl) (by kernel_rfl) (by kernel_rfl) (fun _ _ _ h => h) (Or.inl ⟨by rfl, ?_⟩) (by assumption) ?_
            rotate_left
            · intro w hSw; (try dsimp only at hSw); go_simp; (try with_reducible rfl)
            (try simp only [Act.put, List.setIfInBounds_toArray, List.set_cons_zero, List.set_cons_succ])
            refine wpAnyH_take (i := 4) (oi := { dst := some 22, op := Op.move (Operand.tmp 3), type := 102, pos := "zsortanyfunc.go:12", after := #[{ on := 3, ground := Ground.guard }], guard := some (3, true) }) (v := ?_) rfl (by kernel_rfl) (by kernel_rfl) (by kernel_rfl) (fun _ _ _ h => h) (Or.inl ⟨by rfl, ?_⟩) (by assumption) ?_
            rotate_left
            · intro w hSw; (try dsimp only at hSw); go_simp; (try with_reducible rfl)
            (try simp only [Act.put, List.setIfInBounds_toArray, List.set_cons_zero, List.set_cons_succ])
            refine wpAnyH_take (i := 5) (oi := { dst := some 23, op := Op.move (Operand.tmp 0), type := 36, pos := "zsortanyfunc.go:12", after := #[{ on := 3, ground := Ground.guard }], guard := some (3, true) }) (v := ?_) rfl (by kernel_rfl) (by kernel_rfl) (by kernel_rfl) (fun _ _ _ h => h) (Or.inl ⟨by rfl, ?_⟩) (by assumption) ?_
            rotate_left
            · intro w hSw; (try dsimp only at hSw); go_simp; (try with_reducible rfl)
            (try simp only [Act.put, List.setIfInBounds_toArray, List.set_cons_zero, List.set_cons_succ])
            refine wpAnyH_take (i := 6) (oi := { dst := some 24, op := Op.move (Operand.tmp 9), type := 3, pos := "zsortanyfunc.go:12", after := #[{ on := 3, ground := Ground.guard }], guard := some (3, true) }) (v := ?_) rfl (by kernel_rfl) (by kernel_rfl) (by kernel_rfl) (fun _ _ _ h => h) (Or.inl ⟨by rfl, ?_⟩) (by assumption) ?_
            rotate_left
            · intro w hSw; (try dsimp only at hSw); go_simp; (try with_reducible rfl)
            (try simp only [Act.put, List.setIfInBounds_toArray, List.set_cons_zero, List.set_cons_succ])
            refine wpAnyH_take (i := 7) (oi := { dst := some 25, op := Op.indexAddr 36 (Operand.tmp 23) (Operand.tmp 24), type := 0, pos := "zsortanyfunc.go:12", after := #[{ on := 5, ground := Ground.data }, { on := 6, ground := Ground.data }, { on := 3, ground := Ground.guard }], guard := some (3, true) }) (v := ?_) rfl (by kernel_rfl) (by kernel_rfl) (by kernel_rfl) (fun _ _ _ h => h) (Or.inl ⟨by rfl, ?_⟩) (by assumption) ?_
            rotate_left
            · intro w hSw; (try dsimp only at hSw); go_simp; (try with_reducible rfl)
            (try simp only [Act.put, List.setIfInBounds_toArray, List.set_cons_zero, List.set_cons_succ])
            refine wpAnyH_take (i := 8) (oi := { dst := some 26, op := Op.load 9 (Operand.tmp 25), type := 9, pos := "zsortanyfunc.go:12", after := #[{ on := 7, ground := Ground.data }, { on := 3, ground := Ground.guard }], guard := some (3, true) }) (v := ?_) rfl (by kernel_rfl) (by kernel_rfl) (by kernel_rfl) (fun _ _ _ h => h) (Or.inl ⟨by rfl, ?_⟩) (by assumption) ?_
            rotate_left
            · intro w hSw; (try dsimp only at hSw); go_simp; (try with_reducible rfl)
            (try simp only [Act.put, List.setIfInBounds_toArray, List.set_cons_zero, List.set_cons_succ])
            refine wpAnyH_take (i := 9) (oi := { dst := some 27, op := Op.move (Operand.tmp 0), type := 36, pos := "zsortanyfunc.go:12", after := #[{ on := 3, ground := Ground.guard }], guard := some (3, true) }) (v := ?_) rfl (by kernel_rfl) (by kernel_rfl) (by kernel_rfl) (fun _ _ _ h => h) (Or.inl ⟨by rfl, ?_⟩) (by assumption) ?_
            rotate_left
            · intro w hSw; (try dsimp only at hSw); go_simp; (try with_reducible rfl)
            (try simp only [Act.put, List.setIfInBounds_toArray, List.set_cons_zero, List.set_cons_succ])
            refine wpAnyH_take (i := 10) (oi := { dst := some 28, op := Op.move (Operand.tmp 9), type := 3, pos := "zsortanyfunc.go:12", after := #[{ on := 3, ground := Ground.guard }], guard := some (3, true) }) (v := ?_) rfl (by kernel_rfl) (by kernel_rfl) (by kernel_rfl) (fun _ _ _ h => h) (Or.inl ⟨by rfl, ?_⟩) (by assumption) ?_
            rotate_left
            · intro w hSw; (try dsimp only at hSw); go_simp; (try with_reducible rfl)
            (try simp only [Act.put, List.setIfInBounds_toArray, List.set_cons_zero, List.set_cons_succ])
            refine wpAnyH_take (i := 11) (oi := { dst := some 29, op := Op.binOp BinOp.sub 3 (Operand.tmp 28) (Operand.const (Value.int IntKind.i64 1)) 3, type := 3, pos := "zsortanyfunc.go:12", after := #[{ on := 10, ground := Ground.data }, { on := 3, ground := Ground.guard }], guard := some (3, true) }) (v := ?_) rfl (by kernel_rfl) (by kernel_rfl) (by kernel_rfl) (fun _ _ _ h => h) (Or.inl ⟨by rfl, ?_⟩) (by assumption) ?_
            rotate_left
            · intro w hSw; (try dsimp only at hSw); go_simp; (try with_reducible rfl)
            (try simp only [Act.put, List.setIfInBounds_toArray, List.set_cons_zero, List.set_cons_succ])
            refine wpAnyH_take (i := 12) (oi := { dst := some 30, op := Op.indexAddr 36 (Operand.tmp 27) (Operand.tmp 29), type := 0, pos := "zsortanyfunc.go:12", after := #[{ on := 9, ground := Ground.data }, { on := 11, ground := Ground.data }, { on := 3, ground := Ground.guard }], guard := some (3, true) }) (v := ?_) rfl (by kernel_rfl) (by kernel_rfl) (by kernel_rfl) (fun _ _ _ h => h) (Or.inl ⟨by rfl, ?_⟩) (by assumption) ?_
            rotate_left
            · intro w hSw; (try dsimp only at hSw); go_simp; (try with_reducible rfl)
            (try simp only [Act.put, List.setIfInBounds_toArray, List.set_cons_zero, List.set_cons_succ])
            refine wpAnyH_take (i := 13) (oi := { dst := some 31, op := Op.load 9 (Operand.tmp 30), type := 9, pos := "zsortanyfunc.go:12", after := #[{ on := 12, ground := Ground.data }, { on := 3, ground := Ground.guard }], guard := some (3, true) }) (v := ?_) rfl (by kernel_rfl) (by kernel_rfl) (by kernel_rfl) (fun _ _ _ h => h) (Or.inl ⟨by rfl, ?_⟩) (by assumption) ?_
            rotate_left
            · intro w hSw; (try dsimp only at hSw); go_simp; (try with_reducible rfl)
            (try simp only [Act.put, List.setIfInBounds_toArray, List.set_cons_zero, List.set_cons_succ])
            refine wpAnyH_ready (rs := [14]) (by kernel_rfl) (by simp) ?_
            refine AllReadyH.cons (o := { dst := some 32, op := Op.call { callee := Callee.value (Operand.tmp 22), args := #[Operand.tmp 26, Operand.tmp 31], argTypes := #[9, 9] }, type := 3, pos := "zsortanyfunc.go:12", after := #[{ on := 4, ground := Ground.data }, { on := 8, ground := Ground.data }, { on := 13, ground := Ground.data }, { on := 3, ground := Ground.chain }, { on := 3, ground := Ground.guard }], guard := some (3, true) }) rfl (fun K hK => ?_) AllReadyH.nil
            go_simp
            (refine (HCmp.out _ (by assumption)).mono ?_; rintro e w1 ⟨⟨c, rfl, hc⟩, hb1⟩; have hc0 : c < 0 := by simpa using hc; go_wp2_with fail)
            clear hHeld
            refine hK.out _ _ ?_ (fun hHeld => ?_)
            · (try dsimp only)
              exact SK.out _ (by assumption)
            clear hK K
            (try simp only [Act.put, List.setIfInBounds_toArray, List.set_cons_zero, List.set_cons_succ])
            refine wpAnyH_take (i := 15) (oi := { dst := some 33, op := Op.binOp BinOp.lss 3 (Operand.tmp 32) (Operand.const (Value.int IntKind.i64 0)) 3, type := 4, pos := "zsortanyfunc.go:12", after := #[{ on := 14, ground := Ground.data }, { on := 3, ground := Ground.guard }], guard := some (3, true) }) (v := ?_) rfl (by kernel_rfl) (by kernel_rfl) (by kernel_rfl) (fun _ _ _ h => h) (Or.inl ⟨by rfl, ?_⟩) (by assumption) ?_
            rotate_left
            · intro w hSw; (try dsimp only at hSw); go_simp; (try with_reducible rfl)
            (try simp only [Act.put, List.setIfInBounds_toArray, List.set_cons_zero, List.set_cons_succ])
            refine wpAnyH_take (i := 16) (oi := { dst := some 34, op := Op.pick (Operand.tmp 21) (Operand.tmp 33) (Operand.const (Value.bool false)), type := 4, pos := "zsortanyfunc.go:12", after := #[{ on := 3, ground := Ground.data }, { on := 15, ground := Ground.data }], guard := none }) (v := ?_) rfl (by kernel_rfl) (by kernel_rfl) (by kernel_rfl) (fun _ _ _ h => h) (Or.inl ⟨by rfl, ?_⟩) (by assumption) ?_
            rotate_left
            · intro w hSw; (try dsimp only at hSw); go_simp; (try with_reducible rfl)
            (try simp only [Act.put, List.setIfInBounds_toArray, List.set_cons_zero, List.set_cons_succ])
            refine wpAnyH_done (by kernel_rfl) ?_ _
            have HR1 := Lib.hid (HR.out.below hb1); have HG1 := Lib.hid (grown_tr HG.out (grown_of hb1 _))
            have d0 := (hb1.cell (p := ⟨g, m, none⟩) HR.out.lt).trans c0
            have d1 := (hb1.cell (p := ⟨g, m + 1, none⟩) HR.out.lt).trans c1
            have e0 := (hb1.frozen (p := ⟨g, m, none⟩) HR.out.lt).trans f0
            have e1 := (hb1.frozen (p := ⟨g, m + 1, none⟩) HR.out.lt).trans f1
            clear c0 c1 f0 f1 SK HCmp hb0 hbd hb1 HR HG hc hn HStep HEnd
            go_wp2_with fail
            refine wp_region_held_drew (S := (fun _ => True)) (by kernel_rfl) ?_ (fun hHeld => ?_)
            · (try dsimp only)
              all_goals trivial
            refine wpAnyH_take (i := 0) (oi := { dst := some 37, op := Op.move (Operand.tmp 0), type := 36, pos := "zsortanyfunc.go:13", after := #[], guard := none }) (v := ?_) rfl (by kernel_rfl) (by kernel_rfl) (by kernel_rfl) (fun _ _ _ h => h) (Or.inl ⟨by rfl, ?_⟩) (by assumption) ?_
            rotate_left
            · intro w hSw; (try dsimp only at hSw); go_simp; (try with_reducible rfl)
            (try simp only [Act.put, List.setIfInBounds_toArray, List.set_cons_zero, List.set_cons_succ])
            refine wpAnyH_take (i := 1) (oi := { dst := some 38, op := Op.move (Operand.tmp 9), type := 3, pos := "zsortanyfunc.go:13", after := #[], guard := none }) (v := ?_) rfl (by kernel_rfl) (by kernel_rfl) (by kernel_rfl) (fun _ _ _ h => h) (Or.inl ⟨by rfl, ?_⟩) (by assumption) ?_
            rotate_left
            · intro w hSw; (try dsimp only at hSw); go_simp; (try with_reducible rfl)
            (try simp only [Act.put, List.setIfInBounds_toArray, List.set_cons_zero, List.set_cons_succ])
            refine wpAnyH_take (i := 2) (oi := { dst := some 39, op := Op.move (Operand.tmp 0), type := 36, pos := "zsortanyfunc.go:13", after := #[{ on := 15, ground := Ground.gcOnly Departure.lateStores }], guard := none }) (v := ?_) rfl (by kernel_rfl) (by kernel_rfl) (by kernel_rfl) (fun _ _ _ h => h) (Or.inl ⟨by rfl, ?_⟩) (by assumption) ?_
            rotate_left
            · intro w hSw; (try dsimp only at hSw); go_simp; (try with_reducible rfl)
            (try simp only [Act.put, List.setIfInBounds_toArray, List.set_cons_zero, List.set_cons_succ])
            refine wpAnyH_take (i := 3) (oi := { dst := some 40, op := Op.move (Operand.tmp 9), type := 3, pos := "zsortanyfunc.go:13", after := #[{ on := 15, ground := Ground.gcOnly Departure.lateStores }], guard := none }) (v := ?_) rfl (by kernel_rfl) (by kernel_rfl) (by kernel_rfl) (fun _ _ _ h => h) (Or.inl ⟨by rfl, ?_⟩) (by assumption) ?_
            rotate_left
            · intro w hSw; (try dsimp only at hSw); go_simp; (try with_reducible rfl)
            (try simp only [Act.put, List.setIfInBounds_toArray, List.set_cons_zero, List.set_cons_succ])
            refine wpAnyH_take (i := 4) (oi := { dst := some 41, op := Op.binOp BinOp.sub 3 (Operand.tmp 40) (Operand.const (Value.int IntKind.i64 1)) 3, type := 3, pos := "zsortanyfunc.go:13", after := #[{ on := 3, ground := Ground.data }, { on := 15, ground := Ground.gcOnly Departure.lateStores }], guard := none }) (v := ?_) rfl (by kernel_rfl) (by kernel_rfl) (by kernel_rfl) (fun _ _ _ h => h) (Or.inl ⟨by rfl, ?_⟩) (by assumption) ?_
            rotate_left
            · intro w hSw; (try dsimp only at hSw); go_simp; (try with_reducible rfl)
            (try simp only [Act.put, List.setIfInBounds_toArray, List.set_cons_zero, List.set_cons_succ])
            refine wpAnyH_take (i := 5) (oi := { dst := some 42, op := Op.move (Operand.tmp 0), type := 36, pos := "zsortanyfunc.go:13", after := #[], guard := none }) (v := ?_) rfl (by kernel_rfl) (by kernel_rfl) (by kernel_rfl) (fun _ _ _ h => h) (Or.inl ⟨by rfl, ?_⟩) (by assumption) ?_
            rotate_left
            · intro w hSw; (try dsimp only at hSw); go_simp; (try with_reducible rfl)
            (try simp only [Act.put, List.setIfInBounds_toArray, List.set_cons_zero, List.set_cons_succ])
            refine wpAnyH_take (i := 6) (oi := { dst := some 43, op := Op.move (Operand.tmp 9), type := 3, pos := "zsortanyfunc.go:13", after := #[], guard := none }) (v := ?_) rfl (by kernel_rfl) (by kernel_rfl) (by kernel_rfl) (fun _ _ _ h => h) (Or.inl ⟨by rfl, ?_⟩) (by assumption) ?_
            rotate_left
            · intro w hSw; (try dsimp only at hSw); go_simp; (try with_reducible rfl)
            (try simp only [Act.put, List.setIfInBounds_toArray, List.set_cons_zero, List.set_cons_succ])
            refine wpAnyH_take (i := 7) (oi := { dst := some 44, op := Op.binOp BinOp.sub 3 (Operand.tmp 43) (Operand.const (Value.int IntKind.i64 1)) 3, type := 3, pos := "zsortanyfunc.go:13", after := #[{ on := 6, ground := Ground.data }], guard := none }) (v := ?_) rfl (by kernel_rfl) (by kernel_rfl) (by kernel_rfl) (fun _ _ _ h => h) (Or.inl ⟨by rfl, ?_⟩) (by assumption) ?_
            rotate_left
            · intro w hSw; (try dsimp only at hSw); go_simp; (try with_reducible rfl)
            (try simp only [Act.put, List.setIfInBounds_toArray, List.set_cons_zero, List.set_cons_succ])
            refine wpAnyH_take (i := 8) (oi := { dst := some 45, op := Op.indexAddr 36 (Operand.tmp 42) (Operand.tmp 44), type := 0, pos := "zsortanyfunc.go:13", after := #[{ on := 5, ground := Ground.data }, { on := 7, ground := Ground.data }], guard := none }) (v := ?_) rfl (by kernel_rfl) (by kernel_rfl) (by kernel_rfl) (fun _ _ _ h => h) (Or.inl ⟨by rfl, ?_⟩) (by assumption) ?_
            rotate_left
            · intro w hSw; (try dsimp only at hSw); go_simp; (try with_reducible rfl)
            (try simp only [Act.put, List.setIfInBounds_toArray, List.set_cons_zero, List.set_cons_succ])
            refine wpAnyH_take (i := 10) (oi := { dst := some 47, op := Op.move (Operand.tmp 0), type := 36, pos := "zsortanyfunc.go:13", after := #[], guard := none }) (v := ?_) rfl (by kernel_rfl) (by kernel_rfl) (by kernel_rfl) (fun _ _ _ h => h) (Or.inl ⟨by rfl, ?_⟩) (by assumption) ?_
            rotate_left
            · intro w hSw; (try dsimp only at hSw); go_simp; (try with_reducible rfl)
            (try simp only [Act.put, List.setIfInBounds_toArray, List.set_cons_zero, List.set_cons_succ])
            refine wpAnyH_take (i := 11) (oi := { dst := some 48, op := Op.move (Operand.tmp 9), type := 3, pos := "zsortanyfunc.go:13", after := #[], guard := none }) (v := ?_) rfl (by kernel_rfl) (by kernel_rfl) (by kernel_rfl) (fun _ _ _ h => h) (Or.inl ⟨by rfl, ?_⟩) (by assumption) ?_
            rotate_left
            · intro w hSw; (try dsimp only at hSw); go_simp; (try with_reducible rfl)
            (try simp only [Act.put, List.setIfInBounds_toArray, List.set_cons_zero, List.set_cons_succ])
            refine wpAnyH_take (i := 12) (oi := { dst := some 49, op := Op.indexAddr 36 (Operand.tmp 47) (Operand.tmp 48), type := 0, pos := "zsortanyfunc.go:13", after := #[{ on := 10, ground := Ground.data }, { on := 11, ground := Ground.data }], guard := none }) (v := ?_) rfl (by kernel_rfl) (by kernel_rfl) (by kernel_rfl) (fun _ _ _ h => h) (Or.inl ⟨by rfl, ?_⟩) (by assumption) ?_
            rotate_left
            · intro w hSw; (try dsimp only at hSw); go_simp; (try with_reducible rfl)
            (try simp only [Act.put, List.setIfInBounds_toArray, List.set_cons_zero, List.set_cons_succ])
            refine wpAnyH_ready (rs := [9, 13]) (by kernel_rfl) (by simp) ?_
            refine AllReadyH.cons (o := { dst := some 46, op := Op.load 9 (Operand.tmp 45), type := 9, pos := "zsortanyfunc.go:13", after := #[{ on := 8, ground := Ground.data }], guard := none }) rfl (fun K hK => ?_) (AllReadyH.cons (o := { dst := some 50, op := Op.load 9 (Operand.tmp 49), type := 9, pos := "zsortanyfunc.go:13", after := #[{ on := 12, ground := Ground.data }], guard := none }) rfl (fun K hK => ?_) AllReadyH.nil)
            · go_simp
              refine hK.out _ _ ?_ (fun hHeld => ?_)
              · (try dsimp only)
                all_goals trivial
              clear hK K
              (try simp only [Act.put, List.setIfInBounds_toArray, List.set_cons_zero, List.set_cons_succ])
              refine wpAnyH_ready (rs := [13]) (by kernel_rfl) (by simp) ?_
              refine AllReadyH.cons (o := { dst := some 50, op := Op.load 9 (Operand.tmp 49), type := 9, pos := "zsortanyfunc.go:13", after := #[{ on := 12, ground := Ground.data }], guard := none }) rfl (fun K hK => ?_) AllReadyH.nil
              go_simp
              skip
              clear hHeld
              refine hK.out _ _ ?_ (fun hHeld => ?_)
              · (try dsimp only)
                all_goals trivial
              clear hK K
              (try simp only [Act.put, List.setIfInBounds_toArray, List.set_cons_zero, List.set_cons_succ])
              refine wpAnyH_take (i := 14) (oi := { dst := some 51, op := Op.indexAddr 36 (Operand.tmp 37) (Operand.tmp 38), type := 0, pos := "zsortanyfunc.go:13", after := #[{ on := 0, ground := Ground.data }, { on := 1, ground := Ground.data }, { on := 0, ground := Ground.phase }, { on := 1, ground := Ground.phase }, { on := 2, ground := Ground.textOnly Departure.lateStores }, { on := 3, ground := Ground.textOnly Departure.lateStores }, { on := 4, ground := Ground.textOnly Departure.lateStores }, { on := 5, ground := Ground.phase }, { on := 6, ground := Ground.phase }, { on := 7, ground := Ground.phase }, { on := 8, ground := Ground.phase }, { on := 9, ground := Ground.phase }, { on := 10, ground := Ground.textOnly Departure.lateStores }, { on := 11, ground := Ground.textOnly Departure.lateStores }, { on := 12, ground := Ground.textOnly Departure.lateStoresUnsure }, { on := 13, ground := Ground.phase }], guard := none }) (v := ?_) rfl (by kernel_rfl) (by kernel_rfl) (by kernel_rfl) (fun _ _ _ h => h) (Or.inl ⟨by rfl, ?_⟩) (by assumption) ?_
              rotate_left
              · intro w hSw; (try dsimp only at hSw); go_simp; (try with_reducible rfl)
              (try simp only [Act.put, List.setIfInBounds_toArray, List.set_cons_zero, List.set_cons_succ])
              refine wpAnyH_ready (rs := [15]) (by kernel_rfl) (by simp) ?_
              refine AllReadyH.cons (o := { dst := none, op := Op.store 9 (Operand.tmp 51) (Operand.tmp 46), type := 0, pos := "zsortanyfunc.go:13", after := #[{ on := 14, ground := Ground.data }, { on := 9, ground := Ground.data }, { on := 0, ground := Ground.phase }, { on := 1, ground := Ground.phase }, { on := 2, ground := Ground.textOnly Departure.lateStores }, { on := 3, ground := Ground.textOnly Departure.lateStores }, { on := 4, ground := Ground.textOnly Departure.lateStores }, { on := 5, ground := Ground.phase }, { on := 6, ground := Ground.phase }, { on := 7, ground := Ground.phase }, { on := 8, ground := Ground.phase }, { on := 9, ground := Ground.phase }, { on := 10, ground := Ground.textOnly Departure.lateStores }, { on := 11, ground := Ground.textOnly Departure.lateStores }, { on := 12, ground := Ground.textOnly Departure.lateStoresUnsure }, { on := 13, ground := Ground.phase }], guard := none }) rfl (fun K hK => ?_) AllReadyH.nil
              go_simp
              skip
              clear hHeld
              refine hK.out _ _ ?_ (fun hHeld => ?_)
              · (try dsimp only)
                all_goals trivial
              clear hK K
              (try simp only [Act.put, List.setIfInBounds_toArray, List.set_cons_zero, List.set_cons_succ])
              refine wpAnyH_take (i := 16) (oi := { dst := some 52, op := Op.indexAddr 36 (Operand.tmp 39) (Operand.tmp 41), type := 0, pos := "zsortanyfunc.go:13", after := #[{ on := 2, ground := Ground.data }, { on := 4, ground := Ground.data }, { on := 0, ground := Ground.phase }, { on := 1, ground := Ground.phase }, { on := 2, ground := Ground.phase }, { on := 3, ground := Ground.phase }, { on := 4, ground := Ground.phase }, { on := 5, ground := Ground.phase }, { on := 6, ground := Ground.phase }, { on := 7, ground := Ground.phase }, { on := 8, ground := Ground.phase }, { on := 9, ground := Ground.phase }, { on := 10, ground := Ground.phase }, { on := 11, ground := Ground.phase }, { on := 12, ground := Ground.phase }, { on := 13, ground := Ground.phase }, { on := 14, ground := Ground.phase }, { on := 15, ground := Ground.phase }], guard := none }) (v := ?_) rfl (by kernel_rfl) (by kernel_rfl) (by kernel_rfl) (fun _ _ _ h => h) (Or.inl ⟨by rfl, ?_⟩) (by assumption) ?_
              rotate_left
              · intro w hSw; (try dsimp only at hSw); go_simp; (try with_reducible rfl)
              (try simp only [Act.put, List.setIfInBounds_toArray, List.set_cons_zero, List.set_cons_succ])
              refine wpAnyH_ready (rs := [17]) (by kernel_rfl) (by simp) ?_
              refine AllReadyH.cons (o := { dst := none, op := Op.store 9 (Operand.tmp 52) (Operand.tmp 50), type := 0, pos := "zsortanyfunc.go:13", after := #[{ on := 16, ground := Ground.data }, { on := 13, ground := Ground.data }, { on := 15, ground := Ground.chain }, { on := 0, ground := Ground.phase }, { on := 1, ground := Ground.phase }, { on := 2, ground := Ground.phase }, { on := 3, ground := Ground.phase }, { on := 4, ground := Ground.phase }, { on := 5, ground := Ground.phase }, { on := 6, ground := Ground.phase }, { on := 7, ground := Ground.phase }, { on := 8, ground := Ground.phase }, { on := 9, ground := Ground.phase }, { on := 10, ground := Ground.phase }, { on := 11, ground := Ground.phase }, { on := 12, ground := Ground.phase }, { on := 13, ground := Ground.phase }, { on := 14, ground := Ground.phase }, { on := 15, ground := Ground.phase }], guard := none }) rfl (fun K hK => ?_) AllReadyH.nil
              go_simp
              skip
              clear hHeld
              refine hK.out _ _ ?_ (fun hHeld => ?_)
              · (try dsimp only)
                all_goals trivial
              clear hK K
              (try simp only [Act.put, List.setIfInBounds_toArray, List.set_cons_zero, List.set_cons_succ])
              refine wpAnyH_done (by kernel_rfl) ?_ _
              go_wp2
              refine ⟨⟨m, swapL M m hm1, rfl, HPm.out, HS'.out, ?_, ?_⟩, ?_⟩
              · rw [← hMset.out]; exact ((HR1.out.put x).put y).below (Below.refl _ _).drew
              · exact grown_tr (grown_tr (grown_tr HG1.out (grown_set _ _ _ _)) (grown_set _ _ _ _)) (grown_of (Below.refl _ _).drew _)
              · simp [intOf]
            · go_simp
              refine hK.out _ _ ?_ (fun hHeld => ?_)
              · (try dsimp only)
                all_goals trivial
              clear hK K
              (try simp only [Act.put, List.setIfInBounds_toArray, List.set_cons_zero, List.set_cons_succ])
              refine wpAnyH_ready (rs := [9]) (by kernel_rfl) (by simp) ?_
              refine AllReadyH.cons (o := { dst := some 46, op := Op.load 9 (Operand.tmp 45), type := 9, pos := "zsortanyfunc.go:13", after := #[{ on := 8, ground := Ground.data }], guard := none }) rfl (fun K hK => ?_) AllReadyH.nil
              go_simp
              skip
              clear hHeld
              refine hK.out _ _ ?_ (fun hHeld => ?_)
              · (try dsimp only)
                all_goals trivial
              clear hK K
              (try simp only [Act.put, List.setIfInBounds_toArray, List.set_cons_zero, List.set_cons_succ])
              refine wpAnyH_take (i := 14) (oi := { dst := some 51, op := Op.indexAddr 36 (Operand.tmp 37) (Operand.tmp 38), type := 0, pos := "zsortanyfunc.go:13", after := #[{ on := 0, ground := Ground.data }, { on := 1, ground := Ground.data }, { on := 0, ground := Ground.phase }, { on := 1, ground := Ground.phase }, { on := 2, ground := Ground.textOnly Departure.lateStores }, { on := 3, ground := Ground.textOnly Departure.lateStores }, { on := 4, ground := Ground.textOnly Departure.lateStores }, { on := 5, ground := Ground.phase }, { on := 6, ground := Ground.phase }, { on := 7, ground := Ground.phase }, { on := 8, ground := Ground.phase }, { on := 9, ground := Ground.phase }, { on := 10, ground := Ground.textOnly Departure.lateStores }, { on := 11, ground := Ground.textOnly Departure.lateStores }, { on := 12, ground := Ground.textOnly Departure.lateStoresUnsure }, { on := 13, ground := Ground.phase }], guard := none }) (v := ?_) rfl (by kernel_rfl) (by kernel_rfl) (by kernel_rfl) (fun _ _ _ h => h) (Or.inl ⟨by rfl, ?_⟩) (by assumption) ?_
              rotate_left
              · intro w hSw; (try dsimp only at hSw); go_simp; (try with_reducible rfl)
              (try simp only [Act.put, List.setIfInBounds_toArray, List.set_cons_zero, List.set_cons_succ])
              refine wpAnyH_ready (rs := [15]) (by kernel_rfl) (by simp) ?_
              refine AllReadyH.cons (o := { dst := none, op := Op.store 9 (Operand.tmp 51) (Operand.tmp 46), type := 0, pos := "zsortanyfunc.go:13", after := #[{ on := 14, ground := Ground.data }, { on := 9, ground := Ground.data }, { on := 0, ground := Ground.phase }, { on := 1, ground := Ground.phase }, { on := 2, ground := Ground.textOnly Departure.lateStores }, { on := 3, ground := Ground.textOnly Departure.lateStores }, { on := 4, ground := Ground.textOnly Departure.lateStores }, { on := 5, ground := Ground.phase }, { on := 6, ground := Ground.phase }, { on := 7, ground := Ground.phase }, { on := 8, ground := Ground.phase }, { on := 9, ground := Ground.phase }, { on := 10, ground := Ground.textOnly Departure.lateStores }, { on := 11, ground := Ground.textOnly Departure.lateStores }, { on := 12, ground := Ground.textOnly Departure.lateStoresUnsure }, { on := 13, ground := Ground.phase }], guard := none }) rfl (fun K hK => ?_) AllReadyH.nil
              go_simp
              skip
              clear hHeld
              refine hK.out _ _ ?_ (fun hHeld => ?_)
              · (try dsimp only)
                all_goals trivial
              clear hK K
              (try simp only [Act.put, List.setIfInBounds_toArray, List.set_cons_zero, List.set_cons_succ])
              refine wpAnyH_take (i := 16) (oi := { dst := some 52, op := Op.indexAddr 36 (Operand.tmp 39) (Operand.tmp 41), type := 0, pos := "zsortanyfunc.go:13", after := #[{ on := 2, ground := Ground.data }, { on := 4, ground := Ground.data }, { on := 0, ground := Ground.phase }, { on := 1, ground := Ground.phase }, { on := 2, ground := Ground.phase }, { on := 3, ground := Ground.phase }, { on := 4, ground := Ground.phase }, { on := 5, ground := Ground.phase }, { on := 6, ground := Ground.phase }, { on := 7, ground := Ground.phase }, { on := 8, ground := Ground.phase }, { on := 9, ground := Ground.phase }, { on := 10, ground := Ground.phase }, { on := 11, ground := Ground.phase }, { on := 12, ground := Ground.phase }, { on := 13, ground := Ground.phase }, { on := 14, ground := Ground.phase }, { on := 15, ground := Ground.phase }], guard := none }) (v := ?_) rfl (by kernel_rfl) (by kernel_rfl) (by kernel_rfl) (fun _ _ _ h => h) (Or.inl ⟨by rfl, ?_⟩) (by assumption) ?_
              rotate_left
              · intro w hSw; (try dsimp only at hSw); go_simp; (try with_reducible rfl)
              (try simp only [Act.put, List.setIfInBounds_toArray, List.set_cons_zero, List.set_cons_succ])
              refine wpAnyH_ready (rs := [17]) (by kernel_rfl) (by simp) ?_
              refine AllReadyH.cons (o := { dst := none, op := Op.store 9 (Operand.tmp 52) (Operand.tmp 50), type := 0, pos := "zsortanyfunc.go:13", after := #[{ on := 16, ground := Ground.data }, { on := 13, ground := Ground.data }, { on := 15, ground := Ground.chain }, { on := 0, ground := Ground.phase }, { on := 1, ground := Ground.phase }, { on := 2, ground := Ground.phase }, { on := 3, ground := Ground.phase }, { on := 4, ground := Ground.phase }, { on := 5, ground := Ground.phase }, { on := 6, ground := Ground.phase }, { on := 7, ground := Ground.phase }, { on := 8, ground := Ground.phase }, { on := 9, ground := Ground.phase }, { on := 10, ground := Ground.phase }, { on := 11, ground := Ground.phase }, { on := 12, ground := Ground.phase }, { on := 13, ground := Ground.phase }, { on := 14, ground := Ground.phase }, { on := 15, ground := Ground.phase }], guard := none }) rfl (fun K hK => ?_) AllReadyH.nil
              go_simp
              skip
              clear hHeld
              refine hK.out _ _ ?_ (fun hHeld => ?_)
              · (try dsimp only)
                all_goals trivial
              clear hK K
              (try simp only [Act.put, List.setIfInBounds_toArray, List.set_cons_zero, List.set_cons_succ])
              refine wpAnyH_done (by kernel_rfl) ?_ _
              go_wp2
              refine ⟨⟨m, swapL M m hm1, rfl, HPm.out, HS'.out, ?_, ?_⟩, ?_⟩
              · rw [← hMset.out]; exact ((HR1.out.put x).put y).below (Below.refl _ _).drew
              · exact grown_tr (grown_tr (grown_tr HG1.out (grown_set _ _ _ _)) (grown_set _ _ _ _)) (grown_of (Below.refl _ _).drew _)
              · simp [intOf]
    · have HT : Hid (Asc normLt L n) := Lib.hid (fun q hq hqn => HA.out q hq (by omega))
      go_wp2
      go_end0
      exact ⟨rfl, ⟨L, HP.out, HT.out, HR.out⟩, HG.out⟩
end Go.Proofs.YtjajpdghamecoaaGreat
/- AttrOf: what the program returns, and what the specification returns. -/
namespace Go.Proofs.YtjajpdghamecoaaGreat
open Go.RowKit
attribute [local go_sem ↓] Go.wp_at_zero Go.wp_at_succ

noncomputable def attrOfL (d : RdnL) (l : List AttrV) (nm : ByteArray) : List ByteArray := if rightB d l = true then valsOf l nm else []
theorem attrOf_yes {d : RdnL} {l : List AttrV} (h : rightB d l = true) (nm : ByteArray) : attrOfL d l nm = valsOf l nm := by unfold attrOfL; rw [if_pos h]
theorem attrOf_no {d : RdnL} {l : List AttrV} (h : rightB d l = false) (nm : ByteArray) : attrOfL d l nm = [] := by unfold attrOfL; rw [h]; rfl
theorem attrOf_long {d : RdnL} {l : List AttrV} {nm : ByteArray} (h : 20 < nm.size) : attrOfL d l nm = [] := by
  unfold attrOfL
  split
  · rename_i hr
    cases ha : atN l nm with
    | none => exact (atN_none ha).2
    | some i =>
      obtain ⟨hi, h1, _⟩ := atN_some ha
      have := name_short hr (List.getElem_mem hi)
      rw [h1] at this; omega
  · rfl
theorem FitsV.nil : FitsV [] := ⟨by simp, fun s h => by simp at h⟩
theorem valsOf_fits {l : List AttrV} (h : FitsA l) (nm : ByteArray) : FitsV (valsOf l nm) := by
  cases ha : atN l nm with
  | none => rw [(atN_none ha).2]; exact .nil
  | some i =>
    obtain ⟨hi, _, h2, _⟩ := atN_some ha
    rw [h2]; exact (h.at hi).2
/-- new texts are returned -/
def GivesV (w : World) (V : List ByteArray) (e : Ending) (w' : World) : Prop := (∃ v, e = .returned v ∧ w'.ownsRow w.heap.size 9 1 v V.length (ss V)) ∧ Below w.heap.size w w'
theorem own_none (w : World) (B : Nat) : w.ownsRow B 9 1 (.slice none 0 0) 0 (ss []) := ⟨rfl, .inl ⟨rfl, rfl⟩⟩
theorem Tryz.zero48 (w : World) : (zeroValue 48).run Tryz.prog w = .ok (.agg #[.string ByteArray.empty, .slice none 0 0]) w := by kernel_rfl
theorem field81b (s : ByteArray) (v : Value) (w : World) : (Instr.field 48 (.agg #[.string s, v]) 1).run Tryz.prog w = .ok v w := by kernel_rfl
set_option maxRecDepth 100000 in
set_option maxHeartbeats 1000000 in
theorem AttrOf_any (ao bo : Option Addr) (d : RdnL) (l : List AttrV) (ca cb : Nat) (nm : ByteArray) (w : World) (hd : DnAt w ao d) (hl : AttrsAt w bo l) (hfd : Fits d) (hfl : FitsA l) (hn : nm.size ≤ maxLen) :
    Calls Tryz.prog 28 #[.agg #[.slice ao d.length ca, .slice bo l.length cb], .string nm] w (GivesV w (attrOfL d l nm)) := by
  have HD := Lib.hid hd; have HL := Lib.hid hl; have FD := Lib.hid hfd; have FL := Lib.hid hfl; clear hd hl hfd hfl
  go_enter Tryz.func28, Tryz.ntmps28
  go_wp2_with fail
  refine calls_any' (fun W => Below w.heap.size w W ∧ Two W w.heap.size 26 (.slice ao d.length ca) (.slice bo l.length cb)) ⟨more (Below.refl _ _) _, twoNew w 26 _ _⟩ ?_
  rintro W ⟨hbW, t0⟩
  refine (EntryRight_any ao bo d l ca cb W (HD.out.below hbW) (HL.out.below hbW) FD.out FL.out).mono ?_
  rintro e w1 ⟨rfl, hb1⟩
  have B1 := Lib.hid (hbW.trans (hb1.mono hbW.size)); have T1 := Lib.hid (t0.below hb1)
  clear hbW t0 hb1
  obtain ⟨⟨c0, c1⟩, _⟩ := T1.out.cells
  cases hr : rightB d l
  · have HE := Lib.hid (attrOf_no hr nm)
    go_wp2
    go_ret
    exact ⟨⟨_, rfl, by rw [HE.out]; exact own_none _ _⟩, B1.out⟩
  · have HE := Lib.hid (attrOf_yes hr nm)
    have HR := Lib.hid hr
    clear hr
    go_wp2_with fail
    refine (attrsByName_any bo l cb w1 (HL.out.below B1.out) FL.out).mono ?_
    rintro e w2 ⟨rfl, ⟨ps, hps, hown⟩, hb2⟩
    obtain ⟨x, vo, vc, hat, hvs⟩ := map_at hps HR.out nm
    obtain ⟨v, pl, hrun, hv⟩ := hown.lookup (t := 83) (e := 48) Tryz.keyed9 Tryz.underlying83 (Tryz.zero48 w2) (zd := .held (.agg #[.string ByteArray.empty, .slice none 0 0])) (zp := []) rfl (Go.WideMaps.keyOf_string_mk Tryz.underlying9 (s := nm) hn)
    rw [hat] at hv
    have hv' : v = .agg #[.string x, .slice vo (valsOf l nm).length vc] := by
      unfold valR at hv; injection hv with hv; injection hv with hv _; injection hv
    subst hv'
    have HV := Lib.hid (hvs.1.below hb2)
    have FV := Lib.hid (valsOf_fits FL.out nm)
    have B2 := Lib.hid (B1.out.trans (hb2.mono B1.out.size))
    clear hv hat hvs hown hps hb2 c0 c1
    have hfd := field81b x (.slice vo (valsOf l nm).length vc)
    go_wp2_with fail
    refine (copyTexts_any vo (valsOf l nm) vc w2 HV.out FV.out).mono ?_
    rintro e w3 ⟨⟨v3, rfl, hown3⟩, hb3⟩
    have O3 := Lib.hid (own_mono hown3 B2.out.size)
    clear hown3
    go_wp2
    go_ret
    exact ⟨⟨_, rfl, by rw [HE.out]; exact O3.out⟩, B2.out.trans (hb3.mono B2.out.size)⟩
theorem ss_one (l : List ByteArray) : ∀ u ∈ ss l, u.oneCell' = true := by
  intro u hu
  unfold ss at hu
  obtain ⟨s, _, rfl⟩ := List.mem_map.1 hu
  rfl
theorem ss_append (a b : List ByteArray) : ss (a ++ b) = ss a ++ ss b := by unfold ss; rw [List.map_append]
theorem strs_cells {w : World} {b off : Nat} {d : List ByteArray} (h : StrsAt w (some ⟨b, off, none⟩) d) : ∀ j u, (ss d)[j]? = some u → w.cell? ((⟨b, off, none⟩ : Addr).add j) = some u := by
  intro j u hu
  have ea : (⟨b, off, none⟩ : Addr).add j = ⟨b, off + j, none⟩ := by unfold Addr.add; split <;> simp_all
  rw [ea]
  unfold ss at hu
  rw [List.getElem?_map] at hu
  by_cases hj : j < d.length
  · rw [List.getElem?_eq_getElem hj] at hu
    obtain ⟨b', off', e, _, c⟩ := h.at hj
    cases e
    rw [c, ← hu]; rfl
  · rw [List.getElem?_eq_none (by omega)] at hu; cases hu
/-- append(v, texts...) onto a row that the call owns -/
theorem append_strs {ops : Array Oper} {rest : List Oper} {o : Oper} {a : Act} {Q : Exit → Act → World → Prop} {w0 wr : World} (B : Nat) (hgd : o.guard = none) (s x : Operand)
    (ho : o.op = .call { callee := .builtin .append, args := #[s, x], argTypes := #[36, 36] }) (v : Value) (pre : List ByteArray) (hs : a.eval s = v) (hown : wr.ownsRow B 9 1 v pre.length (ss pre))
    (ao : Option Addr) (d : List ByteArray) (c n : Nat) (hn : n = d.length) (hx : a.eval x = .slice ao n c) (hd : StrsAt wr ao d) (hc : ao = none → c = 0) (hlen : pre.length + d.length ≤ 1000000000) (hB : B ≤ wr.heap.size) (hbel : Below B w0 wr)
    (h : ∀ v' w', w'.ownsRow B 9 1 v' (pre ++ d).length (ss (pre ++ d)) → Below B w0 w' → wpList Tryz.prog ops Q rest (a.put o.dst v') w') :
    wpList Tryz.prog ops Q (o :: rest) a wr := by
  obtain ⟨i0, hi, hz0, hz1, hz2⟩ := info_parts Tryz.info9
  subst hn
  rcases ao with _ | ad
  · have hd0 : d = [] := by
      rcases hd with h | ⟨b, off, e, _⟩
      · exact h
      · cases e
    subst hd0
    have := hc rfl
    subst this
    refine wpList_append_own_none hgd s x 36 ho B 9 i0 1 Tryz.underlying36 hi v pre.length (ss pre) hs hown hx (h v wr (by rw [List.append_nil]; exact hown) hbel)
  · have hnews : ∀ j u, (ss d)[j]? = some u → wr.cell? (ad.add j) = some u := by
      rcases hd with hd | ⟨b, off, e, h2, h3⟩
      · subst hd; intro j u hu; simp [ss] at hu
      · cases e; exact strs_cells (.inr ⟨b, off, rfl, h2, h3⟩)
    refine wpList_append_own _ hgd s x 36 ho B 9 i0 _ 1 16 Tryz.underlying36 hi hz0 hz1 hz2 rfl (by decide) v pre.length (ss pre) hs hown ad d.length c (ss d) hx (by rw [ss_length]; omega) hnews (ss_one d) ?_ ?_ hB ?_
    · unfold maxLen; omega
    · omega
    · intro v' w' h1 h2 h3
      refine h v' w' ?_ (hbel.grown h2 hB (fun k hk => (hown.lt k hk).1))
      rw [ss_append, List.length_append]; exact h1
end Go.Proofs.YtjajpdghamecoaaGreat
/- AttrOf: what the specification returns. -/
namespace Go.Proofs.YtjajpdghamecoaaGreat
open Go.RowKit
attribute [local go_sem ↓] Go.wp_at_zero Go.wp_at_succ

theorem name_eq (a b : ByteArray) : (a.toList == b.toList) = decide (a = b) := by
  rw [Lib.toList_data, Lib.toList_data, Bool.eq_iff_iff]
  simp only [beq_iff_eq, decide_eq_true_eq]
  constructor
  · intro h; exact ByteArray.ext (Array.toList_inj.1 h)
  · intro h; rw [h]
def atI (l : List AttrV) (nm : ByteArray) : Int := match atN l nm with | some i => (i : Int) | none => -1
theorem atI_none {l : List AttrV} {nm : ByteArray} (h : ∀ i (hi : i < l.length), l[i].1 ≠ nm) : atI l nm = -1 := by
  have : atN l nm = none := by
    unfold atN
    rw [List.findIdx?_eq_none_iff]
    intro a ha
    obtain ⟨i, hi, rfl⟩ := List.getElem_of_mem ha
    simpa using h i hi
  unfold atI; rw [this]
theorem atI_some {l : List AttrV} {nm : ByteArray} {k : Nat} (hk : k < l.length) (h1 : l[k].1 = nm) (h : ∀ i (hi : i < l.length), i < k → l[i].1 ≠ nm) : atI l nm = (k : Int) := by
  have : atN l nm = some k := by
    unfold atN
    rw [List.findIdx?_eq_some_iff_getElem]
    exact ⟨hk, by simpa using h1, fun j hj => by simpa using h j (by omega) hj⟩
  unfold atI; rw [this]
set_option maxRecDepth 100000 in
set_option maxHeartbeats 1000000 in
theorem l03At_any (ao bo : Option Addr) (d : RdnL) (l : List AttrV) (ca cb : Nat) (nm : ByteArray) (w : World) (hl : AttrsAt w bo l) (hfl : FitsA l) :
    Calls Tryz.prog 111 #[.agg #[.slice ao d.length ca, .slice bo l.length cb], .string nm] w fun e w' => e = .returned (.int .i64 (atI l nm)) ∧ Below w.heap.size w w' := by
  have hll := hfl.1
  have HL := Lib.hid hl; have FL := Lib.hid hfl; clear hl hfl
  go_enter Tryz.func111, Tryz.ntmps111
  go_wp2_with fail
  refine wp_world (fun W => Below w.heap.size w W ∧ Two W w.heap.size 26 (.slice ao d.length ca) (.slice bo l.length cb)) ⟨more (Below.refl _ _) _, twoNew w 26 _ _⟩ ?_
  rintro W ⟨hbW, t0⟩
  have BW := Lib.hid hbW; have T0 := Lib.hid t0
  clear hbW t0
  obtain ⟨⟨_, c1⟩, _⟩ := T0.out.cells
  go_wp2_with fail
  go_loop [5] (fun i => ∃ k : Nat, k ≤ l.length ∧ i = .int .i64 k ∧ ∀ j (hj : j < l.length), j < k → l[j].1 ≠ nm) (fun i => l.length - (intOf i).toNat)
  case atStart => exact ⟨0, Nat.zero_le _, rfl, fun j _ h => absurd h (Nat.not_lt_zero _)⟩
  case round =>
    obtain ⟨k, hk, rfl, hj⟩ := hrel
    have Hj := Lib.hid hj; clear hj
    by_cases hlt : k < l.length
    · obtain ⟨p, off, vo, vc, rfl, hp0, hd1, hd2, _⟩ := (HL.out.below BW.out).at hlt
      have g1 : (0 : Int) ≤ (k : Int) := by omega
      have g2 : (k : Int) < (l.length : Int) := by omega
      by_cases he : l[k].1 = nm
      · have HT := Lib.hid (atI_some hlt he Hj.out)
        have hq : (l[k].1.toList == nm.toList) = true := by rw [name_eq]; simpa using he
        clear he
        generalize l[k].1 = A at *
        go_wp2
        go_ret
        exact ⟨ret_int' HT.out.symm, BW.out⟩
      · have HN : Hid (∀ j (hj : j < l.length), j < k + 1 → l[j].1 ≠ nm) := Lib.hid (fun j h hjk => by
          by_cases e : j = k
          · subst e; exact he
          · exact Hj.out j h (by omega))
        have hq : (l[k].1.toList == nm.toList) = false := by rw [name_eq]; simpa using he
        clear he
        generalize l[k].1 = A at *
        go_wp2
        go_round
        case rel => exact ⟨k + 1, by omega, by go_num, HN.out⟩
        case measure => simp [intOf]; omega
    · have HT := Lib.hid (atI_none (l := l) (nm := nm) (fun i hi => Hj.out i hi (by omega)))
      go_wp2
      go_ret
      exact ⟨ret_int' HT.out.symm, BW.out⟩
/-- the texts of an attribute, where they lie -/
def GivesAt (w : World) (V : List ByteArray) (e : Ending) (w' : World) : Prop := (∃ vo vc, e = .returned (.slice vo V.length vc) ∧ ValsAt w' vo vc V) ∧ Below w.heap.size w w'
theorem of_at {l : List AttrV} {nm : ByteArray} (h : atI l nm < 0) : valsOf l nm = [] := by
  unfold atI at h
  cases ha : atN l nm with
  | none => exact (atN_none ha).2
  | some i => rw [ha] at h; simp at h; omega
theorem of_at' {l : List AttrV} {nm : ByteArray} (h : ¬ atI l nm < 0) : ∃ k, ∃ hk : k < l.length, atI l nm = (k : Int) ∧ valsOf l nm = l[k].2 := by
  unfold atI at h ⊢
  cases ha : atN l nm with
  | none => rw [ha] at h; simp at h
  | some i =>
    obtain ⟨hi, _, h2, _⟩ := atN_some ha
    exact ⟨i, hi, rfl, h2⟩
set_option maxRecDepth 100000 in
set_option maxHeartbeats 1000000 in
theorem l03Of_any (ao bo : Option Addr) (d : RdnL) (l : List AttrV) (ca cb : Nat) (nm : ByteArray) (w : World) (hl : AttrsAt w bo l) (hfl : FitsA l) :
    Calls Tryz.prog 76 #[.agg #[.slice ao d.length ca, .slice bo l.length cb], .string nm] w (GivesAt w (valsOf l nm)) := by
  have hll := hfl.1
  have HL := Lib.hid hl; have FL := Lib.hid hfl; clear hl hfl
  go_enter Tryz.func76, Tryz.ntmps76
  go_wp2_with fail
  refine calls_any' (fun W => Below w.heap.size w W ∧ Two W w.heap.size 26 (.slice ao d.length ca) (.slice bo l.length cb)) ⟨more (Below.refl _ _) _, twoNew w 26 _ _⟩ ?_
  rintro W ⟨hbW, t0⟩
  refine (l03At_any ao bo d l ca cb nm W (HL.out.below hbW) FL.out).mono ?_
  rintro e w1 ⟨rfl, hb1⟩
  have B1 := Lib.hid (hbW.trans (hb1.mono hbW.size)); have T1 := Lib.hid (t0.below hb1)
  clear hbW t0 hb1
  by_cases h : atI l nm < 0
  · have HV := Lib.hid (of_at h)
    generalize atI l nm = q at *
    go_wp2
    go_ret
    exact ⟨⟨none, 0, by rw [HV.out]; rfl, by rw [HV.out]; exact ⟨.inl rfl, Nat.le_refl _, fun _ => rfl⟩⟩, B1.out⟩
  · obtain ⟨k, hk, e1, e2⟩ := of_at' h
    rw [e1]
    have HV := Lib.hid e2
    clear h e1 e2
    obtain ⟨⟨_, c1⟩, _⟩ := T1.out.cells
    obtain ⟨p, off, vo, vc, rfl, hp0, hd1, hd2, hv⟩ := (HL.out.below B1.out).at hk
    have HVv := Lib.hid hv
    have g0 : ¬ (k : Int) < 0 := by omega
    have g1 : (0 : Int) ≤ (k : Int) := by omega
    have g2 : (k : Int) < (l.length : Int) := by omega
    clear hv hd1
    generalize l[k].2 = V at *
    go_wp2
    go_ret
    exact ⟨⟨vo, vc, by rw [HV.out]; rfl, by rw [HV.out]; exact HVv.out⟩, B1.out⟩
theorem own_zero (w : World) {B g : Nat} (hg : g = w.heap.size) (hB : B ≤ g) : (w.alloc (.cells #[] 9)).ownsRow B 9 1 (.slice (some ⟨g, 0, none⟩) 0 0) 0 (ss []) := by
  subst hg
  exact ⟨rfl, .inr ⟨w.heap.size, 0, #[], rfl, hB, heap_alloc_new w _, by simp, by unfold maxLen; simp, rfl, rfl⟩⟩
set_option maxRecDepth 100000 in
set_option maxHeartbeats 1000000 in
theorem SpecAttrOf_any (ao bo : Option Addr) (d : RdnL) (l : List AttrV) (ca cb : Nat) (nm : ByteArray) (w : World) (hd : DnAt w ao d) (hl : AttrsAt w bo l) (hfd : Fits d) (hfl : FitsA l) (hn : nm.size ≤ maxLen) :
    Calls Tryz.prog 29 #[.agg #[.slice ao d.length ca, .slice bo l.length cb], .string nm] w (GivesV w (attrOfL d l nm)) := by
  unfold maxLen at hn
  have HD := Lib.hid hd; have HL := Lib.hid hl; have FD := Lib.hid hfd; have FL := Lib.hid hfl; clear hd hl hfd hfl
  by_cases h8 : 8000 < nm.size
  · have HE := Lib.hid (attrOf_long (d := d) (l := l) (nm := nm) (by omega))
    go_enter Tryz.func29, Tryz.ntmps29
    go_wp2
    go_ret
    exact ⟨⟨_, rfl, by rw [HE.out]; exact own_zero _ (by simp) (by simp)⟩, more (more (Below.refl _ _) _) _⟩
  · have h8' : ¬ 8000 < (nm.size : Int) := by omega
    go_enter Tryz.func29, Tryz.ntmps29
    go_wp2_with fail
    refine calls_any' (fun W => Below w.heap.size w W ∧ Two W w.heap.size 26 (.slice ao d.length ca) (.slice bo l.length cb)) ⟨more (Below.refl _ _) _, twoNew w 26 _ _⟩ ?_
    rintro W ⟨hbW, t0⟩
    refine (SpecEntryRight_any ao bo d l ca cb W (HD.out.below hbW) (HL.out.below hbW) FD.out FL.out).mono ?_
    rintro e w1 ⟨rfl, hb1⟩
    have B1 := Lib.hid (hbW.trans (hb1.mono hbW.size)); have T1 := Lib.hid (t0.below hb1)
    clear hbW t0 hb1
    obtain ⟨⟨c0, c1⟩, _⟩ := T1.out.cells
    cases hr : rightB d l
    · have HE := Lib.hid (attrOf_no hr nm)
      go_wp2
      go_ret
      exact ⟨⟨_, rfl, by rw [HE.out]; exact own_zero _ rfl B1.out.size⟩, more B1.out _⟩
    · have HE := Lib.hid (attrOf_yes hr nm)
      have FV := Lib.hid (valsOf_fits FL.out nm)
      clear hr
      have hlv := FV.out.1
      obtain ⟨⟨p0, p1⟩, _⟩ := (T1.out.alloc (.cells #[] 9)).cells
      have O1 := Lib.hid (own_zero w1 (g := w1.heap.size) rfl B1.out.size)
      have B2 := Lib.hid (more B1.out (.cells #[] 9))
      go_wp2_with fail
      refine (l03Of_any ao bo d l ca cb nm _ (HL.out.below B2.out) FL.out).mono ?_
      rintro e w2 ⟨⟨vo, vc, rfl, hv⟩, hb2⟩
      have O2 := own_below O1.out hb2
      have B3 := B2.out.trans (hb2.mono B2.out.size)
      have hs3 := B3.size
      have HE2 : Hid (attrOfL d l nm = [] ++ valsOf l nm) := Lib.hid (by rw [HE.out]; rfl)
      have hv1 := hv.1; have hv2 := hv.2.2
      clear hv hb2 c0 c1 p0 p1 HE
      generalize valsOf l nm = V at *
      have HE3 := Lib.hid HE2.out
      have hlen : ([] : List ByteArray).length + V.length ≤ 1000000000 := by simp; omega
      go_wp2_with (first
        | (at_builtin; refine append_strs w.heap.size rfl _ _ rfl _ [] rfl O2 vo V vc _ rfl rfl hv1 hv2 hlen hs3 B3 ?_; intro v4 w4 hown4 hbel4)
        | (fail "none"))
      go_ret
      exact ⟨⟨_, rfl, by rw [HE3.out]; exact hown4⟩, hbel4⟩
end Go.Proofs.YtjajpdghamecoaaGreat
/- sorted, at texts: what the program's text returns. -/
namespace Go.Proofs.YtjajpdghamecoaaGreat
open Go.RowKit
attribute [local go_sem ↓] Go.wp_at_zero Go.wp_at_succ

set_option maxRecDepth 100000 in
set_option maxHeartbeats 1000000 in
theorem pdqS_any (g n cap : Nat) (q : Int) (L0 : List ByteArray) (w : World) (hR : RowS w g cap L0) (hl : L0.length = n) (hn : n ≤ 12) (hz : ∀ s ∈ L0, s.size ≤ maxLen) :
    Calls Tryz.prog 138 #[.slice (some ⟨g, 0, none⟩) n cap, .int .i64 0, .int .i64 n, .int .i64 q, .func (.func 94) #[] #[]] w fun e w' => e = .returned (.tuple #[]) ∧ (∃ L : List ByteArray, L.Perm L0 ∧ Asc normLt L n ∧ RowS w' g cap L) ∧ w.grownBy w' (some g) := by
  have HI := Lib.hid (insertS_any g n cap L0 w hR hl (by omega) hz)
  clear hR hz hl
  go_enter Tryz.func138, Tryz.ntmps138
  go_wp2_with fail
  refine wp_loop_rounds 1 ?_
  rw [rounds_succ]
  go_wp2_with (first | (go_at_call 144; refine HI.out.mono ?_; rintro e w1 ⟨rfl, hx, hg⟩) | (fail "none"))
  exact bodyPost_ret (v := .tuple #[]) (by simp [results, Tryz.results138, go_sem]) rfl ⟨rfl, hx, hg⟩
set_option maxRecDepth 100000 in
set_option maxHeartbeats 1000000 in
theorem len64_any (n : Nat) (w : World) (hn : n ≤ 12) : Calls Tryz.prog 153 #[.int .u64 n] w fun e w' => (∃ q : Int, e = .returned (.int .i64 q)) ∧ w = w' := by
  obtain rfl | rfl | rfl | rfl | rfl | rfl | rfl | rfl | rfl | rfl | rfl | rfl | rfl : n = 0 ∨ n = 1 ∨ n = 2 ∨ n = 3 ∨ n = 4 ∨ n = 5 ∨ n = 6 ∨ n = 7 ∨ n = 8 ∨ n = 9 ∨ n = 10 ∨ n = 11 ∨ n = 12 := by omega
  all_goals
    go_enter Tryz.func153, Tryz.ntmps153
    go_wp2
    go_ret
    exact ⟨⟨_, rfl⟩, rfl⟩
set_option maxRecDepth 100000 in
set_option maxHeartbeats 1000000 in
theorem len_any (n : Nat) (w : World) (hn : n ≤ 12) : Calls Tryz.prog 139 #[.int .u64 n] w fun e w' => (∃ q : Int, e = .returned (.int .i64 q)) ∧ w = w' := by
  go_enter Tryz.func139, Tryz.ntmps139
  go_wp2_with fail
  refine (len64_any n w hn).mono ?_
  rintro e w' ⟨⟨q, rfl⟩, rfl⟩
  go_wp2
  go_ret
  exact ⟨⟨q, rfl⟩, rfl⟩
set_option maxRecDepth 100000 in
set_option maxHeartbeats 1000000 in
theorem sortFuncS_any (g n cap : Nat) (L0 : List ByteArray) (w : World) (hR : RowS w g cap L0) (hl : L0.length = n) (hn : n ≤ 12) (hz : ∀ s ∈ L0, s.size ≤ maxLen) :
    Calls Tryz.prog 128 #[.slice (some ⟨g, 0, none⟩) n cap, .func (.func 94) #[] #[]] w fun e w' => e = .returned (.tuple #[]) ∧ (∃ L : List ByteArray, L.Perm L0 ∧ Asc normLt L n ∧ RowS w' g cap L) ∧ w.grownBy w' (some g) := by
  have HI := Lib.hid (fun q => pdqS_any g n cap q L0 w hR hl hn hz)
  clear hR hz hl
  go_enter Tryz.func128, Tryz.ntmps128
  go_wp2_with fail
  refine (len_any n w hn).mono ?_
  rintro e w' ⟨⟨q, rfl⟩, rfl⟩
  go_wp2_with fail
  refine (HI.out q).mono ?_
  rintro e w1 ⟨rfl, hx, hg⟩
  go_wp2
  go_end0
  exact ⟨rfl, hx, hg⟩
set_option maxRecDepth 100000 in
set_option maxHeartbeats 1000000 in
theorem insertS_nil (ao : Option Addr) (cap : Nat) (w : World) :
    Calls Tryz.prog 144 #[.slice ao 0 cap, .int .i64 0, .int .i64 0, .func (.func 94) #[] #[]] w fun e w' => e = .returned (.tuple #[]) ∧ w = w' := by
  go_enter Tryz.func144, Tryz.ntmps144
  go_wp2_with fail
  refine wp_loop_rounds 1 ?_
  rw [rounds_succ]
  go_wp2
  go_end0
  exact ⟨rfl, rfl⟩
set_option maxRecDepth 100000 in
set_option maxHeartbeats 1000000 in
theorem pdqS_nil (ao : Option Addr) (cap : Nat) (q : Int) (w : World) :
    Calls Tryz.prog 138 #[.slice ao 0 cap, .int .i64 0, .int .i64 0, .int .i64 q, .func (.func 94) #[] #[]] w fun e w' => e = .returned (.tuple #[]) ∧ w = w' := by
  go_enter Tryz.func138, Tryz.ntmps138
  go_wp2_with fail
  refine wp_loop_rounds 1 ?_
  rw [rounds_succ]
  go_wp2_with (first | (go_at_call 144; refine (insertS_nil ao cap w).mono ?_; rintro e w1 ⟨rfl, rfl⟩) | (fail "none"))
  exact bodyPost_ret (v := .tuple #[]) (by simp [results, Tryz.results138, go_sem]) rfl ⟨rfl, rfl⟩
set_option maxRecDepth 100000 in
set_option maxHeartbeats 1000000 in
theorem sortFuncS_nil (ao : Option Addr) (cap : Nat) (w : World) :
    Calls Tryz.prog 128 #[.slice ao 0 cap, .func (.func 94) #[] #[]] w fun e w' => e = .returned (.tuple #[]) ∧ w = w' := by
  go_enter Tryz.func128, Tryz.ntmps128
  go_wp2_with fail
  refine (len_any 0 w (by omega)).mono ?_
  rintro e w' ⟨⟨q, rfl⟩, rfl⟩
  go_wp2_with fail
  refine (pdqS_nil ao cap q w).mono ?_
  rintro e w1 ⟨rfl, rfl⟩
  go_wp2
  go_end0
  exact ⟨rfl, rfl⟩
theorem row_of_own {w : World} {B g n cap : Nat} {V : List ByteArray} (h : w.ownsRow B 9 1 (.slice (some ⟨g, 0, none⟩) n cap) V.length (ss V)) : RowS w g cap V ∧ V.length ≤ cap ∧ B ≤ g ∧ (∀ L : List ByteArray, L.length = V.length → ∀ w', RowS w' g cap L → w'.ownsRow B 9 1 (.slice (some ⟨g, 0, none⟩) n cap) L.length (ss L)) := by
  rcases h.2 with ⟨h0, _⟩ | ⟨k, cp, cur, e, hb, hh, hc1, hc2, hc3, hc4⟩
  · cases h0
  · injection e with e1 e2 e3
    injection e1 with e1
    injection e1 with e1
    subst e1 e2 e3
    have hc3' : cur.size = cap := by omega
    refine ⟨⟨cur, hh, hc3', fun i hi => ?_⟩, hc1, hb, fun L hL w' hR => ?_⟩
    · have : (cur.toList.take (V.length * 1))[i]? = (ss V)[i]? := by rw [hc4]
      rw [Nat.mul_one, List.getElem?_take_of_lt hi, Array.getElem?_toList] at this
      rw [this]; unfold ss; rw [List.getElem?_map, List.getElem?_eq_getElem hi]; rfl
    · obtain ⟨C, r1, r2, r3⟩ := hR
      refine ⟨by rw [ss_length]; omega, .inr ⟨g, cap, C, by rw [hL], hb, r1, by omega, hc2, by omega, ?_⟩⟩
      apply List.ext_getElem?
      intro i
      rw [Nat.mul_one]
      by_cases hi : i < L.length
      · rw [List.getElem?_take_of_lt hi, Array.getElem?_toList, r3 i hi]
        unfold ss; rw [List.getElem?_map, List.getElem?_eq_getElem hi]; rfl
      · rw [List.getElem?_eq_none (by rw [List.length_take]; omega), List.getElem?_eq_none (by rw [ss_length]; omega)]
theorem eqnil36 (n c : Nat) (w : World) : (binOp .eql 36 (.slice none n c) (.slice none 0 0)).run Tryz.prog w = .ok (.bool true) w := by kernel_rfl
theorem eqsome36 (a : Addr) (n c : Nat) (w : World) : (binOp .eql 36 (.slice (some a) n c) (.slice none 0 0)).run Tryz.prog w = .ok (.bool false) w := by kernel_rfl
set_option maxRecDepth 100000 in
set_option maxHeartbeats 1000000 in
theorem cloneS_any (vo : Option Addr) (V : List ByteArray) (vc : Nat) (w : World) (hv : ValsAt w vo vc V) (hf : FitsV V) :
    Calls Tryz.prog 127 #[.slice vo V.length vc] w (GivesV w V) := by
  have hl := hf.1
  have HV := Lib.hid hv.1; have hv2 := hv.2.2
  clear hv hf
  rcases vo with _ | a
  · have hV : V = [] := by
      rcases HV.out with h | ⟨_, _, e, _⟩
      · exact h
      · cases e
    subst hV
    have := hv2 rfl
    subst this
    clear hv2
    have he := eqnil36 0 0
    go_enter Tryz.func127, Tryz.ntmps127
    go_wp2
    go_ret
    exact ⟨⟨_, rfl, own_none _ _⟩, Below.refl _ _⟩
  · have O1 := own_zero w (B := w.heap.size) rfl (Nat.le_refl _)
    have B1 := more (Below.refl w.heap.size w) (.cells #[] 9)
    have HV1 := HV.out.below B1
    have hlen : ([] : List ByteArray).length + V.length ≤ 1000000000 := by simp; omega
    have hs3 := B1.size
    have he := eqsome36 a V.length vc
    go_enter Tryz.func127, Tryz.ntmps127
    go_wp2_with (first
        | (at_builtin; refine append_strs w.heap.size rfl _ _ rfl _ [] rfl O1 (some a) V vc _ rfl rfl HV1 hv2 hlen hs3 B1 ?_; intro v4 w4 hown4 hbel4)
        | (fail "none"))
    go_ret
    exact ⟨⟨_, rfl, hown4⟩, hbel4⟩
/-- sorted texts in new memory -/
def GivesSorted (w : World) (V : List ByteArray) (e : Ending) (w' : World) : Prop := (∃ v L, e = .returned v ∧ L.Perm V ∧ Asc normLt L L.length ∧ w'.ownsRow w.heap.size 9 1 v L.length (ss L)) ∧ Below w.heap.size w w'
theorem FitsV.maxs {V : List ByteArray} (h : FitsV V) : ∀ s ∈ V, s.size ≤ maxLen := fun s hs => by have := h.2 s hs; unfold maxLen; omega
set_option maxRecDepth 100000 in
set_option maxHeartbeats 1000000 in
theorem sortedS_any (vo : Option Addr) (V : List ByteArray) (vc : Nat) (w : World) (hv : ValsAt w vo vc V) (hf : FitsV V) (h12 : V.length ≤ 12) :
    Calls Tryz.prog 93 #[.slice vo V.length vc, .func (.func 94) #[] #[]] w (GivesSorted w V) := by
  have HV := Lib.hid hv; have HF := Lib.hid hf; clear hv hf
  go_enter Tryz.func93, Tryz.ntmps93
  go_wp2_with fail
  refine (cloneS_any vo V vc w HV.out HF.out).mono ?_
  rintro e w1 ⟨⟨v1, rfl, o1⟩, b1⟩
  obtain ⟨ao, cp, rfl⟩ := own_slice o1
  have B1 := Lib.hid b1; have O1 := Lib.hid o1
  clear b1 o1
  by_cases h0 : V.length = 0
  · have hV : V = [] := List.length_eq_zero_iff.1 h0
    subst hV
    clear h0
    go_wp2_with fail
    refine (sortFuncS_nil ao cp w1).mono ?_
    rintro e w2 ⟨rfl, rfl⟩
    go_wp2
    go_ret
    exact ⟨⟨_, [], rfl, .refl _, fun k h => by simp at h, O1.out⟩, B1.out⟩
  · obtain ⟨g, c2, hv, hg1, _⟩ := O1.out.form (by omega)
    have e2 : ao = some ⟨g, 0, none⟩ := by injection hv
    subst e2
    have HRo := Lib.hid (row_of_own O1.out)
    clear hv h0
    go_wp2_with fail
    refine (sortFuncS_any g V.length cp V w1 HRo.out.1 rfl h12 HF.out.maxs).mono ?_
    rintro e w2 ⟨rfl, ⟨L, hp, ha, hr⟩, hg⟩
    have hL := hp.length_eq
    have O2 := Lib.hid (HRo.out.2.2.2 L hL w2 hr)
    have B2 := Lib.hid (B1.out.grown hg B1.out.size (fun k hk => by injection hk with hk; subst hk; exact hg1))
    have HA : Hid (Asc normLt L L.length) := Lib.hid (by rw [hL]; exact ha)
    have HPm := Lib.hid hp
    clear hr hg ha hp hL
    go_wp2
    go_ret
    exact ⟨⟨_, L, rfl, HPm.out, HA.out, O2.out⟩, B2.out⟩
end Go.Proofs.YtjajpdghamecoaaGreat
