/- Merged texts: ChS5, ShOpen, Opn. -/
import Derived.Test.YtmanlnlhpgdbpaaGreatM12
import Derived.Test.YtmanlnlhpgdbpaaGreatM9
import Derived.Test.YtmanlnlhpgdbpaaGreatM7
import Derived.Test.YtmanlnlhpgdbpaaGreatM1
import Derived.Lib.SmallJoins
import Derived.Deep.Slices
import Derived.OpenShut
import Derived.ChangeSame
import Derived.Test.YtmanlnlhpgdbpaaGreatM2
import Derived.Test.YtmanlnlhpgdbpaaGreatRows
/- Change logs: what the specification's ChangeAdd returns. -/
namespace Go.Proofs.YtmanlnlhpgdbpaaGreat
open Go.RowKit
attribute [local go_sem ↓] Go.wp_at_zero Go.wp_at_succ

/-- a log's answer that may share memory with what the call has made -/
def GivesAt (w : World) (R : ChangesOutT) (e : Ending) (w' : World) : Prop := (∃ u1 u2, e = .returned (.agg #[.int .i64 R.1.1, u1, u2, .int .i64 R.2.2]) ∧ changesOutE.At (Fresh w w') w' R [.int .i64 R.1.1, u1, u2, .int .i64 R.2.2]) ∧ Below w.heap.size w w'
theorem givesAt_ill {w w' : World} (c : Int) (hb : Below w.heap.size w w') : GivesAt w ((0, []), [], c) (.returned (.agg #[.int .i64 0, .slice none 0 0, .slice none 0 0, .int .i64 c])) w' := ⟨⟨_, _, rfl, changesOutE.ownAt (out_ill _ _ _)⟩, hb⟩
theorem Blk.same8 {w w' : World} {g : Nat} {cs : List Value} {row : Option Nat} (h : Blk w g cs) (hg : w.grownBy w' row) (hn : some g ≠ row) : Blk w' g cs := by
  have hl := h.lt
  obtain ⟨T, e⟩ := h
  exact ⟨T, (hg.block g hl hn).trans e⟩
/-- the rows of an owned slice, after its own row has grown -/
theorem app_rows {S : Bs} {w w6 : World} {B : Nat} {d : List ChangeT} {p : Option Addr} {k : Nat} {xs : List Value} (ho : SlOwn changeE S w d (.slice p d.length k)) (hr : w.ownsRow B 61 5 (.slice p d.length k) d.length xs)
    (hw : ∀ b, (∀ g, (Value.slice p d.length k).ownBlock = some g → b ≠ g) → b < w.heap.size → w6.heap[b]? = w.heap[b]?) : RowsOf S w6 d xs := by
  intro i hi
  obtain ⟨ao, cap, e1, _, _, h4⟩ := ho
  cases e1
  rcases h4 with h4 | ⟨g, P, rfl, _, h2, _, h5⟩
  · subst h4; simp at hi
  · obtain ⟨cs, q1, q2⟩ := h5 i hi
    have hcl : cs.length = 5 := changeE.ownLen q2
    refine ⟨cs, fun j hj => ?_, changeE.wide (changeE.frame (changeE.ownAt q2) (fun b hb hl => hw b (fun g' hg' => ?_) hl)) (h2 i hi).2⟩
    · have hxl : xs.length = d.length * 5 := hr.1
      have hlt : i * 5 + j < xs.length := by omega
      have c1 := hr.cells (g := g) rfl (i * 5 + j) xs[i * 5 + j] (List.getElem?_eq_getElem hlt)
      rw [Go.WideShapes.add_plain, Nat.zero_add] at c1
      have c2 := q1.cells j hj
      have c2 : w.cell? ⟨g, i * 5 + j, none⟩ = some cs[j] := c2
      rw [c2] at c1
      show xs[i * 5 + j]? = _
      rw [List.getElem?_eq_getElem hlt]; exact c1.symm
    · have e : g = g' := by simpa [Value.ownBlock] using hg'
      subst e
      rintro rfl
      exact (h2 i hi).1 hb
set_option maxRecDepth 100000 in
set_option maxHeartbeats 2000000 in
theorem l08Add_any {S S3 S4 S5 : Bs} (n k : Int) (v vd v3 v4 : Value) (d : List ChangeT) (dn a3 : List RdnT) (a4 : List AttrT) (w : World) (hd : SlAt changeE S w d v) (hdn : SlAt rdnE S5 w dn vd) (h3 : SlAt rdnE S3 w a3 v3) (h4 : SlAt attrE S4 w a4 v4)
    (hz : d.length + szL changeE d ≤ 1048576) (hzd : dn.length + szL rdnE dn ≤ 1048576) (hze : entryE.sz (a3, a4) ≤ 1048576) (h6 : dn.length ≤ 6) (hn : 1 ≤ n ∧ n ≤ 1000000) (h40 : d.length ≤ 40) (R : ChangesOutT) (HR : Hid (R = if d.length = 40 ∨ n = 1000000 then ((0, []), [], 9) else ((n + 1, d ++ [(n, k, textS dn, (a3, a4))]), [], 0))) :
    Calls Tryz.prog 42 #[.agg #[.int .i64 n, v], .int .i64 k, vd, .agg #[v3, v4]] w (GivesAt w R) := by
  obtain ⟨ao, ca, rfl⟩ := hd.sl
  obtain ⟨od, cd, rfl⟩ := hdn.sl
  obtain ⟨o3, k3, rfl⟩ := h3.sl
  obtain ⟨o4, k4, rfl⟩ := h4.sl
  have CC : Hid (∀ W : World, Below w.heap.size w W → Calls Tryz.prog 58 #[.agg #[.int .i64 n, .slice ao d.length ca]] W fun e w' => (∃ p k, e = .returned (.agg #[.int .i64 n, .slice p d.length k]) ∧ SlOwn changeE (Fresh W w') w' d (.slice p d.length k) ∧ ∃ xs, w'.ownsRow W.heap.size 61 5 (.slice p d.length k) d.length xs) ∧ Below W.heap.size W w') := Lib.hid (fun W b => l08Copy_row n _ d W (hd.frame (Same.of_below' b)) hz)
  have CT : Hid (∀ W : World, Below w.heap.size w W → Calls Tryz.prog 71 #[.slice od dn.length cd] W fun e w' => e = .returned (.string (textS dn)) ∧ Below W.heap.size W w') := Lib.hid (fun W b => l02Text_any od dn cd W ((dn_of hdn).below b) (fits_dn hzd) h6)
  have CE : Hid (∀ W : World, Below w.heap.size w W → Calls Tryz.prog 72 #[.agg #[.slice o3 a3.length k3, .slice o4 a4.length k4]] W fun e w' => ∃ u0 u1, e = .returned (.agg #[u0, u1]) ∧ entryE.Own (Fresh W w') w' (a3, a4) [u0, u1] ∧ Below W.heap.size W w') := Lib.hid (fun W b => l03Copy_any a3 a4 _ _ W ((h3.frame (Same.of_below' b)).wide (S' := fun b => S3 b ∨ S4 b) (fun _ h => .inl h)) ((h4.frame (Same.of_below' b)).wide (fun _ h => .inr h)) hze)
  clear hd hdn h3 h4
  by_cases c1 : d.length = 40
  · have HRR : Hid (R = ((0, []), [], 9)) := Lib.hid (by rw [HR.out, if_pos (.inl c1)])
    have c1' : (40 : Int) ≤ (d.length : Int) := by omega
    clear CC CT CE
    go_enter Tryz.func42, Tryz.ntmps42
    go_wp2_with fail
    refine calls_by (fun W => Below w.heap.size w W ∧ Blk W (w.heap.size + 1 + 1) [.int .i64 0, .slice none 0 0, .slice none 0 0, .int .i64 0]) ⟨more' (more' (more' (Below.refl _ _) _) _) _, blk_at _ _ _ (by simp)⟩ ?_
    rintro W1 ⟨b1, r1⟩
    refine (l08Ill_any 9 W1).mono ?_
    rintro e w3 ⟨rfl, hb⟩
    have b3 := b1.trans (hb.mono b1.size); have R3 := Lib.hid (r1.below hb)
    clear hb r1 b1
    have rf0 := R3.out.soft 0; have rz0 := R3.out.cell 0 rfl
    have rf1 := R3.out.soft 1; have rz1 := R3.out.cell 1 rfl
    have rf2 := R3.out.soft 2; have rz2 := R3.out.cell 2 rfl
    have rf3 := R3.out.soft 3; have rz3 := R3.out.cell 3 rfl
    have TE := ((((R3.out.set 0 (.int .i64 0)).set 1 (.slice none 0 0)).set 2 (.slice none 0 0)).set 3 (.int .i64 9))
    have rj0 := TE.cell 0 rfl
    have rj1 := TE.cell 1 rfl
    have rj2 := TE.cell 2 rfl
    have rj3 := TE.cell 3 rfl
    clear TE
    have BE := Lib.hid ((((b3.setCell (p := ⟨w.heap.size + 1 + 1, 0, none⟩) (by show w.heap.size ≤ w.heap.size + 1 + 1; omega) (.int .i64 0)).setCell (p := ⟨w.heap.size + 1 + 1, 1, none⟩) (by show w.heap.size ≤ w.heap.size + 1 + 1; omega) (.slice none 0 0)).setCell (p := ⟨w.heap.size + 1 + 1, 2, none⟩) (by show w.heap.size ≤ w.heap.size + 1 + 1; omega) (.slice none 0 0)).setCell (p := ⟨w.heap.size + 1 + 1, 3, none⟩) (by show w.heap.size ≤ w.heap.size + 1 + 1; omega) (.int .i64 9))
    go_wp2
    refine bodyPost_ret (v := .agg #[.int .i64 0, .slice none 0 0, .slice none 0 0, .int .i64 9]) (by simp [results, Tryz.results42, go_sem, rj0, rj1, rj2, rj3]) rfl ?_
    rw [HRR.out]
    exact givesAt_ill 9 BE.out
  have g1 : ¬ (40 : Int) ≤ (d.length : Int) := by omega
  by_cases c2 : n = 1000000
  · have HRR : Hid (R = ((0, []), [], 9)) := Lib.hid (by rw [HR.out, if_pos (.inr c2)])
    have c2' : (1000000 : Int) ≤ n := by omega
    clear CC CT CE
    go_enter Tryz.func42, Tryz.ntmps42
    go_wp2_with fail
    refine calls_by (fun W => Below w.heap.size w W ∧ Blk W (w.heap.size + 1 + 1) [.int .i64 0, .slice none 0 0, .slice none 0 0, .int .i64 0]) ⟨more' (more' (more' (Below.refl _ _) _) _) _, blk_at _ _ _ (by simp)⟩ ?_
    rintro W1 ⟨b1, r1⟩
    refine (l08Ill_any 9 W1).mono ?_
    rintro e w3 ⟨rfl, hb⟩
    have b3 := b1.trans (hb.mono b1.size); have R3 := Lib.hid (r1.below hb)
    clear hb r1 b1
    have rf0 := R3.out.soft 0; have rz0 := R3.out.cell 0 rfl
    have rf1 := R3.out.soft 1; have rz1 := R3.out.cell 1 rfl
    have rf2 := R3.out.soft 2; have rz2 := R3.out.cell 2 rfl
    have rf3 := R3.out.soft 3; have rz3 := R3.out.cell 3 rfl
    have TE := ((((R3.out.set 0 (.int .i64 0)).set 1 (.slice none 0 0)).set 2 (.slice none 0 0)).set 3 (.int .i64 9))
    have rj0 := TE.cell 0 rfl
    have rj1 := TE.cell 1 rfl
    have rj2 := TE.cell 2 rfl
    have rj3 := TE.cell 3 rfl
    clear TE
    have BE := Lib.hid ((((b3.setCell (p := ⟨w.heap.size + 1 + 1, 0, none⟩) (by show w.heap.size ≤ w.heap.size + 1 + 1; omega) (.int .i64 0)).setCell (p := ⟨w.heap.size + 1 + 1, 1, none⟩) (by show w.heap.size ≤ w.heap.size + 1 + 1; omega) (.slice none 0 0)).setCell (p := ⟨w.heap.size + 1 + 1, 2, none⟩) (by show w.heap.size ≤ w.heap.size + 1 + 1; omega) (.slice none 0 0)).setCell (p := ⟨w.heap.size + 1 + 1, 3, none⟩) (by show w.heap.size ≤ w.heap.size + 1 + 1; omega) (.int .i64 9))
    go_wp2
    refine bodyPost_ret (v := .agg #[.int .i64 0, .slice none 0 0, .slice none 0 0, .int .i64 9]) (by simp [results, Tryz.results42, go_sem, rj0, rj1, rj2, rj3]) rfl ?_
    rw [HRR.out]
    exact givesAt_ill 9 BE.out
  have HRR : Hid (R = ((n + 1, d ++ [(n, k, textS dn, (a3, a4))]), [], 0)) := Lib.hid (by rw [HR.out, if_neg (by omega)])
  have g1 : ¬ (40 : Int) ≤ (d.length : Int) := by omega
  have g2 : ¬ (1000000 : Int) ≤ n := by omega
  go_enter Tryz.func42, Tryz.ntmps42
  go_wp2_with fail
  refine calls_by (fun W => Below w.heap.size w W ∧ Blk W w.heap.size [.int .i64 n, .slice ao d.length ca] ∧ Blk W (w.heap.size + 1) [.slice o3 a3.length k3, .slice o4 a4.length k4] ∧ Blk W (w.heap.size + 1 + 1) [.int .i64 0, .slice none 0 0, .slice none 0 0, .int .i64 0]) ⟨more' (more' (more' (Below.refl _ _) _) _) _, ((Blk.new _ _ _).alloc _).alloc _, (blk_at _ _ _ (by simp)).alloc _, blk_at _ _ _ (by simp)⟩ ?_
  rintro W1 ⟨b1, t1, e1, r1⟩
  have T1 := Lib.hid t1; have E1 := Lib.hid e1; have R1 := Lib.hid r1
  refine (CC.out W1 b1).mono ?_
  rintro e w2 ⟨⟨p2, k2, rfl, ho, xs, hx⟩, hb⟩
  have HO := Lib.hid ho; have HX := Lib.hid hx
  have hW12 : W1.heap.size ≤ w2.heap.size := hb.size
  have D2 : Below W1.heap.size W1 w2 := hb
  clear t1 e1 r1 hb ho hx CC
  go_wp2_with fail
  refine wp_world (fun W => Below w2.heap.size w2 W ∧ Blk W w2.heap.size [.int .i64 n, .slice p2 d.length k2]) ⟨more' (Below.refl _ _) _, Blk.new _ _ _⟩ ?_
  rintro W4 ⟨dx, o4⟩
  have O4 := Lib.hid o4; have DX := Lib.hid dx
  have D4 : Below W1.heap.size W1 W4 := D2.trans (dx.mono D2.size)
  clear o4 dx
  have PRE : Hid (∀ (L : Array Bool) (Z : World), Below W1.heap.size W1 Z → Z.cell? ⟨w2.heap.size, 1, none⟩ = some (.slice p2 d.length k2) → Until (fun Z' => Z'.cell? ⟨w.heap.size, 0, none⟩ = some (.int .i64 n) ∧ Z'.cell? ⟨w.heap.size + 1, 0, none⟩ = some (.slice o3 a3.length k3) ∧ Z'.cell? ⟨w.heap.size + 1, 1, none⟩ = some (.slice o4 a4.length k4)) (fun Z' => Z'.cell? ⟨w2.heap.size, 1, none⟩ = some (.slice p2 d.length k2)) 13 L Z) := Lib.hid (fun L Z h h1 => ⟨⟨(T1.out.below h).cell 0 rfl, (E1.out.below h).cell 0 rfl, (E1.out.below h).cell 1 rfl⟩, fun _ => h1⟩)
  have PR2 : Hid (∀ (L : Array Bool) (Z : World), Below W1.heap.size W1 Z → L.getD 13 true = true → Until (fun Z' => Z'.cell? ⟨w.heap.size, 0, none⟩ = some (.int .i64 n) ∧ Z'.cell? ⟨w.heap.size + 1, 0, none⟩ = some (.slice o3 a3.length k3) ∧ Z'.cell? ⟨w.heap.size + 1, 1, none⟩ = some (.slice o4 a4.length k4)) (fun Z' => Z'.cell? ⟨w2.heap.size, 1, none⟩ = some (.slice p2 d.length k2)) 13 L Z) := Lib.hid (fun L Z h h1 => ⟨⟨(T1.out.below h).cell 0 rfl, (E1.out.below h).cell 0 rfl, (E1.out.below h).cell 1 rfl⟩, fun h2 => by rw [h1] at h2; cases h2⟩)
  have D0 : Below W1.heap.size W1 W4.drew := D4.drew
  have C0 : W4.drew.cell? ⟨w2.heap.size, 1, none⟩ = some (.slice p2 d.length k2) := (O4.out.below (Below.refl _ _).drew).cell 1 rfl
  refine wp_region_until (fun Z' => Z'.cell? ⟨w.heap.size, 0, none⟩ = some (.int .i64 n) ∧ Z'.cell? ⟨w.heap.size + 1, 0, none⟩ = some (.slice o3 a3.length k3) ∧ Z'.cell? ⟨w.heap.size + 1, 1, none⟩ = some (.slice o4 a4.length k4)) (fun Z' => Z'.cell? ⟨w2.heap.size, 1, none⟩ = some (.slice p2 d.length k2)) 13 (by kernel_rfl) (PRE.out #[] _ D0 C0).1 ((PRE.out #[false, false, false, false, false, false, false, false, false, false, false, false, false, false] _ D0 C0).2 rfl) (fun hU => ?_)
  refine wpAnyL_take (i := 0) (oi := { dst := some 22, op := Op.fieldAddr 29 (Operand.tmp 9) 1, type := 0, pos := "l08_change.go:52", after := #[], guard := none }) (v := ?_) rfl (by decide) (by kernel_rfl) (by kernel_rfl) (by kernel_rfl) (fun _ _ _ h => h) (Or.inl ⟨by rfl, ?_⟩) (by assumption) ?_
  rotate_left
  · intro w hSw; (try dsimp only at hSw); go_simp; (try with_reducible rfl)
  clear hU; intro hU
  (try simp only [Act.put, List.setIfInBounds_toArray, List.set_cons_zero, List.set_cons_succ])
  refine wpAnyL_load (i := 1) (m := 11) (oi := { dst := some 23, op := Op.load 27 (Operand.tmp 22), type := 27, pos := "l08_change.go:52", after := #[{ on := 0, ground := Ground.data }], guard := none }) (om := { dst := some 33, op := Op.call { callee := Callee.builtin Builtin.append, args := #[Operand.tmp 23, Operand.tmp 32], argTypes := #[27, 27] }, type := 27, pos := "l08_change.go:52", after := #[{ on := 1, ground := Ground.data }, { on := 10, ground := Ground.data }, { on := 8, ground := Ground.chain }], guard := none }) (ok := { dst := none, op := Op.store 27 (Operand.tmp 34) (Operand.tmp 33), type := 0, pos := "l08_change.go:52", after := #[{ on := 12, ground := Ground.data }, { on := 11, ground := Ground.data }, { on := 11, ground := Ground.chain }, { on := 0, ground := Ground.phase }, { on := 1, ground := Ground.phase }, { on := 2, ground := Ground.phase }, { on := 3, ground := Ground.phase }, { on := 4, ground := Ground.phase }, { on := 5, ground := Ground.phase }, { on := 6, ground := Ground.phase }, { on := 7, ground := Ground.phase }, { on := 8, ground := Ground.phase }, { on := 9, ground := Ground.phase }, { on := 10, ground := Ground.phase }, { on := 11, ground := Ground.phase }], guard := none }) (v := ?_) rfl (by decide) (by kernel_rfl) (by kernel_rfl) (by kernel_rfl) rfl rfl (by kernel_rfl) (by kernel_rfl) (by kernel_rfl) (by kernel_rfl) (fun _ _ _ h => h) (Or.inl ⟨by rfl, ?_⟩) (by assumption) ?_
  rotate_left
  · intro w hSw; (try dsimp only at hSw); go_simp; (try with_reducible rfl)
  clear hU; intro hU
  (try simp only [Act.put, List.setIfInBounds_toArray, List.set_cons_zero, List.set_cons_succ])
  refine wpAnyL_take (i := 2) (oi := { dst := some 24, op := Op.fieldAddr 29 (Operand.tmp 4) 0, type := 0, pos := "l08_change.go:52", after := #[], guard := none }) (v := ?_) rfl (by decide) (by kernel_rfl) (by kernel_rfl) (by kernel_rfl) (fun _ _ _ h => h) (Or.inl ⟨by rfl, ?_⟩) (by assumption) ?_
  rotate_left
  · intro w hSw; (try dsimp only at hSw); go_simp; (try with_reducible rfl)
  clear hU; intro hU
  (try simp only [Act.put, List.setIfInBounds_toArray, List.set_cons_zero, List.set_cons_succ])
  refine wpAnyL_take (i := 3) (oi := { dst := some 25, op := Op.load 2 (Operand.tmp 24), type := 2, pos := "l08_change.go:52", after := #[{ on := 2, ground := Ground.data }], guard := none }) (v := ?_) rfl (by decide) (by kernel_rfl) (by kernel_rfl) (by kernel_rfl) (fun _ _ _ h => h) (Or.inl ⟨by rfl, ?_⟩) (by assumption) ?_
  rotate_left
  · intro w hSw; (try dsimp only at hSw); go_simp; (try with_reducible rfl)
  clear hU; intro hU
  (try simp only [Act.put, List.setIfInBounds_toArray, List.set_cons_zero, List.set_cons_succ])
  refine wpAnyL_take (i := 4) (oi := { dst := some 26, op := Op.move (Operand.tmp 1), type := 2, pos := "l08_change.go:52", after := #[], guard := none }) (v := ?_) rfl (by decide) (by kernel_rfl) (by kernel_rfl) (by kernel_rfl) (fun _ _ _ h => h) (Or.inl ⟨by rfl, ?_⟩) (by assumption) ?_
  rotate_left
  · intro w hSw; (try dsimp only at hSw); go_simp; (try with_reducible rfl)
  clear hU; intro hU
  (try simp only [Act.put, List.setIfInBounds_toArray, List.set_cons_zero, List.set_cons_succ])
  refine wpAnyL_take (i := 5) (oi := { dst := some 27, op := Op.move (Operand.tmp 2), type := 42, pos := "l08_change.go:52", after := #[], guard := none }) (v := ?_) rfl (by decide) (by kernel_rfl) (by kernel_rfl) (by kernel_rfl) (fun _ _ _ h => h) (Or.inl ⟨by rfl, ?_⟩) (by assumption) ?_
  rotate_left
  · intro w hSw; (try dsimp only at hSw); go_simp; (try with_reducible rfl)
  clear hU; intro hU
  (try simp only [Act.put, List.setIfInBounds_toArray, List.set_cons_zero, List.set_cons_succ])
  refine wpAnyL_take (i := 7) (oi := { dst := some 29, op := Op.load 46 (Operand.tmp 7), type := 46, pos := "l08_change.go:52", after := #[], guard := none }) (v := ?_) rfl (by decide) (by kernel_rfl) (by kernel_rfl) (by kernel_rfl) (fun _ _ _ h => h) (Or.inl ⟨by rfl, ?_⟩) (by assumption) ?_
  rotate_left
  · intro w hSw; (try dsimp only at hSw); go_simp; (try with_reducible rfl)
  clear hU; intro hU
  (try simp only [Act.put, List.setIfInBounds_toArray, List.set_cons_zero, List.set_cons_succ])
  refine wpAnyL_ready (rs := [6]) (by kernel_rfl) (by simp) ?_
  refine AllReadyL.cons (o := { dst := some 28, op := Op.call { callee := Callee.value (Operand.func 71), args := #[Operand.tmp 27], argTypes := #[42] }, type := 9, pos := "l08_change.go:52", after := #[{ on := 5, ground := Ground.data }], guard := none }) rfl (fun K hK => ?_) (AllReadyL.nil)
  go_simp
  refine (CT.out _ (b1.trans (D0.mono b1.size))).mono ?_
  rintro e w5 ⟨rfl, hb⟩
  have D5 : Below W1.heap.size W1 w5 := D0.trans (hb.mono D0.size)
  have E5 : Below W4.heap.size W4 w5 := (Below.refl _ _).drew.trans hb
  have C5 := (O4.out.below E5).cell 1 rfl
  clear hb
  clear hU
  refine hK.out _ _ ?_ (fun hU => ?_)
  · (try dsimp only)
    first | exact PRE.out _ _ D0 C0 | exact PRE.out _ _ D5 C5 | exact PRE.out _ _ D6 C6 | exact PRE.out _ _ D7 C7 | exact PRE.out _ _ D8 C8 | exact PR2.out _ _ D9 rfl | exact PRE.out _ _ (by assumption) (by assumption)
  clear hK K
  (try simp only [Act.put, List.setIfInBounds_toArray, List.set_cons_zero, List.set_cons_succ])
  refine wpAnyL_ready (rs := [8]) (by kernel_rfl) (by simp) ?_
  refine AllReadyL.cons (o := { dst := some 30, op := Op.call { callee := Callee.value (Operand.func 72), args := #[Operand.tmp 29], argTypes := #[46] }, type := 46, pos := "l08_change.go:52", after := #[{ on := 7, ground := Ground.data }, { on := 6, ground := Ground.chain }], guard := none }) rfl (fun K hK => ?_) (AllReadyL.nil)
  go_simp
  refine (CE.out w5 (b1.trans (D5.mono b1.size))).mono ?_
  rintro e w6 ⟨u0, u1, rfl, q, hb⟩
  obtain ⟨⟨q3, m3, j3, rfl⟩, q4, m4, j4, rfl⟩ := entry_sl q rfl
  have Q := Lib.hid q
  have D6 : Below W1.heap.size W1 w6 := D5.trans (hb.mono D5.size)
  have E6 : Below W4.heap.size W4 w6 := E5.trans (hb.mono E5.size)
  have C6 := (O4.out.below E6).cell 1 rfl
  clear hb q
  clear hU
  refine hK.out _ _ ?_ (fun hU => ?_)
  · (try dsimp only)
    first | exact PRE.out _ _ D0 C0 | exact PRE.out _ _ D5 C5 | exact PRE.out _ _ D6 C6 | exact PRE.out _ _ D7 C7 | exact PRE.out _ _ D8 C8 | exact PR2.out _ _ D9 rfl | exact PRE.out _ _ (by assumption) (by assumption)
  clear hK K
  (try simp only [Act.put, List.setIfInBounds_toArray, List.set_cons_zero, List.set_cons_succ])
  refine wpAnyL_take (i := 9) (oi := { dst := some 31, op := Op.build 61 #[(0, Operand.tmp 25), (1, Operand.tmp 26), (2, Operand.tmp 28), (3, Operand.tmp 30)], type := 61, pos := "l08_change.go:52", after := #[{ on := 3, ground := Ground.data }, { on := 4, ground := Ground.data }, { on := 6, ground := Ground.data }, { on := 8, ground := Ground.data }], guard := none }) (v := ?_) rfl (by decide) (by kernel_rfl) (by kernel_rfl) (by kernel_rfl) (fun _ _ _ h => h) (Or.inl ⟨by rfl, ?_⟩) (by assumption) ?_
  rotate_left
  · intro w hSw; (try dsimp only at hSw); go_simp; (try with_reducible rfl)
  clear hU; intro hU
  (try simp only [Act.put, List.setIfInBounds_toArray, List.set_cons_zero, List.set_cons_succ])
  refine wpAnyL_ready (rs := [10]) (by kernel_rfl) (by simp) ?_
  refine AllReadyL.cons (o := { dst := some 32, op := Op.buildSlice 27 1 #[(0, Operand.tmp 31)], type := 27, pos := "l08_change.go:52", after := #[{ on := 9, ground := Ground.data }], guard := none }) rfl (fun K hK => ?_) (AllReadyL.nil)
  go_simp
  have D7 : Below W1.heap.size W1 (w6.alloc (.cells #[.int .i64 n, .int .i64 k, .string (textS dn), .slice q3 m3 j3, .slice q4 m4 j4] 61)) := more' D6 _
  have E7 : Below W4.heap.size W4 (w6.alloc (.cells #[.int .i64 n, .int .i64 k, .string (textS dn), .slice q3 m3 j3, .slice q4 m4 j4] 61)) := more' E6 _
  have C7 := (O4.out.below E7).cell 1 rfl
  have X7 := Lib.hid (own_below (own_below HX.out DX.out) E7)
  clear hU
  refine hK.out _ _ ?_ (fun hU => ?_)
  · (try dsimp only)
    first | exact PRE.out _ _ D0 C0 | exact PRE.out _ _ D5 C5 | exact PRE.out _ _ D6 C6 | exact PRE.out _ _ D7 C7 | exact PRE.out _ _ D8 C8 | exact PR2.out _ _ D9 rfl | exact PRE.out _ _ (by assumption) (by assumption)
  clear hK K
  (try simp only [Act.put, List.setIfInBounds_toArray, List.set_cons_zero, List.set_cons_succ])
  refine wpAnyL_ready (rs := [11]) (by kernel_rfl) (by simp) ?_
  refine AllReadyL.cons (o := { dst := some 33, op := Op.call { callee := Callee.builtin Builtin.append, args := #[Operand.tmp 23, Operand.tmp 32], argTypes := #[27, 27] }, type := 27, pos := "l08_change.go:52", after := #[{ on := 1, ground := Ground.data }, { on := 10, ground := Ground.data }, { on := 8, ground := Ground.chain }], guard := none }) rfl (fun K hK => ?_) (AllReadyL.nil)
  refine step_ch W1.heap.size rfl _ _ rfl _ d.length xs rfl X7.out w6.heap.size (Blk.new w6 61 _) rfl (by omega) D7.size ?_
  intro g cap w8 h1 h2 h3
  have D8 : Below W1.heap.size W1 w8 := D7.grown h2 D7.size (fun r hr => (X7.out.lt r hr).1)
  have C8 : w8.cell? ⟨w2.heap.size, 1, none⟩ = some (.slice p2 d.length k2) := (cell_same (h2.block w2.heap.size (O4.out.below E7).lt (fun e => by have := (HX.out.lt _ e.symm).2; omega))).trans C7
  have H1 := Lib.hid h1; have H2 := Lib.hid h2; have H3 := Lib.hid h3
  have F8 : w8.frozen? ⟨w2.heap.size, 1, none⟩ = false := ((O4.out.below E7).same8 h2 (fun e => by have := (HX.out.lt _ e.symm).2; omega)).soft 1
  clear h1 h2 h3
  clear hU
  refine hK.out _ _ ?_ (fun hU => ?_)
  · (try dsimp only)
    first | exact PRE.out _ _ D0 C0 | exact PRE.out _ _ D5 C5 | exact PRE.out _ _ D6 C6 | exact PRE.out _ _ D7 C7 | exact PRE.out _ _ D8 C8 | exact PR2.out _ _ D9 rfl | exact PRE.out _ _ (by assumption) (by assumption)
  clear hK K
  (try simp only [Act.put, List.setIfInBounds_toArray, List.set_cons_zero, List.set_cons_succ])
  refine wpAnyL_take (i := 12) (oi := { dst := some 34, op := Op.fieldAddr 29 (Operand.tmp 9) 1, type := 0, pos := "l08_change.go:52", after := #[{ on := 0, ground := Ground.phase }, { on := 1, ground := Ground.phase }, { on := 2, ground := Ground.phase }, { on := 3, ground := Ground.phase }, { on := 4, ground := Ground.phase }, { on := 5, ground := Ground.phase }, { on := 6, ground := Ground.phase }, { on := 7, ground := Ground.phase }, { on := 8, ground := Ground.phase }, { on := 9, ground := Ground.phase }, { on := 10, ground := Ground.phase }, { on := 11, ground := Ground.phase }], guard := none }) (v := ?_) rfl (by decide) (by kernel_rfl) (by kernel_rfl) (by kernel_rfl) (fun _ _ _ h => h) (Or.inl ⟨by rfl, ?_⟩) (by assumption) ?_
  rotate_left
  · intro w hSw; (try dsimp only at hSw); go_simp; (try with_reducible rfl)
  clear hU; intro hU
  (try simp only [Act.put, List.setIfInBounds_toArray, List.set_cons_zero, List.set_cons_succ])
  refine wpAnyL_ready (rs := [13]) (by kernel_rfl) (by simp) ?_
  refine AllReadyL.cons (o := { dst := none, op := Op.store 27 (Operand.tmp 34) (Operand.tmp 33), type := 0, pos := "l08_change.go:52", after := #[{ on := 12, ground := Ground.data }, { on := 11, ground := Ground.data }, { on := 11, ground := Ground.chain }, { on := 0, ground := Ground.phase }, { on := 1, ground := Ground.phase }, { on := 2, ground := Ground.phase }, { on := 3, ground := Ground.phase }, { on := 4, ground := Ground.phase }, { on := 5, ground := Ground.phase }, { on := 6, ground := Ground.phase }, { on := 7, ground := Ground.phase }, { on := 8, ground := Ground.phase }, { on := 9, ground := Ground.phase }, { on := 10, ground := Ground.phase }, { on := 11, ground := Ground.phase }], guard := none }) rfl (fun K hK => ?_) (AllReadyL.nil)
  go_simp
  have D9 : Below W1.heap.size W1 (w8.setCell ⟨w2.heap.size, 1, none⟩ (.slice (some ⟨g, 0, none⟩) (d.length + 1) cap)) := D8.setCell (p := ⟨w2.heap.size, 1, none⟩) hW12 _
  clear hU
  refine hK.out _ _ ?_ (fun hU => ?_)
  · (try dsimp only)
    first | exact PRE.out _ _ D0 C0 | exact PRE.out _ _ D5 C5 | exact PRE.out _ _ D6 C6 | exact PRE.out _ _ D7 C7 | exact PRE.out _ _ D8 C8 | exact PR2.out _ _ D9 rfl | exact PRE.out _ _ (by assumption) (by assumption)
  clear hK K
  (try simp only [Act.put, List.setIfInBounds_toArray, List.set_cons_zero, List.set_cons_succ])
  refine wpAnyL_done (by kernel_rfl) ?_ _
  have O8 := Lib.hid ((O4.out.below E7).same8 H2.out (fun e => by have := (HX.out.lt _ e.symm).2; omega))
  have O9 := Lib.hid (O8.out.set 1 (.slice (some ⟨g, 0, none⟩) (d.length + 1) cap))
  have R9 := Lib.hid (R1.out.below D9)
  have T9 := Lib.hid (T1.out.below D9)
  have b9 := b1.trans (D9.mono b1.size)
  have hw1 : w.heap.size + 1 + 1 < W1.heap.size := R1.out.lt
  have HSL : Hid (SlAt changeE (fun b => (W1.heap.size ≤ b ∧ b ≠ w2.heap.size) ∧ b < w8.heap.size) w8 (d ++ [(n, k, textS dn, (a3, a4))]) (.slice (some ⟨g, 0, none⟩) (d.length + 1) cap)) := Lib.hid (by
    have hE : Below w2.heap.size w2 (w6.alloc (.cells #[.int .i64 n, .int .i64 k, .string (textS dn), .slice q3 m3 j3, .slice q4 m4 j4] 61)) := DX.out.trans (E7.mono DX.out.size)
    have r1 := app_rows (w6 := w8) (HO.out.frame (Same.of_below' hE)) X7.out (fun b hb hl => H2.out.block b hl (fun e => hb b e.symm rfl))
    have hs8 : w6.heap.size + 1 ≤ w8.heap.size := by have := H2.out.size; rw [World.size_alloc] at this; exact this
    have hs6 : w2.heap.size ≤ w6.heap.size := by have := hE.size; rw [World.size_alloc] at this; have h1 := DX.out.size; have h2 := E6.size; omega
    have r1 : RowsOf (fun b => (W1.heap.size ≤ b ∧ b ≠ w2.heap.size) ∧ b < w8.heap.size) w8 d xs := fun i hi => by
      obtain ⟨cs, q1, q2⟩ := r1 i hi
      exact ⟨cs, q1, changeE.wide q2 (fun b h => ⟨⟨h.1, by have := h.2; omega⟩, by have := h.2; omega⟩)⟩
    have hs54 : W4.heap.size ≤ w5.heap.size := E5.size
    have hs4 : w2.heap.size < W4.heap.size := O4.out.lt
    have hs5 : W1.heap.size ≤ w5.heap.size := D5.size
    have hfr : Same (Fresh w5 w6) w6 w8 := fun b hb hl => by
      have e1 := (more' (Below.refl w6.heap.size w6) (.cells #[.int .i64 n, .int .i64 k, .string (textS dn), .slice q3 m3 j3, .slice q4 m4 j4] 61)).block b hl
      have e2 := H2.out.block b (by rw [World.size_alloc]; omega) (fun e => by have := (HX.out.lt _ e.symm).2; have := hb.1; omega)
      exact e2.trans e1
    obtain ⟨Z3, Z4, r3, i3, r4, i4, _⟩ := entry_op (entryE.ownFrame Q.out hfr)
    have r2 : changeE.At (fun b => (W1.heap.size ≤ b ∧ b ≠ w2.heap.size) ∧ b < w8.heap.size) w8 (n, k, textS dn, (a3, a4)) [.int .i64 n, .int .i64 k, .string (textS dn), .slice q3 m3 j3, .slice q4 m4 j4] :=
      pair_at (c := [_]) rfl (pair_at (c := [_]) rfl (pair_at (c := [_]) rfl (pair_at (c := [_]) (at_sl (r3.at.wide (fun b h => ⟨⟨by have := (i3 b h).1; omega, by have := (i3 b h).1; omega⟩, by have := (i3 b h).2; omega⟩))) (at_sl (r4.at.wide (fun b h => ⟨⟨by have := (i4 b h).1; omega, by have := (i4 b h).1; omega⟩, by have := (i4 b h).2; omega⟩))))))
    refine rows_at (T := 61) (B := W1.heap.size) (xs := xs ++ [.int .i64 n, .int .i64 k, .string (textS dn), .slice q3 m3 j3, .slice q4 m4 j4]) ?_ (RowsOf.snoc r1 X7.out.1 r2) (fun g' hg' => ?_)
    · rw [List.length_append]; exact H1.out
    · have e : g = g' := by simpa [Value.ownBlock] using hg'
      subst e
      rcases H3.out with h | h
      · have := HX.out.lt _ h; exact ⟨⟨this.1, by omega⟩, (H1.out.lt _ rfl).2⟩
      · have := E7.size
        exact ⟨⟨by rw [h]; exact D7.size, by rw [h]; omega⟩, (H1.out.lt _ rfl).2⟩)
  have HLen : Hid ((d ++ [(n, k, textS dn, (a3, a4))]).length = d.length + 1) := Lib.hid (by simp)
  clear H1 H2 H3 HX HO X7 E5 E6 E7 C5 C6 C7 C8 F8 PRE PR2 hU CT CE O4 DX Q D0 C0 D4 D5 D6 D7 D8 HR O8 T1 E1 R1
  have x0 := T9.out.cell 0 rfl
  have y0 := O9.out.cell 0 rfl; have y1 := O9.out.cell 1 rfl; have yf0 := O9.out.soft 0
  have O10 := Lib.hid (O9.out.set 0 (.int .i64 (n + 1)))
  have z0 := O10.out.cell 0 rfl; have z1 := O10.out.cell 1 rfl
  have R10 := Lib.hid (R9.out.far (R := w2.heap.size) (j := 0) (by omega) (.int .i64 (n + 1)))
  have b10 := b9.setCell (p := ⟨w2.heap.size, 0, none⟩) (by show w.heap.size ≤ w2.heap.size; omega) (.int .i64 (n + 1))
  have hwn : IntKind.i64.wrap (n + 1) = n + 1 := IntWalk.i64_in _ (by omega)
  have rf0 := R10.out.soft 0; have rz0 := R10.out.cell 0 rfl
  have rf1 := R10.out.soft 1; have rz1 := R10.out.cell 1 rfl
  have rf2 := R10.out.soft 2; have rz2 := R10.out.cell 2 rfl
  have rf3 := R10.out.soft 3; have rz3 := R10.out.cell 3 rfl
  have TE := ((((R10.out.set 0 (.int .i64 (n + 1))).set 1 (.slice (some ⟨g, 0, none⟩) (d.length + 1) cap)).set 2 (.slice none 0 0)).set 3 (.int .i64 0))
  have rj0 := TE.cell 0 rfl
  have rj1 := TE.cell 1 rfl
  have rj2 := TE.cell 2 rfl
  have rj3 := TE.cell 3 rfl
  clear TE
  have BE := Lib.hid ((((b10.setCell (p := ⟨w.heap.size + 1 + 1, 0, none⟩) (by show w.heap.size ≤ w.heap.size + 1 + 1; omega) (.int .i64 (n + 1))).setCell (p := ⟨w.heap.size + 1 + 1, 1, none⟩) (by show w.heap.size ≤ w.heap.size + 1 + 1; omega) (.slice (some ⟨g, 0, none⟩) (d.length + 1) cap)).setCell (p := ⟨w.heap.size + 1 + 1, 2, none⟩) (by show w.heap.size ≤ w.heap.size + 1 + 1; omega) (.slice none 0 0)).setCell (p := ⟨w.heap.size + 1 + 1, 3, none⟩) (by show w.heap.size ≤ w.heap.size + 1 + 1; omega) (.int .i64 0))
  go_wp2
  refine bodyPost_ret (v := .agg #[.int .i64 (n + 1), .slice (some ⟨g, 0, none⟩) (d.length + 1) cap, .slice none 0 0, .int .i64 0]) (by simp [results, Tryz.results42, go_sem, rj0, rj1, rj2, rj3]) rfl ?_
  rw [HRR.out]
  refine ⟨⟨_, _, rfl, ?_⟩, BE.out⟩
  have HF1 := HSL.out.frame (Same.set _ (g := w2.heap.size) 1 (.slice (some ⟨g, 0, none⟩) (d.length + 1) cap) (by intro h; exact h.1.2 rfl))
  have HF2 := HF1.frame (Same.set _ (g := w2.heap.size) 0 (.int .i64 (n + 1)) (by intro h; exact h.1.2 rfl))
  have HF3 := HF2.frame (Same.set _ (g := w.heap.size + 1 + 1) 0 (.int .i64 (n + 1)) (by intro h; have := h.1.1; omega))
  have HF4 := HF3.frame (Same.set _ (g := w.heap.size + 1 + 1) 1 (.slice (some ⟨g, 0, none⟩) (d.length + 1) cap) (by intro h; have := h.1.1; omega))
  have HF5 := HF4.frame (Same.set _ (g := w.heap.size + 1 + 1) 2 (.slice none 0 0) (by intro h; have := h.1.1; omega))
  have HF6 := HF5.frame (Same.set _ (g := w.heap.size + 1 + 1) 3 (.int .i64 0) (by intro h; have := h.1.1; omega))
  exact pair_at (c := [_, _]) (pair_at (c := [_]) rfl (at_sl (HF6.wide (fun b h => ⟨by have := h.1.1; omega, by have := h.2; show _ < (World.heap _).size; simp only [setCell_size]; exact this⟩)))) (pair_at (c := [_]) (at_sl (own_nilS _ _ _).at) rfl)
set_option maxRecDepth 100000 in
set_option maxHeartbeats 2000000 in
theorem SpecChangeAdd_any {S S3 S4 S5 : Bs} (n k : Int) (v vd v3 v4 : Value) (d : List ChangeT) (dn a3 : List RdnT) (a4 : List AttrT) (w : World) (hd : SlAt changeE S w d v) (hdn : SlAt rdnE S5 w dn vd) (h3 : SlAt rdnE S3 w a3 v3) (h4 : SlAt attrE S4 w a4 v4)
    (hz : d.length + szL changeE d ≤ 1048576) (hzd : dn.length + szL rdnE dn ≤ 1048576) (hze : entryE.sz (a3, a4) ≤ 1048576) :
    Calls Tryz.prog 14 #[.agg #[.int .i64 n, v], .int .i64 k, vd, .agg #[v3, v4]] w (GivesAt w (addR n d k dn a3 a4)) := by
  have CR : Hid (∀ W : World, Below w.heap.size w W → Calls Tryz.prog 8 #[.agg #[.int .i64 n, v]] W fun e w' => e = .returned (.bool (chsB n d)) ∧ Below W.heap.size W w') := Lib.hid (fun W b => SpecChangesRight_any n v d W (hd.frame (Same.of_below' b)) hz)
  have CQ : Hid (∀ W : World, Below w.heap.size w W → Calls Tryz.prog 33 #[.int .i64 k, vd, .agg #[v3, v4]] W fun e w' => e = .returned (.bool (rightC k dn a3 a4)) ∧ Below W.heap.size W w') := Lib.hid (fun W b => l08Right_any k dn a3 a4 vd v3 v4 W (hdn.frame (Same.of_below' b)) (h3.frame (Same.of_below' b)) (h4.frame (Same.of_below' b)) (fits_dn hzd) hze)
  have CA : Hid (∀ (W : World) (R : ChangesOutT), Below w.heap.size w W → dn.length ≤ 6 → 1 ≤ n ∧ n ≤ 1000000 → d.length ≤ 40 → R = (if d.length = 40 ∨ n = 1000000 then ((0, []), [], 9) else ((n + 1, d ++ [(n, k, textS dn, (a3, a4))]), [], 0)) → Calls Tryz.prog 42 #[.agg #[.int .i64 n, v], .int .i64 k, vd, .agg #[v3, v4]] W (GivesAt W R)) := Lib.hid (fun W R b h6 hn h40 hR => l08Add_any n k v vd v3 v4 d dn a3 a4 W (hd.frame (Same.of_below' b)) (hdn.frame (Same.of_below' b)) (h3.frame (Same.of_below' b)) (h4.frame (Same.of_below' b)) hz hzd hze h6 hn h40 R (Lib.hid hR))
  obtain ⟨ao, ca, rfl⟩ := hd.sl
  obtain ⟨od, cd, rfl⟩ := hdn.sl
  obtain ⟨o3, k3, rfl⟩ := h3.sl
  obtain ⟨o4, k4, rfl⟩ := h4.sl
  have HP := Lib.hid (@chsB_parts n d)
  have HCG : Hid (chgB (n, k, dnTextS dn, (a3, a4)) = rightC k dn a3 a4) := Lib.hid (by rw [chg_text]; unfold rightC; cases dnB dn <;> simp)
  have HDn : Hid (rightC k dn a3 a4 = true → dn.length ≤ 6 ∧ dnTextS dn = textS dn) := Lib.hid (fun h => by
    unfold rightC at h
    rw [Bool.and_eq_true, Bool.and_eq_true] at h
    exact ⟨dnB_six h.1.2, dnText_yes h.1.2⟩)
  by_cases c0 : 400 < dn.length
  · have HRR : Hid (addR n d k dn a3 a4 = ((0, []), [], 2)) := Lib.hid (by unfold addR; rw [if_pos c0])
    have c0' : (400 : Int) < (dn.length : Int) := by omega
    clear CR CQ CA hd hdn h3 h4 hz hzd hze
    go_enter Tryz.func14, Tryz.ntmps14
    go_wp2_with fail
    refine calls_by (fun W => Below w.heap.size w W ∧ Blk W (w.heap.size + 1 + 1) [.int .i64 0, .slice none 0 0, .slice none 0 0, .int .i64 0]) ⟨more' (more' (more' (Below.refl _ _) _) _) _, blk_at _ _ _ (by simp)⟩ ?_
    rintro W1 ⟨b1, r1⟩
    refine (l08Ill_any 2 W1).mono ?_
    rintro e w3 ⟨rfl, hb⟩
    have b3 := b1.trans (hb.mono b1.size); have R3 := Lib.hid (r1.below hb)
    clear hb r1 b1
    have rf0 := R3.out.soft 0; have rz0 := R3.out.cell 0 rfl
    have rf1 := R3.out.soft 1; have rz1 := R3.out.cell 1 rfl
    have rf2 := R3.out.soft 2; have rz2 := R3.out.cell 2 rfl
    have rf3 := R3.out.soft 3; have rz3 := R3.out.cell 3 rfl
    have TE := ((((R3.out.set 0 (.int .i64 0)).set 1 (.slice none 0 0)).set 2 (.slice none 0 0)).set 3 (.int .i64 2))
    have rj0 := TE.cell 0 rfl
    have rj1 := TE.cell 1 rfl
    have rj2 := TE.cell 2 rfl
    have rj3 := TE.cell 3 rfl
    clear TE
    have BE := Lib.hid ((((b3.setCell (p := ⟨w.heap.size + 1 + 1, 0, none⟩) (by show w.heap.size ≤ w.heap.size + 1 + 1; omega) (.int .i64 0)).setCell (p := ⟨w.heap.size + 1 + 1, 1, none⟩) (by show w.heap.size ≤ w.heap.size + 1 + 1; omega) (.slice none 0 0)).setCell (p := ⟨w.heap.size + 1 + 1, 2, none⟩) (by show w.heap.size ≤ w.heap.size + 1 + 1; omega) (.slice none 0 0)).setCell (p := ⟨w.heap.size + 1 + 1, 3, none⟩) (by show w.heap.size ≤ w.heap.size + 1 + 1; omega) (.int .i64 2))
    go_wp2
    refine bodyPost_ret (v := .agg #[.int .i64 0, .slice none 0 0, .slice none 0 0, .int .i64 2]) (by simp [results, Tryz.results14, go_sem, rj0, rj1, rj2, rj3]) rfl ?_
    rw [HRR.out]
    exact givesAt_ill 2 BE.out
  have c0' : ¬ (400 : Int) < (dn.length : Int) := by omega
  have HR : Hid (addR n d k dn a3 a4 = if (chsB n d && chgB (n, k, dnTextS dn, (a3, a4))) = true then (if d.length = 40 ∨ n = 1000000 then ((0, []), [], 9) else ((n + 1, d ++ [(n, k, dnTextS dn, (a3, a4))]), [], 0)) else ((0, []), [], 1)) := Lib.hid (by unfold addR; rw [if_neg c0])
  have HR : Hid (addR n d k dn a3 a4 = if (chsB n d && rightC k dn a3 a4) = true then (if d.length = 40 ∨ n = 1000000 then ((0, []), [], 9) else ((n + 1, d ++ [(n, k, dnTextS dn, (a3, a4))]), [], 0)) else ((0, []), [], 1)) := Lib.hid (by rw [HR.out, HCG.out])
  clear hd hdn h3 h4 HCG
  generalize addR n d k dn a3 a4 = R at *
  generalize chsB n d = r1 at *
  generalize rightC k dn a3 a4 = r2 at *
  go_enter Tryz.func14, Tryz.ntmps14
  go_wp2_with fail
  refine calls_by (fun W => Below w.heap.size w W ∧ Blk W w.heap.size [.int .i64 n, .slice ao d.length ca] ∧ Blk W (w.heap.size + 1) [.slice o3 a3.length k3, .slice o4 a4.length k4] ∧ Blk W (w.heap.size + 1 + 1) [.int .i64 0, .slice none 0 0, .slice none 0 0, .int .i64 0]) ⟨more' (more' (more' (Below.refl _ _) _) _) _, ((Blk.new _ _ _).alloc _).alloc _, (blk_at _ _ _ (by simp)).alloc _, blk_at _ _ _ (by simp)⟩ ?_
  rintro W1 ⟨b1, t1, e1, q1⟩
  refine (CR.out W1 b1).mono ?_
  rintro e w2 ⟨rfl, hb⟩
  have b2 := b1.trans (hb.mono b1.size); have T2 := Lib.hid (t1.below hb); have E2 := Lib.hid (e1.below hb); have R2 := Lib.hid (q1.below hb)
  clear hb t1 e1 q1 b1 CR
  cases r1
  · have HRR : Hid (R = ((0, []), [], 1)) := Lib.hid (by rw [HR.out]; rfl)
    go_wp2_with fail
    refine (l08Ill_any 1 w2).mono ?_
    rintro e w3 ⟨rfl, hb⟩
    have b3 := b2.trans (hb.mono b2.size); have R3 := Lib.hid (R2.out.below hb)
    clear hb
    have rf0 := R3.out.soft 0; have rz0 := R3.out.cell 0 rfl
    have rf1 := R3.out.soft 1; have rz1 := R3.out.cell 1 rfl
    have rf2 := R3.out.soft 2; have rz2 := R3.out.cell 2 rfl
    have rf3 := R3.out.soft 3; have rz3 := R3.out.cell 3 rfl
    have TE := ((((R3.out.set 0 (.int .i64 0)).set 1 (.slice none 0 0)).set 2 (.slice none 0 0)).set 3 (.int .i64 1))
    have rj0 := TE.cell 0 rfl
    have rj1 := TE.cell 1 rfl
    have rj2 := TE.cell 2 rfl
    have rj3 := TE.cell 3 rfl
    clear TE
    have BE := Lib.hid ((((b3.setCell (p := ⟨w.heap.size + 1 + 1, 0, none⟩) (by show w.heap.size ≤ w.heap.size + 1 + 1; omega) (.int .i64 0)).setCell (p := ⟨w.heap.size + 1 + 1, 1, none⟩) (by show w.heap.size ≤ w.heap.size + 1 + 1; omega) (.slice none 0 0)).setCell (p := ⟨w.heap.size + 1 + 1, 2, none⟩) (by show w.heap.size ≤ w.heap.size + 1 + 1; omega) (.slice none 0 0)).setCell (p := ⟨w.heap.size + 1 + 1, 3, none⟩) (by show w.heap.size ≤ w.heap.size + 1 + 1; omega) (.int .i64 1))
    go_wp2
    refine bodyPost_ret (v := .agg #[.int .i64 0, .slice none 0 0, .slice none 0 0, .int .i64 1]) (by simp [results, Tryz.results14, go_sem, rj0, rj1, rj2, rj3]) rfl ?_
    rw [HRR.out]
    exact givesAt_ill 1 BE.out
  obtain ⟨hn1, hn2, hd40, hf1, _⟩ := HP.out (by first | rfl | trivial)
  have x0 := E2.out.cell 0 rfl; have x1 := E2.out.cell 1 rfl
  go_wp2_with fail
  refine (CQ.out w2 b2).mono ?_
  rintro e w3 ⟨rfl, hb⟩
  have b3 := b2.trans (hb.mono b2.size); have T3 := Lib.hid (T2.out.below hb); have E3 := Lib.hid (E2.out.below hb); have R3 := Lib.hid (R2.out.below hb)
  clear hb T2 E2 R2 b2 CQ x0 x1
  cases r2
  · have HRR : Hid (R = ((0, []), [], 1)) := Lib.hid (by rw [HR.out]; rfl)
    go_wp2_with fail
    refine (l08Ill_any 1 w3).mono ?_
    rintro e w4 ⟨rfl, hb⟩
    have b4 := b3.trans (hb.mono b3.size); have R4 := Lib.hid (R3.out.below hb)
    clear hb
    have rf0 := R4.out.soft 0; have rz0 := R4.out.cell 0 rfl
    have rf1 := R4.out.soft 1; have rz1 := R4.out.cell 1 rfl
    have rf2 := R4.out.soft 2; have rz2 := R4.out.cell 2 rfl
    have rf3 := R4.out.soft 3; have rz3 := R4.out.cell 3 rfl
    have TE := ((((R4.out.set 0 (.int .i64 0)).set 1 (.slice none 0 0)).set 2 (.slice none 0 0)).set 3 (.int .i64 1))
    have rj0 := TE.cell 0 rfl
    have rj1 := TE.cell 1 rfl
    have rj2 := TE.cell 2 rfl
    have rj3 := TE.cell 3 rfl
    clear TE
    have BE := Lib.hid ((((b4.setCell (p := ⟨w.heap.size + 1 + 1, 0, none⟩) (by show w.heap.size ≤ w.heap.size + 1 + 1; omega) (.int .i64 0)).setCell (p := ⟨w.heap.size + 1 + 1, 1, none⟩) (by show w.heap.size ≤ w.heap.size + 1 + 1; omega) (.slice none 0 0)).setCell (p := ⟨w.heap.size + 1 + 1, 2, none⟩) (by show w.heap.size ≤ w.heap.size + 1 + 1; omega) (.slice none 0 0)).setCell (p := ⟨w.heap.size + 1 + 1, 3, none⟩) (by show w.heap.size ≤ w.heap.size + 1 + 1; omega) (.int .i64 1))
    go_wp2
    refine bodyPost_ret (v := .agg #[.int .i64 0, .slice none 0 0, .slice none 0 0, .int .i64 1]) (by simp [results, Tryz.results14, go_sem, rj0, rj1, rj2, rj3]) rfl ?_
    rw [HRR.out]
    exact givesAt_ill 1 BE.out
  obtain ⟨h6, htx⟩ := HDn.out (by first | rfl | trivial)
  have x0 := E3.out.cell 0 rfl; have x1 := E3.out.cell 1 rfl
  have y0 := T3.out.cell 0 rfl; have y1 := T3.out.cell 1 rfl
  have CAA := Lib.hid (CA.out w3 R b3 h6 ⟨hn1, hn2⟩ hd40 (by rw [HR.out, if_pos (by rfl), htx]))
  clear CA HR HP HDn htx
  go_wp2_with fail
  refine CAA.out.mono ?_
  rintro e w4 ⟨⟨u1, u2, rfl, q⟩, hb⟩
  have b4 := b3.trans (hb.mono b3.size); have R4 := Lib.hid (R3.out.below hb); have Q := Lib.hid q
  have hw3 : w.heap.size + 1 + 1 < w3.heap.size := R3.out.lt
  obtain ⟨⟨na, la⟩, lb, cd'⟩ := R
  have Z := changesOut_atp q
  obtain ⟨pa, ca', rfl⟩ := Z.1.sl
  obtain ⟨pb, cb', rfl⟩ := Z.2.sl
  have Z1 := Lib.hid Z.1; have Z2 := Lib.hid Z.2
  clear hb q Z R3 b3 x0 x1 y0 y1 T3 E3 CAA
  have rf0 := R4.out.soft 0; have rz0 := R4.out.cell 0 rfl
  have rf1 := R4.out.soft 1; have rz1 := R4.out.cell 1 rfl
  have rf2 := R4.out.soft 2; have rz2 := R4.out.cell 2 rfl
  have rf3 := R4.out.soft 3; have rz3 := R4.out.cell 3 rfl
  have TE := ((((R4.out.set 0 (.int .i64 na)).set 1 (.slice pa la.length ca')).set 2 (.slice pb lb.length cb')).set 3 (.int .i64 cd'))
  have rj0 := TE.cell 0 rfl
  have rj1 := TE.cell 1 rfl
  have rj2 := TE.cell 2 rfl
  have rj3 := TE.cell 3 rfl
  clear TE
  have BE := Lib.hid ((((b4.setCell (p := ⟨w.heap.size + 1 + 1, 0, none⟩) (by show w.heap.size ≤ w.heap.size + 1 + 1; omega) (.int .i64 na)).setCell (p := ⟨w.heap.size + 1 + 1, 1, none⟩) (by show w.heap.size ≤ w.heap.size + 1 + 1; omega) (.slice pa la.length ca')).setCell (p := ⟨w.heap.size + 1 + 1, 2, none⟩) (by show w.heap.size ≤ w.heap.size + 1 + 1; omega) (.slice pb lb.length cb')).setCell (p := ⟨w.heap.size + 1 + 1, 3, none⟩) (by show w.heap.size ≤ w.heap.size + 1 + 1; omega) (.int .i64 cd'))
  go_wp2
  refine bodyPost_ret (v := .agg #[.int .i64 na, .slice pa la.length ca', .slice pb lb.length cb', .int .i64 cd']) (by simp [results, Tryz.results14, go_sem, rj0, rj1, rj2, rj3]) rfl ?_
  refine ⟨⟨_, _, rfl, pair_at (c := [_, _]) (pair_at (c := [_]) rfl (at_sl (SlAt.wide (S := Fresh w3 w4) ?_ (fun b h => ⟨by have := h.1; omega, by have := h.2; show _ < (World.heap _).size; simp only [setCell_size]; exact this⟩)))) (pair_at (c := [_]) (at_sl (SlAt.wide (S := Fresh w3 w4) ?_ (fun b h => ⟨by have := h.1; omega, by have := h.2; show _ < (World.heap _).size; simp only [setCell_size]; exact this⟩))) rfl)⟩, BE.out⟩
  · exact (((Z1.out.frame (Same.set _ (g := w.heap.size + 1 + 1) 0 _ (by intro h; have := h.1; omega))).frame (Same.set _ (g := w.heap.size + 1 + 1) 1 _ (by intro h; have := h.1; omega))).frame (Same.set _ (g := w.heap.size + 1 + 1) 2 _ (by intro h; have := h.1; omega))).frame (Same.set _ (g := w.heap.size + 1 + 1) 3 _ (by intro h; have := h.1; omega))
  · exact (((Z2.out.frame (Same.set _ (g := w.heap.size + 1 + 1) 0 _ (by intro h; have := h.1; omega))).frame (Same.set _ (g := w.heap.size + 1 + 1) 1 _ (by intro h; have := h.1; omega))).frame (Same.set _ (g := w.heap.size + 1 + 1) 2 _ (by intro h; have := h.1; omega))).frame (Same.set _ (g := w.heap.size + 1 + 1) 3 _ (by intro h; have := h.1; omega))
end Go.Proofs.YtmanlnlhpgdbpaaGreat
/- Arguments that are data: where they lie. -/
namespace Go.Proofs.YtmanlnlhpgdbpaaGreat
open Go.RowKit Go.ChangeShapes Go.WideShapes Go.Joins Go.Deep

theorem list_ofE {α : Type} (Q : Nat → α → Prop) (n : Nat) (h : ∀ i, i < n → ∃ a, Q i a) : ∃ l : List α, l.length = n ∧ ∀ i (hi : i < l.length), Q i l[i] := by
  induction n with
  | zero => exact ⟨[], rfl, fun i hi => by simp at hi⟩
  | succ n ih =>
    obtain ⟨l, hl, hq⟩ := ih fun i hi => h i (by omega)
    obtain ⟨a, ha⟩ := h n (by omega)
    refine ⟨l ++ [a], by simp [hl], fun i hi => ?_⟩
    by_cases e : i < l.length
    · rw [List.getElem_append_left e]; exact hq i e
    · have : i = n := by simp at hi; omega
      subst this
      rw [List.getElem_append_right (by omega)]
      simpa using ha
/-- the blocks that stand -/
abbrev All (w : World) : Bs := fun b => b < w.heap.size
/-- a type whose cells are data of this kind -/
def Opens {α : Type} (P : Program) (t : TypeId) (e : Enc α) : Prop := ∀ (H : Type) (enc : TypeId × Value → H) (w : World) (base : Nat) (spare : Nat → Bool) (held : Bool) (fuel : Nat) (cs : List Value) (x : DataW H × List MemPlace),
  DataW.trod enc P w base spare held fuel t cs = some x → ∃ a, e.At (All w) w a cs ∧ e.long a
theorem opens_str {P : Program} {t : TypeId} (ht : P.underlying t = some .string) : Opens P t strE := fun H enc w base spare held fuel cs x h => by
  obtain ⟨s, e, _, hs⟩ := DataW.trod_string ht h
  exact ⟨s, e, hs⟩
theorem wf_i64 {n : Int} (h : (Lit.int IntKind.i64 n).wf = true) : -9223372036854775808 ≤ n ∧ n ≤ 9223372036854775807 := by
  have e1 : IntKind.i64.min = -9223372036854775808 := by decide
  have e2 : IntKind.i64.max = 9223372036854775807 := by decide
  simp only [Lit.wf, Bool.and_eq_true, decide_eq_true_eq, e1, e2] at h
  exact h
theorem opens_int {P : Program} {t : TypeId} (ht : P.underlying t = some (.int .i64)) : Opens P t intE := fun H enc w base spare held fuel cs x h => by
  cases fuel with
  | zero => simp [DataW.trod] at h
  | succ n =>
    unfold DataW.trod at h
    rw [ht] at h
    split at h
    all_goals first
      | (rename_i heq; injection heq with heq; cases heq; done)
      | (rename_i k k' n heq
         injection heq with heq
         injection heq with heq
         subst heq
         split at h
         · rename_i hc
           obtain ⟨rfl, hw⟩ := hc
           exact ⟨n, rfl, wf_i64 hw⟩
         · cases h)
      | (cases h; done)
theorem opens_bool {P : Program} {t : TypeId} (ht : P.underlying t = some .bool) : Opens P t boolE := fun H enc w base spare held fuel cs x h => by
  cases fuel with
  | zero => simp [DataW.trod] at h
  | succ n =>
    unfold DataW.trod at h
    rw [ht] at h
    split at h
    all_goals first
      | (rename_i heq; injection heq with heq; cases heq; done)
      | (exact ⟨_, rfl, trivial⟩)
      | (cases h; done)
theorem opens_sl {α : Type} {P : Program} {t te : TypeId} {e : Enc α} (ht : P.underlying t = some (.slice te)) (hc : P.cellsOf te = e.n) (hn : 0 < e.n) (he : Opens P te e) : Opens P t (slE e) := fun H enc w base spare held fuel cs x h => by
  rcases open_slice ht h with ⟨rfl, _⟩ | ⟨a, len, cap, m, n, D, Pl, rfl, hb, hl, hm, hmm, _, hx⟩
  · exact ⟨[], ⟨_, rfl, none, 0, rfl, Nat.le_refl _, fun _ => rfl, .inl rfl⟩, by simp, by simp⟩
  · have hle : len ≤ m := by rw [hmm]; split <;> omega
    obtain ⟨L, hL, hq⟩ := list_ofE (fun i (k : α) => ∃ cs : List Value, cs.length = e.n ∧ (∀ j (h : j < cs.length), w.cell? (a.add (i * e.n + j)) = some cs[j]) ∧ e.At (All w) w k cs ∧ e.long k) len (by
      intro i hi
      obtain ⟨cs', h1, h2⟩ := hx i (by omega)
      rw [hc] at h1
      obtain ⟨_, hlen, hcell⟩ := World.cells?_some h1
      obtain ⟨k, hk, hlong⟩ := he H enc w base spare held _ _ _ h2
      refine ⟨k, cs', hlen, fun j hj => ?_, hk, hlong⟩
      have := hcell j (by omega)
      rw [add_add] at this
      rw [this, List.getElem?_eq_getElem hj])
    refine ⟨L, ⟨.slice (some a) len cap, rfl, some a, cap, by rw [hL], by omega, (fun x => by cases x), ?_⟩, ?_, ?_⟩
    · by_cases h0 : len = 0
      · left; exact List.length_eq_zero_iff.1 (by omega)
      · obtain ⟨b, off, spot⟩ := a
        have hspot : spot = none := by
          obtain ⟨cs, h1, h2, _⟩ := hq 0 (by omega)
          simpa [Addr.add] using World.cell?_spot (h2 0 (by omega))
        subst hspot
        have hbl : b < w.heap.size := by
          obtain ⟨cs, h1, h2, _⟩ := hq 0 (by omega)
          have := World.block_lt_of_cell? w _ (h2 0 (by omega))
          simpa [Addr.add] using this
        refine .inr ⟨b, off, rfl, hbl, hbl, fun i hi => ?_⟩
        obtain ⟨cs, h1, h2, h3, _⟩ := hq i hi
        refine ⟨cs, fun j hj => ?_, h3⟩
        have := h2 j hj
        rw [Go.WideShapes.add_plain] at this
        rw [Nat.add_assoc]; exact this
    · show L.length ≤ _
      unfold maxLen at hm; omega
    · intro r hr
      obtain ⟨i, hi, rfl⟩ := List.getElem_of_mem hr
      obtain ⟨_, _, _, _, z⟩ := hq i hi
      exact z
/-- the fields from i on, their cells from o on -/
def FieldsFrom {α : Type} (P : Program) (fs : Array Field) (i o N : Nat) (e : Enc α) : Prop := ∀ (H : Type) (enc : TypeId × Value → H) (w : World) (base : Nat) (spare : Nat → Bool) (held : Bool) (n : Nat) (cs : List Value), cs.length = N →
  (∀ j f, i ≤ j → fs[j]? = some f → ∃ x, DataW.trod enc P w base spare held n f.type ((cs.drop f.offset).take (P.cellsOf f.type)) = some x) → ∃ a, e.At (All w) w a (cs.drop o) ∧ e.long a
theorem ff_last {α : Type} {P : Program} {fs : Array Field} {i o N : Nat} {e : Enc α} (f : Field) (hf : fs[i]? = some f) (ho : f.offset = o) (hc : P.cellsOf f.type = e.n) (hN : o + e.n = N) (hop : Opens P f.type e) : FieldsFrom P fs i o N e := by
  intro H enc w base spare held n cs hl h
  obtain ⟨x, hx⟩ := h i f (Nat.le_refl _) hf
  rw [ho, hc, List.take_of_length_le (by rw [List.length_drop]; omega)] at hx
  exact hop H enc w base spare held n _ x hx
theorem ff_cons {α β : Type} {P : Program} {fs : Array Field} {i o N : Nat} {a : Enc α} {b : Enc β} (f : Field) (hf : fs[i]? = some f) (ho : f.offset = o) (hc : P.cellsOf f.type = a.n) (hop : Opens P f.type a) (hr : FieldsFrom P fs (i + 1) (o + a.n) N b) : FieldsFrom P fs i o N (pairE a b) := by
  intro H enc w base spare held n cs hl h
  obtain ⟨x, hx⟩ := h i f (Nat.le_refl _) hf
  rw [ho, hc] at hx
  obtain ⟨p, p1, p2⟩ := hop H enc w base spare held n _ x hx
  obtain ⟨q, q1, q2⟩ := hr H enc w base spare held n cs hl (fun j f hj hf => h j f (by omega) hf)
  refine ⟨(p, q), ⟨_, _, ?_, p1, q1⟩, p2, q2⟩
  rw [← List.drop_drop, List.take_append_drop]
theorem opens_struct {α : Type} {P : Program} {t : TypeId} {fs : Array Field} {e : Enc α} (ht : P.underlying t = some (.struct fs)) (hc : P.cellsOf t = e.n) (hf : FieldsFrom P fs 0 0 e.n e) : Opens P t e := fun H enc w base spare held fuel cs x h => by
  obtain ⟨xs, n, _, _, hl, hxl, hx⟩ := DataW.trod_struct ht h
  refine hf H enc w base spare held n cs (hl.trans hc) (fun j f _ hj => ?_)
  have hjs : j < fs.size := (Array.getElem?_eq_some_iff.1 hj).1
  exact ⟨xs[j]'(by omega), by rw [hx j f hj, List.getElem?_eq_getElem (by omega)]⟩
theorem opens_iso {α β : Type} {P : Program} {t : TypeId} {e : Enc α} {f : β → α} {g : α → β} {h : ∀ x, f (g x) = x} (ho : Opens P t e) : Opens P t (isoE e f g h) := fun H enc w base spare held fuel cs x hx => by
  obtain ⟨a, h1, h2⟩ := ho H enc w base spare held fuel cs x hx
  exact ⟨g a, by show e.At _ _ (f (g a)) _; rw [h]; exact h1, by show e.long (f (g a)); rw [h]; exact h2⟩
theorem opens_still {α : Type} {P : Program} {t : TypeId} {e : Enc α} (ho : Opens P t e) : Opens P t (stillE e) := ho
theorem agg_eq {cs : Array Value} {l : List Value} (h : cs.toList = l) : Value.agg cs = .agg l.toArray := by rw [← h]
section
variable {H : Type} {enc : TypeId × Value → H} {P : Program} {w : World} {base : Nat} {spare : Nat → Bool} {held : Bool}
theorem opv_sl {α : Type} {e : Enc α} {t : TypeId} (ho : Opens P t (slE e)) {a : Option Addr} {n c : Nat} {d : DataW H} {p : List MemPlace} (h : DataW.Trod enc P w base spare held t (.slice a n c) d p) :
    ∃ l, SlAt e (All w) w l (.slice a n c) ∧ (slE e).long l := by
  obtain ⟨fuel, hf⟩ := h
  obtain ⟨l, ⟨v, e1, hs⟩, hl⟩ := ho H enc w base spare held fuel _ _ hf
  have e2 : [Value.slice a n c] = [v] := e1
  injection e2 with e2
  subst e2
  exact ⟨l, hs, hl⟩
theorem opv_int {r : Reach} {b0 : Nat} {t : TypeId} {v : Value} {d : DataW H} {p : List MemPlace} (ht : P.underlying t = some (.int .i64)) (hv : Value.okWide P w r b0 t v) (h : DataW.Trod enc P w base spare held t v d p) :
    ∃ n : Int, v = .int .i64 n ∧ (-9223372036854775808 ≤ n ∧ n ≤ 9223372036854775807) := by
  obtain ⟨n, rfl⟩ := okWide_int ht hv
  obtain ⟨fuel, hf⟩ := h
  obtain ⟨a, e1, hl⟩ := opens_int ht H enc w base spare held fuel _ _ hf
  have e2 : [Value.int .i64 n] = [Value.int .i64 a] := e1
  injection e2 with e2
  injection e2 with _ e2
  subst e2
  exact ⟨n, rfl, hl⟩
theorem opv_struct {α : Type} {e : Enc α} {r : Reach} {b0 : Nat} {t : TypeId} {fs : Array Field} {v : Value} {d : DataW H} {p : List MemPlace} (hs : P.underlying t = some (.struct fs)) (ho : Opens P t e) (hv : Value.okWide P w r b0 t v) (h : DataW.Trod enc P w base spare held t v d p) :
    ∃ (cs : Array Value) (a : α), v = .agg cs ∧ e.At (All w) w a cs.toList ∧ e.long a := by
  obtain ⟨cs, rfl, hsz⟩ := okWide_struct hs hv
  obtain ⟨fuel, hf⟩ := h
  obtain ⟨a, h1, h2⟩ := ho H enc w base spare held fuel _ _ hf
  exact ⟨cs, a, rfl, h1, h2⟩
end
end Go.Proofs.YtmanlnlhpgdbpaaGreat
/- Arguments of the laws: where they lie. -/
namespace Go.Proofs.YtmanlnlhpgdbpaaGreat
open Go.RowKit

open Go.ChangeShapes Go.WideShapes Go.Joins Go.Deep
theorem opn_str : Opens Tryz.prog 9 strE := opens_str Tryz.underlying9
theorem Tryz.cellStr : Tryz.prog.cellsOf 9 = strE.n := by kernel_rfl
theorem opn_int : Opens Tryz.prog 2 intE := opens_int Tryz.underlying2
theorem opn_strS : Opens Tryz.prog 94 (slE strE) := opens_sl Tryz.underlying94 Tryz.cellStr (by decide) opn_str
theorem Tryz.cellRdn : Tryz.prog.cellsOf 74 = rdnE.n := by kernel_rfl
set_option maxRecDepth 100000 in
theorem opn_rdn : Opens Tryz.prog 74 rdnE := opens_struct Tryz.underlying74 Tryz.cellRdn (ff_cons _ (by rfl) (by rfl) (by kernel_rfl) opn_str (ff_last _ (by rfl) (by rfl) (by kernel_rfl) (by rfl) opn_str))
theorem Tryz.cellAttr : Tryz.prog.cellsOf 107 = attrE.n := by kernel_rfl
set_option maxRecDepth 100000 in
theorem opn_attr : Opens Tryz.prog 107 attrE := opens_struct Tryz.underlying107 Tryz.cellAttr (ff_cons _ (by rfl) (by rfl) (by kernel_rfl) opn_str (ff_last _ (by rfl) (by rfl) (by kernel_rfl) (by rfl) opn_strS))
theorem opn_rdnS : Opens Tryz.prog 33 (slE rdnE) := opens_sl Tryz.underlying33 Tryz.cellRdn (by decide) opn_rdn
theorem opn_attrS : Opens Tryz.prog 34 (slE attrE) := opens_sl Tryz.underlying34 Tryz.cellAttr (by decide) opn_attr
theorem Tryz.cellEntry : Tryz.prog.cellsOf 36 = entryE.n := by kernel_rfl
set_option maxRecDepth 100000 in
theorem opn_entry : Opens Tryz.prog 36 entryE := opens_struct Tryz.underlying36 Tryz.cellEntry (ff_cons _ (by rfl) (by rfl) (by kernel_rfl) opn_rdnS (ff_last _ (by rfl) (by rfl) (by kernel_rfl) (by rfl) opn_attrS))
theorem Tryz.cellChange : Tryz.prog.cellsOf 93 = changeE.n := by kernel_rfl
set_option maxRecDepth 100000 in
theorem opn_change : Opens Tryz.prog 93 changeE := opens_struct Tryz.underlying93 Tryz.cellChange (ff_cons _ (by rfl) (by rfl) (by kernel_rfl) opn_int (ff_cons _ (by rfl) (by rfl) (by kernel_rfl) opn_int (ff_cons _ (by rfl) (by rfl) (by kernel_rfl) opn_str (ff_last _ (by rfl) (by rfl) (by kernel_rfl) (by rfl) opn_entry))))
theorem opn_changeS : Opens Tryz.prog 22 (slE changeE) := opens_sl Tryz.underlying22 Tryz.cellChange (by decide) opn_change
theorem Tryz.cellChanges : Tryz.prog.cellsOf 24 = changesE.n := by kernel_rfl
set_option maxRecDepth 100000 in
theorem opn_changes : Opens Tryz.prog 24 changesE := opens_struct Tryz.underlying24 Tryz.cellChanges (ff_cons _ (by rfl) (by rfl) (by kernel_rfl) opn_int (ff_last _ (by rfl) (by rfl) (by kernel_rfl) (by rfl) opn_changeS))
set_option maxRecDepth 100000 in
theorem opv_rdn {H : Type} {enc : TypeId × Value → H} {w : World} {base : Nat} {spare : Nat → Bool} {held : Bool} {r : Reach} {b0 : Nat} {v : Value} {d : DataW H} {p : List MemPlace} (hv : Value.okWide Tryz.prog w r b0 74 v) (h : DataW.Trod enc Tryz.prog w base spare held 74 v d p) :
    ∃ (a0 : ByteArray) (a1 : ByteArray) , v = .agg #[.string a0, .string a1] ∧ (True) ∧ rdnE.long (a0, a1) := by
  obtain ⟨cs, a, rfl, h1, h2⟩ := opv_struct Tryz.underlying74 opn_rdn hv h
  obtain ⟨a0, a1, rfl, e1, hq⟩ := rdn_atq h1
  refine ⟨a0, a1, agg_eq e1, ?_, h2⟩
  exact hq
set_option maxRecDepth 100000 in
theorem opv_attr {H : Type} {enc : TypeId × Value → H} {w : World} {base : Nat} {spare : Nat → Bool} {held : Bool} {r : Reach} {b0 : Nat} {v : Value} {d : DataW H} {p : List MemPlace} (hv : Value.okWide Tryz.prog w r b0 107 v) (h : DataW.Trod enc Tryz.prog w base spare held 107 v d p) :
    ∃ (a0 : ByteArray) (a1 : (List ByteArray)) (v1 : Value), v = .agg #[.string a0, v1] ∧ (SlAt strE (All w) w a1 v1) ∧ attrE.long (a0, a1) := by
  obtain ⟨cs, a, rfl, h1, h2⟩ := opv_struct Tryz.underlying107 opn_attr hv h
  obtain ⟨a0, a1, v1, rfl, e1, hq⟩ := attr_atq h1
  refine ⟨a0, a1, v1, agg_eq e1, ?_, h2⟩
  exact hq.1
set_option maxRecDepth 100000 in
theorem opv_entry {H : Type} {enc : TypeId × Value → H} {w : World} {base : Nat} {spare : Nat → Bool} {held : Bool} {r : Reach} {b0 : Nat} {v : Value} {d : DataW H} {p : List MemPlace} (hv : Value.okWide Tryz.prog w r b0 36 v) (h : DataW.Trod enc Tryz.prog w base spare held 36 v d p) :
    ∃ (a0 : (List RdnT)) (a1 : (List AttrT)) (v0 v1 : Value), v = .agg #[v0, v1] ∧ (SlAt rdnE (All w) w a0 v0 ∧ SlAt attrE (All w) w a1 v1) ∧ entryE.long (a0, a1) := by
  obtain ⟨cs, a, rfl, h1, h2⟩ := opv_struct Tryz.underlying36 opn_entry hv h
  obtain ⟨a0, a1, v0, v1, rfl, e1, hq⟩ := entry_atq h1
  refine ⟨a0, a1, v0, v1, agg_eq e1, ?_, h2⟩
  exact ⟨hq.1, hq.2.1⟩
set_option maxRecDepth 100000 in
theorem opv_change {H : Type} {enc : TypeId × Value → H} {w : World} {base : Nat} {spare : Nat → Bool} {held : Bool} {r : Reach} {b0 : Nat} {v : Value} {d : DataW H} {p : List MemPlace} (hv : Value.okWide Tryz.prog w r b0 93 v) (h : DataW.Trod enc Tryz.prog w base spare held 93 v d p) :
    ∃ (a0 : Int) (a1 : Int) (a2 : ByteArray) (a3 : (List RdnT)) (a4 : (List AttrT)) (v3 v4 : Value), v = .agg #[.int .i64 a0, .int .i64 a1, .string a2, v3, v4] ∧ (SlAt rdnE (All w) w a3 v3 ∧ SlAt attrE (All w) w a4 v4) ∧ changeE.long (a0, a1, a2, (a3, a4)) := by
  obtain ⟨cs, a, rfl, h1, h2⟩ := opv_struct Tryz.underlying93 opn_change hv h
  obtain ⟨a0, a1, a2, a3, a4, v3, v4, rfl, e1, hq⟩ := change_atq h1
  refine ⟨a0, a1, a2, a3, a4, v3, v4, agg_eq e1, ?_, h2⟩
  exact ⟨hq.1, hq.2.1⟩
set_option maxRecDepth 100000 in
theorem opv_changes {H : Type} {enc : TypeId × Value → H} {w : World} {base : Nat} {spare : Nat → Bool} {held : Bool} {r : Reach} {b0 : Nat} {v : Value} {d : DataW H} {p : List MemPlace} (hv : Value.okWide Tryz.prog w r b0 24 v) (h : DataW.Trod enc Tryz.prog w base spare held 24 v d p) :
    ∃ (a0 : Int) (a1 : (List ChangeT)) (v1 : Value), v = .agg #[.int .i64 a0, v1] ∧ (SlAt changeE (All w) w a1 v1) ∧ changesE.long (a0, a1) := by
  obtain ⟨cs, a, rfl, h1, h2⟩ := opv_struct Tryz.underlying24 opn_changes hv h
  obtain ⟨a0, a1, v1, rfl, e1, hq⟩ := changes_atq h1
  refine ⟨a0, a1, v1, agg_eq e1, ?_, h2⟩
  exact hq.1
end Go.Proofs.YtmanlnlhpgdbpaaGreat
