/- Merged texts: toString, toAttr, VwS00, L5c, ClsQ2, MemL, MemC, szString, szClass, toClass, eqString, eqClass, MemE. -/
import Derived.Test.YtlgafmgohinkbaaM5
import Derived.Test.YtlgafmgohinkbaaM2
import Derived.Laws.MakeOwn
import Derived.Test.YtlgafmgohinkbaaM8
import Derived.Test.YtlgafmgohinkbaaM3
import Derived.Test.YtlgafmgohinkbaaM6
import Derived.Test.YtlgafmgohinkbaaM1
import Derived.Deep.RegionHeld
import Derived.SliceStrings
/- The helpers of the laws: copies. -/
namespace Go.Proofs.Ytlgafmgohinkbaa
open Go.RowKit
attribute [local go_sem ↓] Go.wp_at_zero Go.wp_at_succ

theorem Try.infoTString : (Try.prog.info? 9).map (fun i => (i.zero, i.size, i.bytes)) = some (some (.string ByteArray.empty), 1, 16) := by kernel_rfl
theorem mkString (n : Nat) (hn : n ≤ 1048576) (W : World) : ∃ C : Array Value, C.size = n * 1 ∧
    (Instr.makeSlice 29 (.int .i64 (n : Int)) (.int .i64 (n : Int))).run Try.prog W = .ok (.slice (some ⟨W.heap.size, 0, none⟩) n n) (W.alloc (.cells C 9)) := by
  obtain ⟨i0, hi, hz0, hz1, hz2⟩ := info_parts Try.infoTString
  have := run_make (P := Try.prog) W 29 9 i0 _ Try.underlying29 hi hz0 .i64 .i64 (n : Int) (n : Int) (by omega) (by omega) (by rw [hz2]; omega) (by omega)
  rw [hz1] at this
  refine ⟨madeCells (Value.cells (.string ByteArray.empty)) (n * 1), size_madeCells _ _, ?_⟩
  simpa using this
set_option maxRecDepth 100000 in
set_option maxHeartbeats 4000000 in
theorem toStringS_at {S : Bs} (v : Value) (d : List ByteArray) (w : World) (hd : SlAt strE S w d v) (hz : d.length + szL strE d ≤ 1048576) :
    Calls Try.prog 84 #[v] w fun e w' => ∃ u, e = .returned u ∧ SlOwn strE (Fresh w w') w' d u ∧ Below w.heap.size w w' := by
  obtain ⟨ao, cap, rfl⟩ := hd.sl
  have HD := Lib.hid hd; clear hd
  have HL := Lib.hid hz
  have hl : d.length ≤ 1048576 := by omega
  clear hz
  obtain ⟨C, hC, hmk⟩ := mkString d.length hl w
  have HC := Lib.hid hC; clear hC
  go_enter Try.func84, Try.ntmps84
  go_wp2
  clear hmk
  go_loopw [4] (fun i wr => ∃ k : Nat, k ≤ d.length ∧ i = .int .i64 k ∧ Build strE wr w.heap.size d.length (d.take k) ∧ Below w.heap.size w wr) (fun i _ => d.length - (intOf i).toNat)
  case atStart => exact ⟨0, Nat.zero_le _, rfl, Build.new _ _ _ _ HC.out, (Below.refl _ _).alloc (Nat.le_refl _) _⟩
  case round =>
    obtain ⟨k, hk, rfl, hR, hbel⟩ := hrel
    have HR := Lib.hid hR; clear hR
    have hsz := hbel.size
    by_cases hlt : k < d.length
    · obtain ⟨b, off, A, rfl, _, hb0, hx, hc1⟩ := str_row (HD.out.frame (Same.of_below' hbel)) hlt
      have HT : Hid (d.take (k + 1) = d.take k ++ [A]) := Lib.hid (by rw [List.take_succ_eq_append_getElem hlt, hx])
      have HK : Hid ((d.take k).length = k) := Lib.hid (by rw [List.length_take]; omega)
      clear hx
      obtain ⟨x, c0⟩ := HR.out.cell (k := k) (u := 0) hlt (by decide)
      have c0 : wr.cell? ⟨w.heap.size, k, none⟩ = some x := by have e1 : k * strE.n + 0 = k := by (show k * 1 + 0 = k); omega
                                                               rw [e1] at c0; exact c0
      have f0 := HR.out.soft k
      go_wp2
      go_roundw
      case rel => exact ⟨k + 1, by omega, by go_num, by rw [HT.out]; exact HR.out.row (o := k) (cs := [.string A]) (by rw [HK.out]; exact hlt) (by rw [HK.out]; show k = k * 1; omega) (Below.refl _ _) rfl, hbel.setCell (Nat.le_refl _) _⟩
      case measure => simp [intOf]; omega
    · have e : d.take k = d := List.take_of_length_le (by omega)
      rw [e] at HR
      clear e
      go_wp2
      go_ret
      exact ⟨_, rfl, HR.out.own, hbel⟩
end Go.Proofs.Ytlgafmgohinkbaa
/- The helpers of the laws: copies. -/
namespace Go.Proofs.Ytlgafmgohinkbaa
open Go.RowKit
attribute [local go_sem ↓] Go.wp_at_zero Go.wp_at_succ

theorem Try.infoTAttr : (Try.prog.info? 97).map (fun i => (i.zero, i.size, i.bytes)) = some (some (.agg #[.string ByteArray.empty, .slice none 0 0]), 2, 40) := by kernel_rfl
theorem mkAttr (n : Nat) (hn : n ≤ 1048576) (W : World) : ∃ C : Array Value, C.size = n * 2 ∧
    (Instr.makeSlice 75 (.int .i64 (n : Int)) (.int .i64 (n : Int))).run Try.prog W = .ok (.slice (some ⟨W.heap.size, 0, none⟩) n n) (W.alloc (.cells C 97)) := by
  obtain ⟨i0, hi, hz0, hz1, hz2⟩ := info_parts Try.infoTAttr
  have := run_make (P := Try.prog) W 75 97 i0 _ Try.underlying75 hi hz0 .i64 .i64 (n : Int) (n : Int) (by omega) (by omega) (by rw [hz2]; omega) (by omega)
  rw [hz1] at this
  refine ⟨madeCells (Value.cells (.agg #[.string ByteArray.empty, .slice none 0 0])) (n * 2), size_madeCells _ _, ?_⟩
  simpa using this
set_option maxRecDepth 100000 in
set_option maxHeartbeats 4000000 in
theorem toAttr_at {S : Bs} (a0 : ByteArray) (a1 : (List ByteArray)) (v1 : Value) (w : World) (h1 : SlAt strE S w a1 v1) (hz : attrE.sz (a0, a1) ≤ 1048576) :
    Calls Try.prog 192 #[.agg #[.string a0, v1]] w fun e w' => ∃ u1, e = .returned (.agg #[.string a0, u1]) ∧ attrE.Own (Fresh w w') w' (a0, a1) [.string a0, u1] ∧ Below w.heap.size w w' := by
  have HE : attrE.sz (a0, a1) = a0.size + ((a1.length + szL strE a1)) := rfl
  rw [HE] at hz
  have C1 : Hid (∀ W : World, Below w.heap.size w W → Calls Try.prog 84 #[v1] W fun e w' => ∃ u, e = .returned u ∧ SlOwn strE (Fresh W w') w' a1 u ∧ Below W.heap.size W w') := Lib.hid (fun W b => toStringS_at v1 a1 W (h1.frame (Same.of_below' b)) (by omega))
  obtain ⟨o1, k1, rfl⟩ := h1.sl
  clear hz HE h1
  go_enter Try.func192, Try.ntmps192
  go_wp2_with fail
  refine calls_by (fun W => Below w.heap.size w W ∧ Blk W w.heap.size [.string a0, .slice o1 a1.length k1] ∧ Blk W (w.heap.size + 1) [.string ⟨#[]⟩, .slice none 0 0] ∧ Blk W (w.heap.size + 1 + 1) [.string a0, .slice none 0 0]) ⟨more' (more' (more' (Below.refl _ _) _) _) _, ((Blk.new _ _ _).alloc _).alloc _, (blk_at _ _ _ (by simp)).alloc _, blk_at _ _ _ (by simp)⟩ ?_
  rintro W0 ⟨b0, t0, r0, s0⟩
  have hn : w.heap.size + 1 + 1 < W0.heap.size := s0.lt
  refine (C1.out W0 b0).mono ?_
  rintro e y1 ⟨u1, rfl, q1, hb⟩
  obtain ⟨p1, j1, rfl⟩ := q1.at.sl
  have T := Lib.hid (t0.below hb); have Rr := Lib.hid (r0.below hb); have U := Lib.hid (s0.below hb); have B := Lib.hid (b0.trans (hb.mono b0.size)); have hs1 := hb.size
  have Q1 := Lib.hid q1
  clear t0 r0 s0 b0 hb q1 C1
  have m0 := T.out.cell 0 rfl
  have c0 := U.out.cell 0 rfl
  have f0 := U.out.soft 0
  have m1 := T.out.cell 1 rfl
  have c1 := U.out.cell 1 rfl
  have f1 := U.out.soft 1
  have TE := (((Rr.out.far (R := w.heap.size + 1 + 1) (j := 1) (by omega) (.slice p1 a1.length j1)).set 0 (.string a0)).set 1 (.slice p1 a1.length j1))
  have d0 := Rr.out.cell 0 rfl
  have g0 := Rr.out.soft 0
  have k100 := TE.cell 0 rfl
  have d1 := Rr.out.cell 1 rfl
  have g1 := Rr.out.soft 1
  have k101 := TE.cell 1 rfl
  clear TE
  go_wp2_with fail
  refine bodyPost_ret (v := .agg #[.string a0, .slice p1 a1.length j1]) (by simp [results, Try.results192, go_sem, k100, k101]) rfl ⟨_, rfl, ?_, ?_⟩
  · exact attr_pack a0 a1 _ (Fresh W0 y1) ⟨(((Q1.out.frame (Same.set _ _ _ (by intro h; have := h.1; omega))).frame (Same.set _ _ _ (by intro h; have := h.1; omega))).frame (Same.set _ _ _ (by intro h; have := h.1; omega))), (fun k z => ⟨by have := z.1; omega, by have := z.2; show _ < (World.heap _).size; simp only [setCell_size]; omega⟩), trivial⟩
  · exact (((B.out.setCell (p := ⟨w.heap.size + 1 + 1, 1, none⟩) (by show w.heap.size ≤ w.heap.size + 1 + 1; omega) _).setCell (p := ⟨w.heap.size + 1, 0, none⟩) (by show w.heap.size ≤ w.heap.size + 1; omega) _).setCell (p := ⟨w.heap.size + 1, 1, none⟩) (by show w.heap.size ≤ w.heap.size + 1; omega) _)
set_option maxRecDepth 100000 in
set_option maxHeartbeats 4000000 in
theorem toAttrS_at {S : Bs} (v : Value) (d : List AttrT) (w : World) (hd : SlAt attrE S w d v) (hz : d.length + szL attrE d ≤ 1048576) :
    Calls Try.prog 151 #[v] w fun e w' => ∃ u, e = .returned u ∧ SlOwn attrE (Fresh w w') w' d u ∧ Below w.heap.size w w' := by
  obtain ⟨ao, cap, rfl⟩ := hd.sl
  have HD := Lib.hid hd; clear hd
  have HL := Lib.hid hz
  have hl : d.length ≤ 1048576 := by omega
  clear hz
  obtain ⟨C, hC, hmk⟩ := mkAttr d.length hl w
  have HC := Lib.hid hC; clear hC
  go_enter Try.func151, Try.ntmps151
  go_wp2
  clear hmk
  go_loopw [4] (fun i wr => ∃ k : Nat, k ≤ d.length ∧ i = .int .i64 k ∧ Build attrE wr w.heap.size d.length (d.take k) ∧ Below w.heap.size w wr) (fun i _ => d.length - (intOf i).toNat)
  case atStart => exact ⟨0, Nat.zero_le _, rfl, Build.new _ _ _ _ HC.out, (Below.refl _ _).alloc (Nat.le_refl _) _⟩
  case round =>
    obtain ⟨k, hk, rfl, hR, hbel⟩ := hrel
    have HR := Lib.hid hR; clear hR
    have hsz := hbel.size
    by_cases hlt : k < d.length
    · obtain ⟨b, off, a0, a1, v1, rfl, _, hb0, hx, ⟨hc0, hc1⟩, s1, _⟩ := attr_row (HD.out.frame (Same.of_below' hbel)) hlt
      have HT : Hid (d.take (k + 1) = d.take k ++ [(a0, a1)]) := Lib.hid (by rw [List.take_succ_eq_append_getElem hlt, hx])
      have HK : Hid ((d.take k).length = k) := Lib.hid (by rw [List.length_take]; omega)
      have HZ : Hid (attrE.sz (a0, a1) ≤ 1048576) := Lib.hid (by have h1 := szL_mem attrE (List.getElem_mem hlt); rw [hx] at h1; have := HL.out; omega)
      clear hx
      have HV1 := Lib.hid s1; clear s1
      obtain ⟨o1, k1, rfl⟩ := HV1.out.sl
      go_wp2_with fail
      refine (toAttr_at a0 a1 _ wr HV1.out HZ.out).mono ?_
      rintro e w2 ⟨u1, rfl, hq, hb2⟩
      have HR2 := Lib.hid (HR.out.below hb2)
      have B2 := Lib.hid (hbel.trans (hb2.mono hsz))
      have HQ := Lib.hid hq
      have HB := Lib.hid hb2
      clear hb2 hq hc0 hc1
      have hsl := attr_sl HQ.out rfl
      obtain ⟨p1, l1, j1, rfl⟩ := hsl
      obtain ⟨x0, c0⟩ := HR2.out.cell (k := k) (u := 0) hlt (by decide)
      have c0 : w2.cell? ⟨w.heap.size, k * 2, none⟩ = some x0 := c0
      have f0 := HR2.out.soft (k * 2)
      obtain ⟨x1, c1⟩ := HR2.out.cell (k := k) (u := 1) hlt (by decide)
      have c1 : w2.cell? ⟨w.heap.size, k * 2 + 1, none⟩ = some x1 := c1
      have f1 := HR2.out.soft (k * 2 + 1)
      go_wp2
      go_roundw
      case rel => exact ⟨k + 1, by omega, by go_num, by rw [HT.out]; exact HR.out.row (o := k * 2) (cs := [.string a0, .slice p1 l1 j1]) (by rw [HK.out]; exact hlt) (by rw [HK.out]; rfl) HB.out HQ.out, ((B2.out.setCell (Nat.le_refl _) _).setCell (Nat.le_refl _) _)⟩
      case measure => simp [intOf]; omega
    · have e : d.take k = d := List.take_of_length_le (by omega)
      rw [e] at HR
      clear e
      go_wp2
      go_ret
      exact ⟨_, rfl, HR.out.own, hbel⟩
end Go.Proofs.Ytlgafmgohinkbaa
/- Copies by the specification: the steps. -/
namespace Go.Proofs.Ytlgafmgohinkbaa
open Go.RowKit
attribute [local go_sem ↓] Go.wp_at_zero Go.wp_at_succ

theorem own_zeroD (w : World) {B g : Nat} (hg : g = w.heap.size) (hB : B ≤ g) : (w.alloc (.cells #[] 157)).ownsRow B 157 2 (.slice (some ⟨g, 0, none⟩) 0 0) 0 (rs []) := by
  subst hg
  exact ⟨rfl, .inr ⟨w.heap.size, 0, #[], rfl, hB, heap_alloc_new w _, by simp, by unfold maxLen; simp, rfl, rfl⟩⟩
set_option maxRecDepth 100000 in
theorem l03Ill_any (c : Int) (w : World) :
    Calls Try.prog 126 #[.int .i64 c] w fun e w' => e = .returned (.agg #[.slice none 0 0, .slice none 0 0, .int .i64 c]) ∧ Below w.heap.size w w' := by
  go_enter Try.func126, Try.ntmps126
  go_wp2
  exact bodyPost_ret (v := .agg #[.slice none 0 0, .slice none 0 0, .int .i64 c]) (by simp [results, Try.results126, go_sem]) rfl ⟨rfl, more' (Below.refl _ _) _⟩

theorem grown_set (w : World) (R j : Nat) (x : Value) : w.grownBy (w.setCell ⟨R, j, none⟩ x) (some R) :=
  ⟨rfl, rfl, rfl, by rw [setCell_size]; exact Nat.le_refl _, fun k hk hne => Below.heap_setCell _ _ _ _ (fun e => hne (by rw [show R = k from e.symm]))⟩
theorem own_cellOut {w : World} {B e z n R j : Nat} {v x : Value} {xs : List Value} (h : w.ownsRow B e z v n xs) (hR : R < B) : (w.setCell ⟨R, j, none⟩ x).ownsRow B e z v n xs := by
  refine h.kept (grown_set w R j x) ?_
  cases hu : v.ownBlock with
  | none => exact .inl rfl
  | some g =>
    right
    intro e
    injection e with e
    have := (h.lt g hu).1
    omega
theorem Grow.cellOut {α : Type} {e : Enc α} {T : TypeId} {B R j : Nat} {w : World} {v x : Value} {l : List α} {xs : List Value} (h : Grow e T B w v l xs) (hR : R < B) : Grow e T B (w.setCell ⟨R, j, none⟩ x) v l xs := by
  obtain ⟨hr, P, h1, h2, h3⟩ := h
  refine ⟨own_cellOut hr hR, P, fun i hi => ⟨fun b hx => ⟨((h1 i hi).1 b hx).1, by rw [setCell_size]; exact ((h1 i hi).1 b hx).2⟩, (h1 i hi).2⟩, h2, fun i hi => ?_⟩
  obtain ⟨cs, q1, q2⟩ := h3 i hi
  exact ⟨cs, q1, e.ownFrame q2 (Same.set _ j x (fun hx => by have := ((h1 i hi).1 R hx).1; omega))⟩
theorem Blk.low {w w' : World} {g N : Nat} {cs : List Value} (h : Blk w g cs) (hb : Below N w w') (hg : g < N) : Blk w' g cs := by
  obtain ⟨T, ht⟩ := h
  exact ⟨T, (hb.block g hg).trans ht⟩
section
variable {ops : Array Oper} {o : Oper} {a : Act} {Q : Exit → Act → World → Prop} {K : Act → World → Prop} {E : Prop} {w3 : World}
/-- append([]string{}, texts...) in a drawn region -/
theorem step_texts (B : Nat) (hgd : o.guard = none) (s x : Operand)
    (ho : o.op = .call { callee := .builtin .append, args := #[s, x], argTypes := #[29, 29] }) (v : Value) (hs : a.eval s = v) (hown : w3.ownsRow B 9 1 v 0 [])
    (ao : Option Addr) (d : List ByteArray) (c : Nat) (hx : a.eval x = .slice ao d.length c) (hd : StrsAt w3 ao d) (hc : ao = none → c = 0) (hlen : d.length ≤ 1000000000) (hB : B ≤ w3.heap.size)
    (h : ∀ v' w', w'.ownsRow B 9 1 v' d.length (d.map Value.string) → w3.grownBy w' v.ownBlock → K (a.put o.dst v') w') :
    if Region.wanted o (yielded ops a.tmps) = true then Oper.wp Try.prog o a w3 K Q else E := by
  have hw : Region.wanted o (yielded ops a.tmps) = true := by simp [Region.wanted, hgd]
  rw [if_pos hw]
  obtain ⟨i0, hi, hz0, hz1, hz2⟩ := info_parts Try.info9
  rcases ao with _ | ad
  · have hd0 : d = [] := by
      rcases hd with h | ⟨b, off, e, _⟩
      · exact h
      · cases e
    subst hd0
    have := hc rfl
    subst this
    have hrun := run_append_owned_none (P := Try.prog) (w := w3) B 29 o.type 9 i0 1 Try.underlying29 hi v 0 [] hown
    unfold Oper.wp execOp
    simp only [ho, resolve, invoke, builtin, Sem.run_bind, Sem.run_pure, Result.andThen_ok, List.map_toArray, List.map_cons, List.map_nil, hs, hx]
    erw [hrun]
    exact h v w3 hown ⟨rfl, rfl, rfl, Nat.le_refl _, fun _ _ _ => rfl⟩
  · have hnews : ∀ j u, (d.map Value.string)[j]? = some u → w3.cell? (ad.add j) = some u := by
      rcases hd with hd | ⟨b, off, e, h2, h3⟩
      · subst hd; intro j u hu; simp at hu
      · cases e
        intro j u hu
        have ea : (⟨b, off, none⟩ : Addr).add j = ⟨b, off + j, none⟩ := by unfold Addr.add; split <;> simp_all
        rw [ea]
        rw [List.getElem?_map] at hu
        by_cases hj : j < d.length
        · rw [List.getElem?_eq_getElem hj] at hu
          cases hu
          exact h3 j hj
        · rw [List.getElem?_eq_none (by omega)] at hu; cases hu
    refine wp_append_own _ s x 29 ho B 9 i0 _ 1 16 Try.underlying29 hi hz0 hz1 hz2 rfl (by decide) v 0 [] hs hown ad d.length c (d.map Value.string) hx (by simp) hnews (by intro u hu; obtain ⟨t, _, rfl⟩ := List.mem_map.1 hu; rfl) ?_ ?_ hB ?_
    · unfold maxLen; omega
    · omega
    · intro v' w' h1 h2 h3
      rw [Nat.zero_add] at h1
      exact h v' w' h1 h2
/-- append(attrs, x) in a drawn region -/
theorem step_attr (B : Nat) (hgd : o.guard = none) (s x : Operand)
    (ho : o.op = .call { callee := .builtin .append, args := #[s, x], argTypes := #[75, 75] }) (v : Value) (n : Nat) (xs : List Value) (hs : a.eval s = v) (hown : w3.ownsRow B 97 2 v n xs)
    (A : ByteArray) (p : Option Addr) (m c : Nat) (hx : a.eval x = .slice (some ⟨w3.heap.size, 0, none⟩) 1 1) (hlen : n ≤ 100000000) (hB : B ≤ w3.heap.size)
    (h : ∀ g cap w', w'.ownsRow B 97 2 (.slice (some ⟨g, 0, none⟩) (n + 1) cap) (n + 1) (xs ++ [.string A, .slice p m c]) → (w3.alloc (.cells #[.string A, .slice p m c] 97)).grownBy w' v.ownBlock → (v.ownBlock = some g ∨ g = w3.heap.size + 1) → K (a.put o.dst (.slice (some ⟨g, 0, none⟩) (n + 1) cap)) w') :
    if Region.wanted o (yielded ops a.tmps) = true then Oper.wp Try.prog o a (w3.alloc (.cells #[.string A, .slice p m c] 97)) K Q else E := by
  obtain ⟨i0, hi, hz0, hz1, hz2⟩ := info_parts Try.infoTAttr
  refine step_append_lies _ hgd s x 75 ho B 97 i0 _ 2 40 Try.underlying75 hi hz0 hz1 hz2 rfl (by decide) v n xs hs (hown.alloc _) ⟨w3.heap.size, 0, none⟩ 1 1 [.string A, .slice p m c] hx rfl (World.news_of_block (cs := #[.string A, .slice p m c]) (t := 97) (fr := (0, 0)) (heap_alloc_new _ _)) ?_ (by omega) ?_ ?_ ?_ (w3.heap.size + 1) (by simp) ?_
  · intro u hu; simp at hu; rcases hu with rfl | rfl <;> rfl
  · unfold maxLen; omega
  · omega
  · simp; omega
  · intro g cap w' h1 h2 h3 _
    exact h g cap w' h1 h2 h3
end
section
variable {ops : Array Oper} {rest : List Oper} {o : Oper} {a : Act} {Q : Exit → Act → World → Prop} {W : World}
/-- append([]Rdn{}, dn...) -/
theorem app_dn0 (N : Nat) (hgd : o.guard = none) (s x : Operand)
    (ho : o.op = .call { callee := .builtin .append, args := #[s, x], argTypes := #[70, 70] }) (hs : a.eval s = .slice (some ⟨N, 0, none⟩) 0 0)
    (ao : Option Addr) (d : RdnL) (c n : Nat) (hn : n = d.length) (hx : a.eval x = .slice ao n c) (hd : DnAt W ao d) (hc : ao = none → c = 0) (hlen : ([] : RdnL).length + d.length ≤ 1000000000) (hN : N = W.heap.size)
    (h : ∀ v' w', w'.ownsRow N 157 2 v' d.length (rs d) → Below W.heap.size W w' → N ≤ w'.heap.size → wpList Try.prog ops Q rest (a.put o.dst v') w') :
    wpList Try.prog ops Q (o :: rest) a (W.alloc (.cells #[] 157)) := by
  subst hN
  have B0 : Below W.heap.size W (W.alloc (.cells #[] 157)) := more' (Below.refl _ _) _
  refine append_dn W.heap.size hgd s x ho _ [] hs (own_zeroD _ rfl (Nat.le_refl _)) ao d c n hn hx (hd.below B0) hc hlen B0.size B0 ?_
  intro v' w' h1 h2
  exact h v' w' h1 h2 h2.size
end
end Go.Proofs.Ytlgafmgohinkbaa
/- l05Copy: what the specification's text returns. -/
namespace Go.Proofs.Ytlgafmgohinkbaa
open Go.RowKit
attribute [local go_sem ↓] Go.wp_at_zero Go.wp_at_succ

section
variable {ops : Array Oper} {rest : List Oper} {o : Oper} {a : Act} {Q : Exit → Act → World → Prop} {W : World}
theorem wpListW {P : Program} {l : List Oper} {w : World} (R : World → Prop) (h : R w) (k : ∀ W, R W → wpList P ops Q l a W) : wpList P ops Q l a w := k w h
/-- append([]string{}, texts...) -/
theorem app_txt0 (N : Nat) (hgd : o.guard = none) (s x : Operand)
    (ho : o.op = .call { callee := .builtin .append, args := #[s, x], argTypes := #[29, 29] }) (hs : a.eval s = .slice (some ⟨N, 0, none⟩) 0 0)
    (ao : Option Addr) (d : List ByteArray) (c n : Nat) (hn : n = d.length) (hx : a.eval x = .slice ao n c) (hd : StrsAt W ao d) (hc : ao = none → c = 0) (hlen : d.length ≤ 100000000) (hN : N = W.heap.size)
    (h : ∀ v' w', SlOwn strE (fun b => N ≤ b ∧ b < w'.heap.size) w' d v' → Below W.heap.size W w' → wpList Try.prog ops Q rest (a.put o.dst v') w') :
    wpList Try.prog ops Q (o :: rest) a (W.alloc (.cells #[] 9)) := by
  subst hN
  have B0 : Below W.heap.size W (W.alloc (.cells #[] 9)) := more' (Below.refl _ _) _
  have O0 : (W.alloc (.cells #[] 9)).ownsRow W.heap.size 9 1 (.slice (some ⟨W.heap.size, 0, none⟩) 0 0) ([] : List ByteArray).length (ss []) := ⟨rfl, .inr ⟨W.heap.size, 0, #[], rfl, Nat.le_refl _, heap_alloc_new W _, by simp, by unfold maxLen; simp, rfl, rfl⟩⟩
  refine append_strs W.heap.size hgd s x ho _ [] hs O0 ao d c n hn hx (hd.below B0) hc (by simp; omega) B0.size B0 ?_
  intro v' w' h1 h2
  exact h v' w' (own_texts h1) h2
end
set_option maxRecDepth 100000 in
set_option maxHeartbeats 4000000 in
theorem l05Copy_any {S : Bs} (a0 : ByteArray) (a1 a2 a3 : List ByteArray) (v1 v2 v3 : Value) (w : World) (h1 : SlAt strE S w a1 v1) (h2 : SlAt strE S w a2 v2) (h3 : SlAt strE S w a3 v3) (hz : classE.sz (a0, a1, a2, a3) ≤ 1048576) :
    Calls Try.prog 106 #[.agg #[.string a0, v1, v2, v3]] w fun e w' => ∃ u1 u2 u3, e = .returned (.agg #[.string a0, u1, u2, u3]) ∧ classE.Own (Fresh w w') w' (a0, a1, a2, a3) [.string a0, u1, u2, u3] ∧ Below w.heap.size w w' := by
  have HE : classE.sz (a0, a1, a2, a3) = a0.size + ((a1.length + szL strE a1) + ((a2.length + szL strE a2) + (a3.length + szL strE a3))) := rfl
  rw [HE] at hz
  obtain ⟨o1, k1, rfl⟩ := h1.sl
  obtain ⟨o2, k2, rfl⟩ := h2.sl
  obtain ⟨o3, k3, rfl⟩ := h3.sl
  have hc1 := h1.cap.2.2; have hc2 := h2.cap.2.2; have hc3 := h3.cap.2.2
  have H1 : Hid (∀ W : World, Below w.heap.size w W → StrsAt W o1 a1) := Lib.hid (fun W b => (strs_of h1).below b)
  have H2 : Hid (∀ W : World, Below w.heap.size w W → StrsAt W o2 a2) := Lib.hid (fun W b => (strs_of h2).below b)
  have H3 : Hid (∀ W : World, Below w.heap.size w W → StrsAt W o3 a3) := Lib.hid (fun W b => (strs_of h3).below b)
  have l1 : a1.length ≤ 100000000 := by omega
  have l2 : a2.length ≤ 100000000 := by omega
  have l3 : a3.length ≤ 100000000 := by omega
  clear h1 h2 h3 hz HE
  have W00 : Hid (∀ (C D : Array Value) (T : TypeId), C = #[.string a0, .slice o1 a1.length k1, .slice o2 a2.length k2, .slice o3 a3.length k3] → D = #[.string ⟨#[]⟩, .slice none 0 0, .slice none 0 0, .slice none 0 0] → Below w.heap.size w ((w.alloc (.cells C T)).alloc (.cells D T)) ∧ Blk ((w.alloc (.cells C T)).alloc (.cells D T)) w.heap.size [.string a0, .slice o1 a1.length k1, .slice o2 a2.length k2, .slice o3 a3.length k3] ∧ Blk ((w.alloc (.cells C T)).alloc (.cells D T)) (w.heap.size + 1) [.string ⟨#[]⟩, .slice none 0 0, .slice none 0 0, .slice none 0 0]) := Lib.hid (fun C D T hC hD => by subst hC hD; exact ⟨more' (more' (Below.refl _ _) _) _, (Blk.new _ _ _).alloc _, blk_at _ _ _ (by simp)⟩)
  go_enter Try.func106, Try.ntmps106
  go_wp2_with (first
    | (at_builtin; refine app_txt0 _ rfl _ _ rfl rfl o3 a3 k3 _ rfl rfl (H3.out _ B2s.out) hc3 l3 (setCell_size _ _ _).symm ?_; intro v3 w3 q3 hb3; obtain ⟨p3, e3, rfl⟩ := q3.at.sl; have Q3 := Lib.hid q3; have B3 := Lib.hid (B2s.out.trans (hb3.mono B2s.out.size)); have T3 := Lib.hid (T2s.out.below hb3); have R3 := Lib.hid (R2s.out.below hb3); have Q13 := Lib.hid (Q12s.out.frame (Same.of_below' hb3)); have Q23 := Lib.hid (Q2s.out.frame (Same.of_below' hb3)); have hR3 : w2.heap.size ≤ w3.heap.size := (by have := hb3.size; rw [setCell_size] at this; exact this); have x3 := T3.out.cell 3 rfl; have f3 := T3.out.soft 3; have U3 := Lib.hid (T3.out.set 3 (.slice p3 a3.length e3)); have V3 := Lib.hid (R3.out.far (R := w.heap.size) (j := 3) (by omega) (.slice p3 a3.length e3)); have u0 := U3.out.cell 0 rfl; have u1 := U3.out.cell 1 rfl; have u2 := U3.out.cell 2 rfl; have u3 := U3.out.cell 3 rfl; have z0 := V3.out.cell 0 rfl; have z1 := V3.out.cell 1 rfl; have z2 := V3.out.cell 2 rfl; have z3 := V3.out.cell 3 rfl; have s0 := V3.out.soft 0; have s1 := V3.out.soft 1; have s2 := V3.out.soft 2; have s3 := V3.out.soft 3; have TE := (((V3.out.set 0 (.string a0)).set 1 (.slice p1 a1.length e1)).set 2 (.slice p2 a2.length e2)).set 3 (.slice p3 a3.length e3); have j0 := TE.cell 0 rfl; have j1 := TE.cell 1 rfl; have j2 := TE.cell 2 rfl; have j3 := TE.cell 3 rfl; clear TE q3 hb3 y3 x2 f2 T2s R2s Q12s Q2s B2s T2 R2 Q2 Q12 B2)
    | (at_builtin; refine app_txt0 _ rfl _ _ rfl rfl o2 a2 k2 _ rfl rfl (H2.out _ B1s.out) hc2 l2 (setCell_size _ _ _).symm ?_; intro v2 w2 q2 hb2; obtain ⟨p2, e2, rfl⟩ := q2.at.sl; have Q2 := Lib.hid q2; have B2 := Lib.hid (B1s.out.trans (hb2.mono B1s.out.size)); have T2 := Lib.hid (T1s.out.below hb2); have R2 := Lib.hid (R1s.out.below hb2); have Q12 := Lib.hid (Q1s.out.frame (Same.of_below' hb2)); have x2 := T2.out.cell 2 rfl; have f2 := T2.out.soft 2; have hR2 : w1.heap.size ≤ w2.heap.size := (by have := hb2.size; rw [setCell_size] at this; exact this); have B2s := Lib.hid (B2.out.setCell (p := ⟨w.heap.size, 2, none⟩) (Nat.le_refl _) (.slice p2 a2.length e2)); have T2s := Lib.hid (T2.out.set 2 (.slice p2 a2.length e2)); have R2s := Lib.hid (R2.out.far (R := w.heap.size) (j := 2) (by omega) (.slice p2 a2.length e2)); have Q12s := Lib.hid (Q12.out.frame (Same.set w2 (g := w.heap.size) 2 (.slice p2 a2.length e2) (by intro h; have := h.1; omega))); have Q2s := Lib.hid (Q2.out.frame (Same.set w2 (g := w.heap.size) 2 (.slice p2 a2.length e2) (by intro h; have := h.1; omega))); have y3 := (T2s.out.alloc (.cells #[] 9)).cell 3 rfl; clear q2 hb2 y2 x1 f1 T1s R1s Q1s B1s T1 R1 Q1 B1)
    | (at_builtin; obtain ⟨b0, t0, r0⟩ := W00.out _ _ 63 rfl rfl; refine app_txt0 _ rfl _ _ rfl rfl o1 a1 k1 _ rfl rfl (H1.out _ b0) hc1 l1 (by simp) ?_; intro v1 w1 q1 hb1; obtain ⟨p1, e1, rfl⟩ := q1.at.sl; have Q1 := Lib.hid q1; have B1 := Lib.hid (b0.trans (hb1.mono b0.size)); have T1 := Lib.hid (t0.below hb1); have R1 := Lib.hid (r0.below hb1); have x1 := T1.out.cell 1 rfl; have f1 := T1.out.soft 1; have hR1 : w.heap.size + 1 < w1.heap.size := R1.out.lt; have B1s := Lib.hid (B1.out.setCell (p := ⟨w.heap.size, 1, none⟩) (Nat.le_refl _) (.slice p1 a1.length e1)); have T1s := Lib.hid (T1.out.set 1 (.slice p1 a1.length e1)); have R1s := Lib.hid (R1.out.far (R := w.heap.size) (j := 1) (by omega) (.slice p1 a1.length e1)); have Q1s := Lib.hid (Q1.out.frame (Same.set w1 (g := w.heap.size) 1 (.slice p1 a1.length e1) (by intro h; have := h.1; omega))); have y2 := (T1s.out.alloc (.cells #[] 9)).cell 2 rfl; clear q1 b0 t0 r0 hb1 W00)
    | (fail "none"))

  refine bodyPost_ret (v := .agg #[.string a0, .slice p1 a1.length e1, .slice p2 a2.length e2, .slice p3 a3.length e3]) (by simp [results, Try.results106, go_sem, j0, j1, j2, j3]) rfl ⟨_, _, _, rfl, class_pack a0 a1 a2 a3 _ _ _ (fun b => w.heap.size + 1 + 1 ≤ b ∧ b < w1.heap.size) (fun b => w1.heap.size ≤ b ∧ b < w2.heap.size) (fun b => w2.heap.size ≤ b ∧ b < w3.heap.size) ⟨?_, ?_, ?_, ?_, ?_, ?_, ?_, ?_, ?_, trivial⟩, ?_⟩
  · exact (((((Q13.out.frame (Same.set _ (g := w.heap.size) 3 (.slice p3 a3.length e3) (by intro h; have := h.1; omega))).frame (Same.set _ (g := w.heap.size + 1) 0 (.string a0) (by intro h; have := h.1; omega))).frame (Same.set _ (g := w.heap.size + 1) 1 (.slice p1 a1.length e1) (by intro h; have := h.1; omega))).frame (Same.set _ (g := w.heap.size + 1) 2 (.slice p2 a2.length e2) (by intro h; have := h.1; omega))).frame (Same.set _ (g := w.heap.size + 1) 3 (.slice p3 a3.length e3) (by intro h; have := h.1; omega)))
  · exact fun b h => ⟨by have := h.1; omega, by have := h.2; show _ < (World.heap _).size; simp only [setCell_size]; omega⟩
  · exact (((((Q23.out.frame (Same.set _ (g := w.heap.size) 3 (.slice p3 a3.length e3) (by intro h; have := h.1; omega))).frame (Same.set _ (g := w.heap.size + 1) 0 (.string a0) (by intro h; have := h.1; omega))).frame (Same.set _ (g := w.heap.size + 1) 1 (.slice p1 a1.length e1) (by intro h; have := h.1; omega))).frame (Same.set _ (g := w.heap.size + 1) 2 (.slice p2 a2.length e2) (by intro h; have := h.1; omega))).frame (Same.set _ (g := w.heap.size + 1) 3 (.slice p3 a3.length e3) (by intro h; have := h.1; omega)))
  · exact fun b h => ⟨by have := h.1; omega, by have := h.2; show _ < (World.heap _).size; simp only [setCell_size]; omega⟩
  · exact (((((Q3.out.frame (Same.set _ (g := w.heap.size) 3 (.slice p3 a3.length e3) (by intro h; have := h.1; omega))).frame (Same.set _ (g := w.heap.size + 1) 0 (.string a0) (by intro h; have := h.1; omega))).frame (Same.set _ (g := w.heap.size + 1) 1 (.slice p1 a1.length e1) (by intro h; have := h.1; omega))).frame (Same.set _ (g := w.heap.size + 1) 2 (.slice p2 a2.length e2) (by intro h; have := h.1; omega))).frame (Same.set _ (g := w.heap.size + 1) 3 (.slice p3 a3.length e3) (by intro h; have := h.1; omega)))
  · exact fun b h => ⟨by have := h.1; omega, by have := h.2; show _ < (World.heap _).size; simp only [setCell_size]; omega⟩
  · exact fun b h1 h2 => by have := h1.2; have := h2.1; omega
  · exact fun b h1 h2 => by have := h1.2; have := h2.1; omega
  · exact fun b h1 h2 => by have := h1.2; have := h2.1; omega
  · exact ((((B3.out.setCell (p := ⟨w.heap.size, 3, none⟩) (Nat.le_refl _) (.slice p3 a3.length e3)).setCell (p := ⟨w.heap.size + 1, 0, none⟩) (by show w.heap.size ≤ w.heap.size + 1; omega) (.string a0)).setCell (p := ⟨w.heap.size + 1, 1, none⟩) (by show w.heap.size ≤ w.heap.size + 1; omega) (.slice p1 a1.length e1)).setCell (p := ⟨w.heap.size + 1, 2, none⟩) (by show w.heap.size ≤ w.heap.size + 1; omega) (.slice p2 a2.length e2)).setCell (p := ⟨w.heap.size + 1, 3, none⟩) (by show w.heap.size ≤ w.heap.size + 1; omega) (.slice p3 a3.length e3)
end Go.Proofs.Ytlgafmgohinkbaa
/- ClassOf: what the specification returns. -/
namespace Go.Proofs.Ytlgafmgohinkbaa
open Go.RowKit
attribute [local go_sem ↓] Go.wp_at_zero Go.wp_at_succ

def ofI (l : List ClassV) (nm : ByteArray) : Int := match atC l nm with | some i => (i : Int) | none => -1
theorem bytes_eq (x y : ByteArray) : (x.toList == y.toList) = true ↔ x = y := by
  rw [beq_iff_eq, ByteArray.toList_eq, ByteArray.toList_eq]
  exact ⟨fun h => ByteArray.ext (Array.toList_inj.mp h), fun h => by rw [h]⟩
theorem name_beq (a b : ByteArray) : (a.toList == b.toList) = decide (a = b) := by
  rw [Bool.eq_iff_iff, decide_eq_true_eq]; exact bytes_eq a b
theorem atC_hit {l : List ClassV} {nm : ByteArray} {k : Nat} (hk : k < l.length) (h : l[k].nm = nm) (h' : ∀ j (hj : j < l.length), j < k → l[j].nm ≠ nm) : ofI l nm = (k : Int) := by
  have : atC l nm = some k := by
    unfold atC
    rw [List.findIdx?_eq_some_iff_getElem]
    exact ⟨hk, by simpa using h, fun j hj => by simpa using h' j (by omega) hj⟩
  unfold ofI; rw [this]
theorem atC_miss {l : List ClassV} {nm : ByteArray} (h : ∀ j (hj : j < l.length), l[j].nm ≠ nm) : ofI l nm = -1 := by
  have : atC l nm = none := by
    unfold atC
    rw [List.findIdx?_eq_none_iff]
    intro c hc
    obtain ⟨i, hi, rfl⟩ := List.getElem_of_mem hc
    simpa using h i hi
  unfold ofI; rw [this]
set_option maxRecDepth 100000 in
set_option maxHeartbeats 1000000 in
theorem l05Of_any (ao : Option Addr) (l : List ClassV) (cap : Nat) (nm : ByteArray) (w : World) (hd : ClassesAt w ao l) (hl : l.length ≤ 1048576) :
    Calls Try.prog 105 #[.slice ao l.length cap, .string nm] w fun e w' => e = .returned (.int .i64 (ofI l nm)) ∧ w' = w := by
  have HD := Lib.hid hd; clear hd
  go_enter Try.func105, Try.ntmps105
  go_wp2
  go_loopw [5] (fun i wr => ∃ k : Nat, k ≤ l.length ∧ i = .int .i64 k ∧ (∀ j (hj : j < l.length), j < k → l[j].nm ≠ nm) ∧ wr = w) (fun i _ => l.length - (intOf i).toNat)
  case atStart => exact ⟨0, Nat.zero_le _, rfl, fun j _ h => absurd h (Nat.not_lt_zero _), by trivial⟩
  case round =>
    obtain ⟨k, hk, rfl, ha, rfl⟩ := hrel
    have Ha := Lib.hid ha; clear ha
    by_cases hlt : k < l.length
    · obtain ⟨b, off, v1, v2, v3, rfl, hb0, hc⟩ := HD.out.at hlt
      obtain ⟨c0, c1, c2, c3, s1, s2, s3⟩ := hc
      have HY : Hid (l[k].nm = nm → ofI l nm = (k : Int)) := Lib.hid (fun h => atC_hit hlt h Ha.out)
      have HN : Hid (l[k].nm ≠ nm → ∀ j (hj : j < l.length), j < k + 1 → l[j].nm ≠ nm) := Lib.hid (fun hn j h hj => by
        by_cases e : j = k
        · subst e; exact hn
        · exact Ha.out j h (by omega))
      clear c1 c2 c3 s1 s2 s3
      generalize l[k].nm = A at *
      have hbe := name_beq A nm
      by_cases hq : A = nm
      · rw [decide_eq_true hq] at hbe
        have HY' := Lib.hid (HY.out hq)
        clear hq
        go_wp2
        go_ret
        exact ⟨ret_int' (by rw [HY'.out]), by trivial⟩
      · rw [decide_eq_false hq] at hbe
        have HN' := Lib.hid (HN.out hq)
        clear hq
        go_wp2
        go_roundw
        case rel => exact ⟨k + 1, by omega, by go_num, HN'.out, by trivial⟩
        case measure => simp [intOf]; omega
    · have HN' : Hid (ofI l nm = -1) := Lib.hid (atC_miss fun j h => Ha.out j h (by omega))
      go_wp2
      go_ret
      exact ⟨ret_int' (by rw [HN'.out]), by trivial⟩
theorem cls_short {l : List ClassV} (h : schemaB l = true) {a : ClassV} (ha : a ∈ l) : a.nm.size ≤ 20 := by
  unfold schemaB at h
  simp only [Bool.and_eq_true, List.all_eq_true] at h
  have := h.2.1 a ha
  unfold classB nmL at this
  simp only [Bool.and_eq_true, decide_eq_true_eq] at this
  exact this.1.1.1.2
theorem ofI_neg {l : List ClassV} {nm : ByteArray} (h : ofI l nm < 0) : atC l nm = none := by
  unfold ofI at h
  cases ha : atC l nm with
  | none => rfl
  | some i => rw [ha] at h; simp only at h; omega
theorem ofI_pos {l : List ClassV} {nm : ByteArray} (h : ¬ ofI l nm < 0) : ∃ k : Nat, ofI l nm = (k : Int) ∧ ∃ hk : k < l.length, clsAt l nm = l[k] := by
  unfold ofI at h ⊢
  cases ha : atC l nm with
  | none => rw [ha] at h; simp only at h; omega
  | some i =>
    obtain ⟨hi, _, h2, _⟩ := atC_some ha
    exact ⟨i, rfl, hi, h2⟩
theorem clsN_zero {d : List ClassT} {nm : ByteArray} (h : schemaB (d.map toCV) = false ∨ atC (d.map toCV) nm = none) : clsN d nm = zeroC := by
  unfold clsN
  split
  · rename_i hs
    rcases h with h | h
    · rw [h] at hs; cases hs
    · exact (atC_none h).2
  · rfl
theorem clsN_long {d : List ClassT} {nm : ByteArray} (h : 20 < nm.size) : clsN d nm = zeroC := by
  cases hs : schemaB (d.map toCV) with
  | false => exact clsN_zero (.inl hs)
  | true =>
    refine clsN_zero (.inr ?_)
    cases ha : atC (d.map toCV) nm with
    | none => rfl
    | some i =>
      obtain ⟨hi, h1, _, _⟩ := atC_some ha
      have := cls_short hs (List.getElem_mem hi)
      rw [h1] at this
      omega
theorem schemaB_sixN {l : List ClassV} (h : 6 < l.length) : schemaB l = false := by unfold schemaB; rw [decide_eq_false (by omega)]; rfl
set_option maxRecDepth 100000 in
set_option maxHeartbeats 2000000 in
theorem SpecClassOf_any {S : Bs} (v : Value) (d : List ClassT) (nm : ByteArray) (w : World) (hd : SlAt classE S w d v) (hz : d.length + szL classE d ≤ 1048576) (hn : nm.size ≤ maxLen) :
    Calls Try.prog 43 #[v, .string nm] w fun e w' => (∃ u1 u2 u3, e = .returned (.agg #[.string (toCT (clsN d nm)).1, u1, u2, u3]) ∧ classE.Own (Fresh w w') w' (toCT (clsN d nm)) [.string (toCT (clsN d nm)).1, u1, u2, u3]) ∧ Below w.heap.size w w' := by
  obtain ⟨ao, ca, rfl⟩ := hd.sl
  have HD := Lib.hid hd
  have hl : d.length ≤ 1048576 := by omega
  have CS : Hid (∀ W : World, Below w.heap.size w W → Calls Try.prog 99 #[.slice ao d.length ca] W fun e w' => e = .returned (.bool (schemaB (d.map toCV))) ∧ Below W.heap.size W w') := Lib.hid (fun W b => by
    have h1 := SpecSchemaRight_any ao (d.map toCV) ca W ((classes_of hd).below b) (fits_classes hz)
    rw [List.length_map] at h1
    exact h1)
  have CO : Hid (∀ W : World, Below w.heap.size w W → Calls Try.prog 105 #[.slice ao d.length ca, .string nm] W fun e w' => e = .returned (.int .i64 (ofI (d.map toCV) nm)) ∧ w' = W) := Lib.hid (fun W b => by
    have h1 := l05Of_any ao (d.map toCV) ca nm W ((classes_of hd).below b) (by rw [List.length_map]; exact hl)
    rw [List.length_map] at h1
    exact h1)
  have HZ := Lib.hid (Nat.le_trans (clsN_sz d nm) (show szL classE d ≤ 1048576 by omega))
  have HF : Hid (schemaB (d.map toCV) = false → clsN d nm = zeroC) := Lib.hid (fun h => clsN_zero (.inl h))
  have H4 : Hid (400 < d.length → clsN d nm = zeroC) := Lib.hid (fun h => clsN_zero (.inl (schemaB_sixN (by rw [List.length_map]; omega))))
  have H8 : Hid (8000 < nm.size → clsN d nm = zeroC) := Lib.hid (fun h => clsN_long (by omega))
  have HN : Hid (ofI (d.map toCV) nm < 0 → clsN d nm = zeroC) := Lib.hid (fun h => clsN_zero (.inr (ofI_neg h)))
  have HP : Hid (¬ ofI (d.map toCV) nm < 0 → ∃ k : Nat, ofI (d.map toCV) nm = (k : Int) ∧ ∃ hk : k < d.length, (schemaB (d.map toCV) = true → clsN d nm = toCV d[k])) := Lib.hid (fun h => by
    obtain ⟨k, e, hk, hc⟩ := ofI_pos h
    refine ⟨k, e, by simpa using hk, fun hs => ?_⟩
    unfold clsN
    rw [if_pos hs, hc, List.getElem_map])
  clear hd hz
  generalize clsN d nm = R at *
  generalize schemaB (d.map toCV) = r at *
  generalize ofI (d.map toCV) nm = q at *
  unfold maxLen at hn
  go_enter Try.func43, Try.ntmps43
  go_wp2_with fail
  refine calls_by (fun W => Below w.heap.size w W ∧ Blk W w.heap.size [.string ⟨#[]⟩, .slice none 0 0, .slice none 0 0, .slice none 0 0]) ⟨more' (Below.refl _ _) _, Blk.new _ _ _⟩ ?_
  rintro W1 ⟨b1, r1⟩
  refine (CO.out W1 b1).mono ?_
  rintro e w2 ⟨rfl, rfl⟩
  have b2 := b1; have R2 := Lib.hid r1
  clear r1 b1
  have x0 := R2.out.cell 0 rfl; have x1 := R2.out.cell 1 rfl; have x2 := R2.out.cell 2 rfl; have x3 := R2.out.cell 3 rfl
  have f0 := R2.out.soft 0; have f1 := R2.out.soft 1; have f2 := R2.out.soft 2; have f3 := R2.out.soft 3
  have TE := (((R2.out.set 0 (.string ⟨#[]⟩)).set 1 (.slice none 0 0)).set 2 (.slice none 0 0)).set 3 (.slice none 0 0)
  have j0 := TE.cell 0 rfl; have j1 := TE.cell 1 rfl; have j2 := TE.cell 2 rfl; have j3 := TE.cell 3 rfl
  clear TE
  by_cases h4 : 400 < d.length
  · have g4 : 400 < (d.length : Int) := by omega
    have HE := Lib.hid (H4.out h4)
    go_wp2_with fail
    refine bodyPost_ret (v := .agg #[.string ⟨#[]⟩, .slice none 0 0, .slice none 0 0, .slice none 0 0]) (by simp [results, Try.results43, go_sem, j0, j1, j2, j3]) rfl ?_
    rw [HE.out]
    exact ⟨⟨_, _, _, rfl, class_pack ⟨#[]⟩ [] [] [] _ _ _ Nil Nil Nil ⟨own_nilS _ _ _, fun _ h => h.elim, own_nilS _ _ _, fun _ h => h.elim, own_nilS _ _ _, fun _ h => h.elim, fun _ h => h.elim, fun _ h => h.elim, fun _ h => h.elim, trivial⟩⟩, (((b2.setCell (p := ⟨w.heap.size, 0, none⟩) (Nat.le_refl _) _).setCell (p := ⟨w.heap.size, 1, none⟩) (Nat.le_refl _) _).setCell (p := ⟨w.heap.size, 2, none⟩) (Nat.le_refl _) _).setCell (p := ⟨w.heap.size, 3, none⟩) (Nat.le_refl _) _⟩
  have g4 : ¬ 400 < (d.length : Int) := by omega
  by_cases h8 : 8000 < nm.size
  · have g8 : 8000 < (nm.size : Int) := by omega
    have HE := Lib.hid (H8.out h8)
    go_wp2_with fail
    refine bodyPost_ret (v := .agg #[.string ⟨#[]⟩, .slice none 0 0, .slice none 0 0, .slice none 0 0]) (by simp [results, Try.results43, go_sem, j0, j1, j2, j3]) rfl ?_
    rw [HE.out]
    exact ⟨⟨_, _, _, rfl, class_pack ⟨#[]⟩ [] [] [] _ _ _ Nil Nil Nil ⟨own_nilS _ _ _, fun _ h => h.elim, own_nilS _ _ _, fun _ h => h.elim, own_nilS _ _ _, fun _ h => h.elim, fun _ h => h.elim, fun _ h => h.elim, fun _ h => h.elim, trivial⟩⟩, (((b2.setCell (p := ⟨w.heap.size, 0, none⟩) (Nat.le_refl _) _).setCell (p := ⟨w.heap.size, 1, none⟩) (Nat.le_refl _) _).setCell (p := ⟨w.heap.size, 2, none⟩) (Nat.le_refl _) _).setCell (p := ⟨w.heap.size, 3, none⟩) (Nat.le_refl _) _⟩
  have g8 : ¬ 8000 < (nm.size : Int) := by omega
  by_cases hk0 : q < 0
  · have HE := Lib.hid (HN.out hk0)
    go_wp2_with fail
    refine bodyPost_ret (v := .agg #[.string ⟨#[]⟩, .slice none 0 0, .slice none 0 0, .slice none 0 0]) (by simp [results, Try.results43, go_sem, j0, j1, j2, j3]) rfl ?_
    rw [HE.out]
    exact ⟨⟨_, _, _, rfl, class_pack ⟨#[]⟩ [] [] [] _ _ _ Nil Nil Nil ⟨own_nilS _ _ _, fun _ h => h.elim, own_nilS _ _ _, fun _ h => h.elim, own_nilS _ _ _, fun _ h => h.elim, fun _ h => h.elim, fun _ h => h.elim, fun _ h => h.elim, trivial⟩⟩, (((b2.setCell (p := ⟨w.heap.size, 0, none⟩) (Nat.le_refl _) _).setCell (p := ⟨w.heap.size, 1, none⟩) (Nat.le_refl _) _).setCell (p := ⟨w.heap.size, 2, none⟩) (Nat.le_refl _) _).setCell (p := ⟨w.heap.size, 3, none⟩) (Nat.le_refl _) _⟩
  obtain ⟨k, rfl, hkl, hck⟩ := HP.out (by omega)
  have HCk := Lib.hid hck
  have b20 := b2
  clear hck j0 j1 j2 j3 x0 x1 x2 x3 f0 f1 f2 f3 HP H4 H8 HN CO
  go_wp2_with fail
  refine calls_by (fun W => Below w2.heap.size w2 W) (by first | exact Below.refl _ _ | exact more' (Below.refl _ _) _) ?_
  intro W3 b3
  refine (CS.out W3 (b20.trans (b3.mono b20.size))).mono ?_
  rintro e w4 ⟨rfl, hb⟩
  have b2 := b20.trans ((b3.trans (hb.mono b3.size)).mono b20.size); have R4 := Lib.hid (R2.out.below (b3.trans (hb.mono b3.size)))
  clear hb b20
  have x0 := R4.out.cell 0 rfl; have x1 := R4.out.cell 1 rfl; have x2 := R4.out.cell 2 rfl; have x3 := R4.out.cell 3 rfl
  have f0 := R4.out.soft 0; have f1 := R4.out.soft 1; have f2 := R4.out.soft 2; have f3 := R4.out.soft 3
  cases r
  · have HE := Lib.hid (HF.out (by rfl))
    have TE := (((R4.out.set 0 (.string ⟨#[]⟩)).set 1 (.slice none 0 0)).set 2 (.slice none 0 0)).set 3 (.slice none 0 0)
    have j0 := TE.cell 0 rfl; have j1 := TE.cell 1 rfl; have j2 := TE.cell 2 rfl; have j3 := TE.cell 3 rfl
    clear TE
    go_wp2_with fail
    refine bodyPost_ret (v := .agg #[.string ⟨#[]⟩, .slice none 0 0, .slice none 0 0, .slice none 0 0]) (by simp [results, Try.results43, go_sem, j0, j1, j2, j3]) rfl ?_
    rw [HE.out]
    exact ⟨⟨_, _, _, rfl, class_pack ⟨#[]⟩ [] [] [] _ _ _ Nil Nil Nil ⟨own_nilS _ _ _, fun _ h => h.elim, own_nilS _ _ _, fun _ h => h.elim, own_nilS _ _ _, fun _ h => h.elim, fun _ h => h.elim, fun _ h => h.elim, fun _ h => h.elim, trivial⟩⟩, (((b2.setCell (p := ⟨w.heap.size, 0, none⟩) (Nat.le_refl _) _).setCell (p := ⟨w.heap.size, 1, none⟩) (Nat.le_refl _) _).setCell (p := ⟨w.heap.size, 2, none⟩) (Nat.le_refl _) _).setCell (p := ⟨w.heap.size, 3, none⟩) (Nat.le_refl _) _⟩
  · have HE := Lib.hid (HCk.out (by rfl))
    obtain ⟨b, off, a0, a1, a2, a3, v1, v2, v3, rfl, _, hb0, hx, ⟨c0, c1, c2, c3⟩, s1, s2, s3, _⟩ := class_row (HD.out.frame (Same.of_below' b2)) hkl
    have HE2 : Hid (R = ⟨a0, a1, a2, a3⟩) := Lib.hid (by rw [HE.out, hx]; rfl)
    clear HE hx HCk
    have CT : Hid (∀ W : World, Below w4.heap.size w4 W → Calls Try.prog 106 #[.agg #[.string a0, v1, v2, v3]] W fun e w' => ∃ u1 u2 u3, e = .returned (.agg #[.string a0, u1, u2, u3]) ∧ classE.Own (Fresh W w') w' (a0, a1, a2, a3) [.string a0, u1, u2, u3] ∧ Below W.heap.size W w') := Lib.hid (fun W b => by
      have hz := HZ.out
      rw [HE2.out] at hz
      exact l05Copy_any a0 a1 a2 a3 v1 v2 v3 W (s1.frame (Same.of_below' b)) (s2.frame (Same.of_below' b)) (s3.frame (Same.of_below' b)) hz)
    obtain ⟨o1, k1, rfl⟩ := s1.sl
    obtain ⟨o2, k2, rfl⟩ := s2.sl
    obtain ⟨o3, k3, rfl⟩ := s3.sl
    clear s1 s2 s3 HD HZ
    have hl2 : w.heap.size < w4.heap.size := R4.out.lt
    have g1 : (0 : Int) ≤ (k : Int) := by omega
    have g2 : (k : Int) < (d.length : Int) := by omega
    clear x0 x1 x2 x3 f0 f1 f2 f3
    go_wp2_with fail
    refine (CT.out w4 (Below.refl _ _)).mono ?_
    rintro e w5 ⟨u1, u2, u3, rfl, q, hb⟩
    obtain ⟨⟨p1, n1, k1, rfl⟩, ⟨p2, n2, k2, rfl⟩, p3, n3, k3, rfl⟩ := class_sl q rfl
    have B5 := b2.trans (hb.mono b2.size)
    have R5 := Lib.hid (R4.out.below hb)
    have Q := Lib.hid q
    clear q hb
    have x0 := R5.out.cell 0 rfl; have x1 := R5.out.cell 1 rfl; have x2 := R5.out.cell 2 rfl; have x3 := R5.out.cell 3 rfl
    have f0 := R5.out.soft 0; have f1 := R5.out.soft 1; have f2 := R5.out.soft 2; have f3 := R5.out.soft 3
    have TE := (((R5.out.set 0 (.string a0)).set 1 (.slice p1 n1 k1)).set 2 (.slice p2 n2 k2)).set 3 (.slice p3 n3 k3)
    have j0 := TE.cell 0 rfl; have j1 := TE.cell 1 rfl; have j2 := TE.cell 2 rfl; have j3 := TE.cell 3 rfl
    clear TE
    go_wp2
    refine bodyPost_ret (v := .agg #[.string a0, .slice p1 n1 k1, .slice p2 n2 k2, .slice p3 n3 k3]) (by simp [results, Try.results43, go_sem, j0, j1, j2, j3]) rfl ?_
    rw [HE2.out]
    refine ⟨⟨_, _, _, rfl, ?_⟩, (((B5.setCell (p := ⟨w.heap.size, 0, none⟩) (Nat.le_refl _) _).setCell (p := ⟨w.heap.size, 1, none⟩) (Nat.le_refl _) _).setCell (p := ⟨w.heap.size, 2, none⟩) (Nat.le_refl _) _).setCell (p := ⟨w.heap.size, 3, none⟩) (Nat.le_refl _) _⟩
    exact Enc.ownWide _ (Enc.ownFrame _ (Enc.ownFrame _ (Enc.ownFrame _ (Enc.ownFrame _ Q.out (Same.set _ (g := w.heap.size) 0 (.string a0) (by intro h; have := h.1; omega))) (Same.set _ (g := w.heap.size) 1 (.slice p1 n1 k1) (by intro h; have := h.1; omega))) (Same.set _ (g := w.heap.size) 2 (.slice p2 n2 k2) (by intro h; have := h.1; omega))) (Same.set _ (g := w.heap.size) 3 (.slice p3 n3 k3) (by intro h; have := h.1; omega))) (fun b h => ⟨by have := h.1; omega, by have := h.2; show _ < (World.heap _).size; simp only [setCell_size]; omega⟩)
end Go.Proofs.Ytlgafmgohinkbaa
/- Laws whose result lies in memory: what a walk of them needs. -/
namespace Go.Proofs.Ytlgafmgohinkbaa
open Go Go.RowKit

/-- what holds behind a statement, however its order was drawn -/
def OnlyNormal (F : Act → World → Prop) (e : Exit) (a : Act) (w : World) : Prop := match e with | .normal => F a w | _ => False
theorem region_join (F : Act → Act → World → Prop) {P : Program} {c : Code} {Q : Exit → Act → World → Prop} {a : Act} {w : World} (h : c.wp P (OnlyNormal (F a)) a w) (hq : ∀ a' w', F a a' w' → Q .normal a' w') : c.wp P Q a w :=
  Code.wp_mono (fun e a' w' he => by cases e <;> first | exact hq _ _ he | exact he.elim) h
theorem Blk.turn {S : Bs} {w w' : World} {g : Nat} {cs : List Value} (h : Blk w g cs) (ht : Turn S w w') (hg : ¬ S g) : Blk w' g cs := by
  have hl := h.lt
  obtain ⟨T, e⟩ := h
  exact ⟨T, (ht.block g hl hg).trans e⟩
theorem cnt_fit {α : Type} {e : Enc α} (l : List α) (hc : e.c ≤ 50) (h : l.length + szL e l ≤ 1048576) : cntL e l ≤ 52428800 := by
  have h1 := cntL_le e l
  have h2 : e.c * (l.length + szL e l) ≤ 50 * 1048576 := Nat.mul_le_mul hc h
  omega
end Go.Proofs.Ytlgafmgohinkbaa
/- An owned class, taken apart. -/
namespace Go.Proofs.Ytlgafmgohinkbaa
open Go Go.RowKit
theorem class_ownp {S : Bs} {w : World} {a0 : ByteArray} {a1 a2 a3 : List ByteArray} {v1 v2 v3 : Value} (h : classE.Own S w (a0, a1, a2, a3) [.string a0, v1, v2, v3]) :
    ∃ S1 S2 S3 : Bs, SlOwn strE S1 w a1 v1 ∧ (∀ k, S1 k → S k) ∧ SlOwn strE S2 w a2 v2 ∧ (∀ k, S2 k → S k) ∧ SlOwn strE S3 w a3 v3 ∧ (∀ k, S3 k → S k) ∧ (∀ k, S1 k → ¬ S2 k) ∧ (∀ k, S1 k → ¬ S3 k) ∧ ∀ k, S2 k → ¬ S3 k := by
  obtain ⟨b0, b1, b2, b3, y1, y2, y3, S1, S2, S3, e1, e2, q1, i1, q2, i2, q3, i3, d12, d13, d23, _⟩ := class_own h
  simp only [Prod.mk.injEq] at e1
  obtain ⟨rfl, rfl, rfl, rfl⟩ := e1
  simp only [List.cons.injEq, and_true, true_and] at e2
  obtain ⟨rfl, rfl, rfl⟩ := e2
  exact ⟨S1, S2, S3, q1, i1, q2, i2, q3, i3, d12, d13, d23⟩
end Go.Proofs.Ytlgafmgohinkbaa
/- The helpers of the laws: sizes. -/
namespace Go.Proofs.Ytlgafmgohinkbaa
open Go.RowKit
attribute [local go_sem ↓] Go.wp_at_zero Go.wp_at_succ

set_option maxRecDepth 100000 in
set_option maxHeartbeats 4000000 in
theorem szStringS_at {S : Bs} (v : Value) (d : List ByteArray) (left : Int) (w : World) (hd : SlAt strE S w d v) (hf : (slE strE).long d) (h0 : 0 ≤ left) (h1 : left ≤ 1048576) :
    Calls Try.prog 81 #[v, .int .i64 left] w fun e w' => e = .returned (.int .i64 (leftR (d.length + szL strE d) left)) ∧ Below w.heap.size w w' := by
  obtain ⟨ao, cap, rfl⟩ := hd.sl
  have hl : d.length ≤ 9223372036854775807 := hf.1
  have HD := Lib.hid hd; have HF := Lib.hid hf; clear hd hf
  by_cases g : (d.length : Int) ≤ left
  · have c1 : ¬ left - (d.length : Int) < 0 := by omega
    go_enter Try.func81, Try.ntmps81
    go_wp2
    go_loopw [1, 5] (fun t i wr => ∃ k : Nat, k ≤ d.length ∧ i = .int .i64 k ∧ ((d.length + szL strE (d.take k) : Nat) : Int) ≤ left ∧ t = .int .i64 (left - (d.length + szL strE (d.take k) : Nat)) ∧ Below w.heap.size w wr) (fun _ i _ => d.length - (intOf i).toNat)
    case atStart => exact ⟨0, Nat.zero_le _, rfl, by simp [szL]; omega, by simp [szL], Below.refl _ _⟩
    case round =>
      clear c1
      obtain ⟨k, hk, rfl, hle, rfl, hbel⟩ := hrel
      have hsz := hbel.size
      by_cases hlt : k < d.length
      · obtain ⟨b, off, A, rfl, _, hb0, hx, hc1⟩ := str_row (HD.out.frame (Same.of_below' hbel)) hlt
        have hz : A.size ≤ maxLen := by have := HF.out.2 _ (List.getElem_mem hlt); rw [hx] at this; exact this
        unfold maxLen at hz
        have HT : Hid (szL strE (d.take (k + 1)) = szL strE (d.take k) + A.size) := Lib.hid (by rw [szL_take strE d k hlt, hx]; rfl)
        have HTl := Lib.hid (szL_le strE d (k + 1))
        clear hx
        generalize hq : d.length + szL strE (d.take k) = q at *
        have Hq := Lib.hid hq; clear hq
        by_cases hfit : ((A.size : Nat) : Int) ≤ left - (q : Int)
        · have c2 : ¬ left - (q : Int) - (A.size : Int) < 0 := by omega
          go_wp2
          go_roundw
          case rel =>
            have e := HT.out
            have e3 := Hq.out
            exact ⟨k + 1, by omega, by go_num, by omega, by rw [e]; congr 1; omega, hbel⟩
          case measure => simp [intOf]; omega
        · have c2 : left - (q : Int) - (A.size : Int) < 0 := by omega
          have HR : Hid (leftR (d.length + szL strE d) left = -1) := Lib.hid (leftR_neg (by
            have := HT.out; have := HTl.out; have := Hq.out; omega))
          go_wp2
          go_ret
          exact ⟨ret_int (by rw [HR.out]), hbel⟩
      · have HR : Hid (leftR (d.length + szL strE d) left = left - (d.length + szL strE (d.take k) : Nat)) := Lib.hid (by
          rw [List.take_of_length_le (by omega)] at hle ⊢
          exact leftR_pos hle)
        go_wp2
        go_ret
        exact ⟨ret_int (by rw [HR.out]), hbel⟩
  · have HR : Hid (leftR (d.length + szL strE d) left = -1) := Lib.hid (leftR_neg (by omega))
    have c1 : left - (d.length : Int) < 0 := by omega
    go_enter Try.func81, Try.ntmps81
    go_wp2
    go_ret
    exact ⟨ret_int (by rw [HR.out]), Below.refl _ _⟩
end Go.Proofs.Ytlgafmgohinkbaa
/- The helpers of the laws: sizes. -/
namespace Go.Proofs.Ytlgafmgohinkbaa
open Go.RowKit
attribute [local go_sem ↓] Go.wp_at_zero Go.wp_at_succ

set_option maxRecDepth 100000 in
set_option maxHeartbeats 4000000 in
theorem szClass_at {S : Bs} (a0 : ByteArray) (a1 : (List ByteArray)) (a2 : (List ByteArray)) (a3 : (List ByteArray)) (v1 v2 v3 : Value) (left : Int) (w : World) (h1 : SlAt strE S w a1 v1) (h2 : SlAt strE S w a2 v2) (h3 : SlAt strE S w a3 v3) (hl : classE.long (a0, a1, a2, a3)) (g0 : 0 ≤ left) (g1 : left ≤ 1048576) :
    Calls Try.prog 98 #[.agg #[.string a0, v1, v2, v3], .int .i64 left] w fun e w' => e = .returned (.int .i64 (leftR (classE.sz (a0, a1, a2, a3)) left)) ∧ Below w.heap.size w w' := by
  have HE : Hid (classE.sz (a0, a1, a2, a3) = a0.size + ((a1.length + szL strE a1) + ((a2.length + szL strE a2) + ((a3.length + szL strE a3))))) := Lib.hid rfl
  have z0 : a0.size ≤ 9223372036854775807 := by have := hl.1; simp only [strE, maxLen] at this; omega
  have C1 : Hid (∀ (l : Int) (W : World), Below w.heap.size w W → 0 ≤ l → l ≤ 1048576 → Calls Try.prog 81 #[v1, .int .i64 l] W fun e w' => e = .returned (.int .i64 (leftR (a1.length + szL strE a1) l)) ∧ Below W.heap.size W w') := Lib.hid (fun l W b p q => szStringS_at v1 a1 l W (h1.frame (Same.of_below' b)) hl.2.1 p q)
  have C2 : Hid (∀ (l : Int) (W : World), Below w.heap.size w W → 0 ≤ l → l ≤ 1048576 → Calls Try.prog 81 #[v2, .int .i64 l] W fun e w' => e = .returned (.int .i64 (leftR (a2.length + szL strE a2) l)) ∧ Below W.heap.size W w') := Lib.hid (fun l W b p q => szStringS_at v2 a2 l W (h2.frame (Same.of_below' b)) hl.2.2.1 p q)
  have C3 : Hid (∀ (l : Int) (W : World), Below w.heap.size w W → 0 ≤ l → l ≤ 1048576 → Calls Try.prog 81 #[v3, .int .i64 l] W fun e w' => e = .returned (.int .i64 (leftR (a3.length + szL strE a3) l)) ∧ Below W.heap.size W w') := Lib.hid (fun l W b p q => szStringS_at v3 a3 l W (h3.frame (Same.of_below' b)) hl.2.2.2 p q)
  obtain ⟨o1, k1, rfl⟩ := h1.sl
  obtain ⟨o2, k2, rfl⟩ := h2.sl
  obtain ⟨o3, k3, rfl⟩ := h3.sl
  clear h1 h2 h3
  clear hl
  generalize classE.sz (a0, a1, a2, a3) = z at *
  generalize (a1.length + szL strE a1) = r1 at *
  generalize (a2.length + szL strE a2) = r2 at *
  generalize (a3.length + szL strE a3) = r3 at *
  generalize a1.length = m1 at *
  generalize a2.length = m2 at *
  generalize a3.length = m3 at *
  by_cases g2 : (a0.size : Int) ≤ left
  · have c0 : ¬ left - (a0.size : Int) < 0 := by omega
    go_enter Try.func98, Try.ntmps98
    go_wp2_with fail
    refine calls_by (fun W => Below w.heap.size w W ∧ Blk W w.heap.size [.string a0, .slice o1 m1 k1, .slice o2 m2 k2, .slice o3 m3 k3]) ⟨more' (Below.refl _ _) _, Blk.new _ _ _⟩ ?_
    rintro w1 ⟨b1, t1⟩
    have T1 := Lib.hid t1; clear t1
    refine (C1.out _ w1 b1 (by omega) (by omega)).mono ?_
    rintro e w2 ⟨rfl, hb⟩
    have T2 := Lib.hid (T1.out.below hb); have b2 := b1.trans (hb.mono b1.size)
    clear hb b1 T1 C1
    by_cases g3 : (r1 : Int) ≤ left - (a0.size : Int)
    · rw [leftR_pos g3]
      have c1 : ¬ left - (a0.size : Int) - (r1 : Int) < 0 := by omega
      have q0 := T2.out.cell 0 rfl
      have q1 := T2.out.cell 1 rfl
      have q2 := T2.out.cell 2 rfl
      have q3 := T2.out.cell 3 rfl
      go_wp2_with fail
      refine (C2.out _ w2 b2 (by omega) (by omega)).mono ?_
      rintro e w3 ⟨rfl, hb⟩
      have T3 := Lib.hid (T2.out.below hb); have b3 := b2.trans (hb.mono b2.size)
      clear hb b2 T2 C2 q0 q1 q2 q3
      by_cases g4 : (r2 : Int) ≤ left - (a0.size : Int) - (r1 : Int)
      · rw [leftR_pos g4]
        have c2 : ¬ left - (a0.size : Int) - (r1 : Int) - (r2 : Int) < 0 := by omega
        have q0 := T3.out.cell 0 rfl
        have q1 := T3.out.cell 1 rfl
        have q2 := T3.out.cell 2 rfl
        have q3 := T3.out.cell 3 rfl
        go_wp2_with fail
        refine (C3.out _ w3 b3 (by omega) (by omega)).mono ?_
        rintro e w4 ⟨rfl, hb⟩
        have T4 := Lib.hid (T3.out.below hb); have b4 := b3.trans (hb.mono b3.size)
        clear hb b3 T3 C3 q0 q1 q2 q3
        by_cases g5 : (r3 : Int) ≤ left - (a0.size : Int) - (r1 : Int) - (r2 : Int)
        · rw [leftR_pos g5]
          have c3 : ¬ left - (a0.size : Int) - (r1 : Int) - (r2 : Int) - (r3 : Int) < 0 := by omega
          have q0 := T4.out.cell 0 rfl
          have q1 := T4.out.cell 1 rfl
          have q2 := T4.out.cell 2 rfl
          have q3 := T4.out.cell 3 rfl
          have HR : Hid (leftR z left = left - (a0.size : Int) - (r1 : Int) - (r2 : Int) - (r3 : Int)) := Lib.hid (by rw [leftR_pos (by rw [HE.out]; omega), HE.out]; omega)
          go_wp2
          go_ret
          exact ⟨ret_int (by rw [HR.out]), b4⟩
        · rw [leftR_neg g5]
          have HR : Hid (leftR z left = -1) := Lib.hid (leftR_neg (by rw [HE.out]; omega))
          go_wp2
          go_ret
          exact ⟨ret_int (by rw [HR.out]), b4⟩
      · rw [leftR_neg g4]
        have HR : Hid (leftR z left = -1) := Lib.hid (leftR_neg (by rw [HE.out]; omega))
        go_wp2
        go_ret
        exact ⟨ret_int (by rw [HR.out]), b3⟩
    · rw [leftR_neg g3]
      have HR : Hid (leftR z left = -1) := Lib.hid (leftR_neg (by rw [HE.out]; omega))
      go_wp2
      go_ret
      exact ⟨ret_int (by rw [HR.out]), b2⟩
  · have c0 : left - (a0.size : Int) < 0 := by omega
    have HR : Hid (leftR z left = -1) := Lib.hid (leftR_neg (by rw [HE.out]; omega))
    go_enter Try.func98, Try.ntmps98
    go_wp2
    go_ret
    exact ⟨ret_int (by rw [HR.out]), (Below.refl _ _).alloc (Nat.le_refl _) _⟩
set_option maxRecDepth 100000 in
set_option maxHeartbeats 4000000 in
theorem szClassS_at {S : Bs} (v : Value) (d : List ClassT) (left : Int) (w : World) (hd : SlAt classE S w d v) (hf : (slE classE).long d) (h0 : 0 ≤ left) (h1 : left ≤ 1048576) :
    Calls Try.prog 34 #[v, .int .i64 left] w fun e w' => e = .returned (.int .i64 (leftR (d.length + szL classE d) left)) ∧ Below w.heap.size w w' := by
  obtain ⟨ao, cap, rfl⟩ := hd.sl
  have hl : d.length ≤ 9223372036854775807 := hf.1
  have HD := Lib.hid hd; have HF := Lib.hid hf; clear hd hf
  by_cases g : (d.length : Int) ≤ left
  · have c1 : ¬ left - (d.length : Int) < 0 := by omega
    go_enter Try.func34, Try.ntmps34
    go_wp2
    go_loopw [1, 5] (fun t i wr => ∃ k : Nat, k ≤ d.length ∧ i = .int .i64 k ∧ ((d.length + szL classE (d.take k) : Nat) : Int) ≤ left ∧ t = .int .i64 (left - (d.length + szL classE (d.take k) : Nat)) ∧ Below w.heap.size w wr) (fun _ i _ => d.length - (intOf i).toNat)
    case atStart => exact ⟨0, Nat.zero_le _, rfl, by simp [szL]; omega, by simp [szL], Below.refl _ _⟩
    case round =>
      clear c1
      obtain ⟨k, hk, rfl, hle, rfl, hbel⟩ := hrel
      have hsz := hbel.size
      by_cases hlt : k < d.length
      · obtain ⟨b, off, a0, a1, a2, a3, v1, v2, v3, rfl, _, hb0, hx, ⟨hc0, hc1, hc2, hc3⟩, s1, s2, s3, _⟩ := class_row (HD.out.frame (Same.of_below' hbel)) hlt
        have HV1 := Lib.hid s1; clear s1
        have HV2 := Lib.hid s2; clear s2
        have HV3 := Lib.hid s3; clear s3
        have HZ : Hid (classE.long (a0, a1, a2, a3)) := Lib.hid (by have := HF.out.2 _ (List.getElem_mem hlt); rw [hx] at this; exact this)
        have HT : Hid (szL classE (d.take (k + 1)) = szL classE (d.take k) + classE.sz (a0, a1, a2, a3)) := Lib.hid (by rw [szL_take classE d k hlt, hx])
        have HTl := Lib.hid (szL_le classE d (k + 1))
        clear hx
        generalize hq : d.length + szL classE (d.take k) = q at *
        have Hq := Lib.hid hq; clear hq
        have HC := Lib.hid (szClass_at a0 a1 a2 a3 v1 v2 v3 (left - (q : Int)) wr HV1.out HV2.out HV3.out HZ.out (by omega) (by omega))
        generalize classE.sz (a0, a1, a2, a3) = r at *
        go_wp2_with fail
        refine HC.out.mono ?_
        rintro e w2 ⟨rfl, hb2⟩
        have B2 := Lib.hid (hbel.trans (hb2.mono hsz)); clear hb2
        by_cases hfit : (r : Int) ≤ left - (q : Int)
        · rw [leftR_pos hfit]
          have c2 : ¬ left - (q : Int) - (r : Int) < 0 := by omega
          go_wp2
          go_roundw
          case rel =>
            have e := HT.out
            have e3 := Hq.out
            exact ⟨k + 1, by omega, by go_num, by omega, by rw [e]; congr 1; omega, B2.out⟩
          case measure => simp [intOf]; omega
        · rw [leftR_neg hfit]
          have HR : Hid (leftR (d.length + szL classE d) left = -1) := Lib.hid (leftR_neg (by
            have := HT.out; have := HTl.out; have := Hq.out; omega))
          go_wp2
          go_ret
          exact ⟨ret_int (by rw [HR.out]), B2.out⟩
      · have HR : Hid (leftR (d.length + szL classE d) left = left - (d.length + szL classE (d.take k) : Nat)) := Lib.hid (by
          rw [List.take_of_length_le (by omega)] at hle ⊢
          exact leftR_pos hle)
        go_wp2
        go_ret
        exact ⟨ret_int (by rw [HR.out]), hbel⟩
  · have HR : Hid (leftR (d.length + szL classE d) left = -1) := Lib.hid (leftR_neg (by omega))
    have c1 : left - (d.length : Int) < 0 := by omega
    go_enter Try.func34, Try.ntmps34
    go_wp2
    go_ret
    exact ⟨ret_int (by rw [HR.out]), Below.refl _ _⟩
end Go.Proofs.Ytlgafmgohinkbaa
/- The helpers of the laws: copies. -/
namespace Go.Proofs.Ytlgafmgohinkbaa
open Go.RowKit
attribute [local go_sem ↓] Go.wp_at_zero Go.wp_at_succ

theorem Try.infoTClass : (Try.prog.info? 63).map (fun i => (i.zero, i.size, i.bytes)) = some (some (.agg #[.string ByteArray.empty, .slice none 0 0, .slice none 0 0, .slice none 0 0]), 4, 88) := by kernel_rfl
theorem mkClass (n : Nat) (hn : n ≤ 1048576) (W : World) : ∃ C : Array Value, C.size = n * 4 ∧
    (Instr.makeSlice 52 (.int .i64 (n : Int)) (.int .i64 (n : Int))).run Try.prog W = .ok (.slice (some ⟨W.heap.size, 0, none⟩) n n) (W.alloc (.cells C 63)) := by
  obtain ⟨i0, hi, hz0, hz1, hz2⟩ := info_parts Try.infoTClass
  have := run_make (P := Try.prog) W 52 63 i0 _ Try.underlying52 hi hz0 .i64 .i64 (n : Int) (n : Int) (by omega) (by omega) (by rw [hz2]; omega) (by omega)
  rw [hz1] at this
  refine ⟨madeCells (Value.cells (.agg #[.string ByteArray.empty, .slice none 0 0, .slice none 0 0, .slice none 0 0])) (n * 4), size_madeCells _ _, ?_⟩
  simpa using this
set_option maxRecDepth 100000 in
set_option maxHeartbeats 4000000 in
theorem toClass_at {S : Bs} (a0 : ByteArray) (a1 : (List ByteArray)) (a2 : (List ByteArray)) (a3 : (List ByteArray)) (v1 v2 v3 : Value) (w : World) (h1 : SlAt strE S w a1 v1) (h2 : SlAt strE S w a2 v2) (h3 : SlAt strE S w a3 v3) (hz : classE.sz (a0, a1, a2, a3) ≤ 1048576) :
    Calls Try.prog 101 #[.agg #[.string a0, v1, v2, v3]] w fun e w' => ∃ u1 u2 u3, e = .returned (.agg #[.string a0, u1, u2, u3]) ∧ classE.Own (Fresh w w') w' (a0, a1, a2, a3) [.string a0, u1, u2, u3] ∧ Below w.heap.size w w' := by
  have HE : classE.sz (a0, a1, a2, a3) = a0.size + ((a1.length + szL strE a1) + ((a2.length + szL strE a2) + ((a3.length + szL strE a3)))) := rfl
  rw [HE] at hz
  have C1 : Hid (∀ W : World, Below w.heap.size w W → Calls Try.prog 84 #[v1] W fun e w' => ∃ u, e = .returned u ∧ SlOwn strE (Fresh W w') w' a1 u ∧ Below W.heap.size W w') := Lib.hid (fun W b => toStringS_at v1 a1 W (h1.frame (Same.of_below' b)) (by omega))
  have C2 : Hid (∀ W : World, Below w.heap.size w W → Calls Try.prog 84 #[v2] W fun e w' => ∃ u, e = .returned u ∧ SlOwn strE (Fresh W w') w' a2 u ∧ Below W.heap.size W w') := Lib.hid (fun W b => toStringS_at v2 a2 W (h2.frame (Same.of_below' b)) (by omega))
  have C3 : Hid (∀ W : World, Below w.heap.size w W → Calls Try.prog 84 #[v3] W fun e w' => ∃ u, e = .returned u ∧ SlOwn strE (Fresh W w') w' a3 u ∧ Below W.heap.size W w') := Lib.hid (fun W b => toStringS_at v3 a3 W (h3.frame (Same.of_below' b)) (by omega))
  obtain ⟨o1, k1, rfl⟩ := h1.sl
  obtain ⟨o2, k2, rfl⟩ := h2.sl
  obtain ⟨o3, k3, rfl⟩ := h3.sl
  clear hz HE h1 h2 h3
  go_enter Try.func101, Try.ntmps101
  go_wp2_with fail
  refine calls_by (fun W => Below w.heap.size w W ∧ Blk W w.heap.size [.string a0, .slice o1 a1.length k1, .slice o2 a2.length k2, .slice o3 a3.length k3] ∧ Blk W (w.heap.size + 1) [.string ⟨#[]⟩, .slice none 0 0, .slice none 0 0, .slice none 0 0] ∧ Blk W (w.heap.size + 1 + 1) [.string a0, .slice none 0 0, .slice none 0 0, .slice none 0 0]) ⟨more' (more' (more' (Below.refl _ _) _) _) _, ((Blk.new _ _ _).alloc _).alloc _, (blk_at _ _ _ (by simp)).alloc _, blk_at _ _ _ (by simp)⟩ ?_
  rintro W0 ⟨b0, t0, r0, s0⟩
  have hn : w.heap.size + 1 + 1 < W0.heap.size := s0.lt
  refine (C1.out W0 b0).mono ?_
  rintro e y1 ⟨u1, rfl, q1, hb⟩
  obtain ⟨p1, j1, rfl⟩ := q1.at.sl
  have T := Lib.hid (t0.below hb); have Rr := Lib.hid (r0.below hb); have U := Lib.hid (s0.below hb); have B := Lib.hid (b0.trans (hb.mono b0.size)); have hs1 := hb.size
  have Q1 := Lib.hid q1
  clear t0 r0 s0 b0 hb q1 C1
  have m0 := T.out.cell 0 rfl
  have c0 := U.out.cell 0 rfl
  have f0 := U.out.soft 0
  have m1 := T.out.cell 1 rfl
  have c1 := U.out.cell 1 rfl
  have f1 := U.out.soft 1
  have m2 := T.out.cell 2 rfl
  have c2 := U.out.cell 2 rfl
  have f2 := U.out.soft 2
  have m3 := T.out.cell 3 rfl
  have c3 := U.out.cell 3 rfl
  have f3 := U.out.soft 3
  go_wp2_with fail
  have hW : y1.heap.size = y1.heap.size := rfl
  refine calls_by (fun W => y1.heap.size ≤ W.heap.size ∧ Below w.heap.size w W ∧ Blk W w.heap.size [.string a0, .slice o1 a1.length k1, .slice o2 a2.length k2, .slice o3 a3.length k3] ∧ Blk W (w.heap.size + 1) [.string ⟨#[]⟩, .slice none 0 0, .slice none 0 0, .slice none 0 0] ∧ Blk W (w.heap.size + 1 + 1) [.string a0, .slice p1 a1.length j1, .slice none 0 0, .slice none 0 0] ∧ SlOwn strE (Fresh W0 y1) W a1 (.slice p1 a1.length j1)) ⟨by simp [World.setCell], (B.out.setCell (p := ⟨w.heap.size + 1 + 1, 1, none⟩) (by show w.heap.size ≤ w.heap.size + 1 + 1; omega) _), (T.out.far (by omega) _), (Rr.out.far (by omega) _), (U.out.set 1 _), (Q1.out.frame (Same.set _ _ _ (by intro h; have := h.1; omega)))⟩ ?_
  clear T Rr U B Q1
  rintro W1 ⟨hl1, b1, t1, r1, s1, q1⟩
  have Q1 := Lib.hid q1; clear q1
  refine (C2.out W1 b1).mono ?_
  rintro e y2 ⟨u2, rfl, q2, hb⟩
  obtain ⟨p2, j2, rfl⟩ := q2.at.sl
  have T := Lib.hid (t1.below hb); have Rr := Lib.hid (r1.below hb); have U := Lib.hid (s1.below hb); have B := Lib.hid (b1.trans (hb.mono b1.size)); have hs2 := hb.size
  have Q2 := Lib.hid q2
  have Q1 := Lib.hid (Q1.out.frame (Same.of_below' hb))
  clear t1 r1 s1 b1 hb q2 C2
  clear c0 f0 m0 c1 f1 m1 c2 f2 m2 c3 f3 m3
  have m0 := T.out.cell 0 rfl
  have c0 := U.out.cell 0 rfl
  have f0 := U.out.soft 0
  have m1 := T.out.cell 1 rfl
  have c1 := U.out.cell 1 rfl
  have f1 := U.out.soft 1
  have m2 := T.out.cell 2 rfl
  have c2 := U.out.cell 2 rfl
  have f2 := U.out.soft 2
  have m3 := T.out.cell 3 rfl
  have c3 := U.out.cell 3 rfl
  have f3 := U.out.soft 3
  go_wp2_with fail
  have hW : y2.heap.size = y2.heap.size := rfl
  refine calls_by (fun W => y2.heap.size ≤ W.heap.size ∧ Below w.heap.size w W ∧ Blk W w.heap.size [.string a0, .slice o1 a1.length k1, .slice o2 a2.length k2, .slice o3 a3.length k3] ∧ Blk W (w.heap.size + 1) [.string ⟨#[]⟩, .slice none 0 0, .slice none 0 0, .slice none 0 0] ∧ Blk W (w.heap.size + 1 + 1) [.string a0, .slice p1 a1.length j1, .slice p2 a2.length j2, .slice none 0 0] ∧ SlOwn strE (Fresh W0 y1) W a1 (.slice p1 a1.length j1) ∧ SlOwn strE (Fresh W1 y2) W a2 (.slice p2 a2.length j2)) ⟨by simp [World.setCell], (B.out.setCell (p := ⟨w.heap.size + 1 + 1, 2, none⟩) (by show w.heap.size ≤ w.heap.size + 1 + 1; omega) _), (T.out.far (by omega) _), (Rr.out.far (by omega) _), (U.out.set 2 _), (Q1.out.frame (Same.set _ _ _ (by intro h; have := h.1; omega))), (Q2.out.frame (Same.set _ _ _ (by intro h; have := h.1; omega)))⟩ ?_
  clear T Rr U B Q1 Q2
  rintro W2 ⟨hl2, b2, t2, r2, s2, q1, q2⟩
  have Q1 := Lib.hid q1; clear q1
  have Q2 := Lib.hid q2; clear q2
  refine (C3.out W2 b2).mono ?_
  rintro e y3 ⟨u3, rfl, q3, hb⟩
  obtain ⟨p3, j3, rfl⟩ := q3.at.sl
  have T := Lib.hid (t2.below hb); have Rr := Lib.hid (r2.below hb); have U := Lib.hid (s2.below hb); have B := Lib.hid (b2.trans (hb.mono b2.size)); have hs3 := hb.size
  have Q3 := Lib.hid q3
  have Q1 := Lib.hid (Q1.out.frame (Same.of_below' hb))
  have Q2 := Lib.hid (Q2.out.frame (Same.of_below' hb))
  clear t2 r2 s2 b2 hb q3 C3
  clear c0 f0 m0 c1 f1 m1 c2 f2 m2 c3 f3 m3
  have m0 := T.out.cell 0 rfl
  have c0 := U.out.cell 0 rfl
  have f0 := U.out.soft 0
  have m1 := T.out.cell 1 rfl
  have c1 := U.out.cell 1 rfl
  have f1 := U.out.soft 1
  have m2 := T.out.cell 2 rfl
  have c2 := U.out.cell 2 rfl
  have f2 := U.out.soft 2
  have m3 := T.out.cell 3 rfl
  have c3 := U.out.cell 3 rfl
  have f3 := U.out.soft 3
  have TE := (((((Rr.out.far (R := w.heap.size + 1 + 1) (j := 3) (by omega) (.slice p3 a3.length j3)).set 0 (.string a0)).set 1 (.slice p1 a1.length j1)).set 2 (.slice p2 a2.length j2)).set 3 (.slice p3 a3.length j3))
  have d0 := Rr.out.cell 0 rfl
  have g0 := Rr.out.soft 0
  have k100 := TE.cell 0 rfl
  have d1 := Rr.out.cell 1 rfl
  have g1 := Rr.out.soft 1
  have k101 := TE.cell 1 rfl
  have d2 := Rr.out.cell 2 rfl
  have g2 := Rr.out.soft 2
  have k102 := TE.cell 2 rfl
  have d3 := Rr.out.cell 3 rfl
  have g3 := Rr.out.soft 3
  have k103 := TE.cell 3 rfl
  clear TE
  go_wp2_with fail
  refine bodyPost_ret (v := .agg #[.string a0, .slice p1 a1.length j1, .slice p2 a2.length j2, .slice p3 a3.length j3]) (by simp [results, Try.results101, go_sem, k100, k101, k102, k103]) rfl ⟨_, _, _, rfl, ?_, ?_⟩
  · exact class_pack a0 a1 a2 a3 _ _ _ (Fresh W0 y1) (Fresh W1 y2) (Fresh W2 y3) ⟨(((((Q1.out.frame (Same.set _ _ _ (by intro h; have := h.1; omega))).frame (Same.set _ _ _ (by intro h; have := h.1; omega))).frame (Same.set _ _ _ (by intro h; have := h.1; omega))).frame (Same.set _ _ _ (by intro h; have := h.1; omega))).frame (Same.set _ _ _ (by intro h; have := h.1; omega))), (fun k z => ⟨by have := z.1; omega, by have := z.2; show _ < (World.heap _).size; simp only [setCell_size]; omega⟩), (((((Q2.out.frame (Same.set _ _ _ (by intro h; have := h.1; omega))).frame (Same.set _ _ _ (by intro h; have := h.1; omega))).frame (Same.set _ _ _ (by intro h; have := h.1; omega))).frame (Same.set _ _ _ (by intro h; have := h.1; omega))).frame (Same.set _ _ _ (by intro h; have := h.1; omega))), (fun k z => ⟨by have := z.1; omega, by have := z.2; show _ < (World.heap _).size; simp only [setCell_size]; omega⟩), (((((Q3.out.frame (Same.set _ _ _ (by intro h; have := h.1; omega))).frame (Same.set _ _ _ (by intro h; have := h.1; omega))).frame (Same.set _ _ _ (by intro h; have := h.1; omega))).frame (Same.set _ _ _ (by intro h; have := h.1; omega))).frame (Same.set _ _ _ (by intro h; have := h.1; omega))), (fun k z => ⟨by have := z.1; omega, by have := z.2; show _ < (World.heap _).size; simp only [setCell_size]; omega⟩), (fun k z y => by have := z.2; have := y.1; omega), (fun k z y => by have := z.2; have := y.1; omega), (fun k z y => by have := z.2; have := y.1; omega), trivial⟩
  · exact (((((B.out.setCell (p := ⟨w.heap.size + 1 + 1, 3, none⟩) (by show w.heap.size ≤ w.heap.size + 1 + 1; omega) _).setCell (p := ⟨w.heap.size + 1, 0, none⟩) (by show w.heap.size ≤ w.heap.size + 1; omega) _).setCell (p := ⟨w.heap.size + 1, 1, none⟩) (by show w.heap.size ≤ w.heap.size + 1; omega) _).setCell (p := ⟨w.heap.size + 1, 2, none⟩) (by show w.heap.size ≤ w.heap.size + 1; omega) _).setCell (p := ⟨w.heap.size + 1, 3, none⟩) (by show w.heap.size ≤ w.heap.size + 1; omega) _)
set_option maxRecDepth 100000 in
set_option maxHeartbeats 4000000 in
theorem toClassS_at {S : Bs} (v : Value) (d : List ClassT) (w : World) (hd : SlAt classE S w d v) (hz : d.length + szL classE d ≤ 1048576) :
    Calls Try.prog 36 #[v] w fun e w' => ∃ u, e = .returned u ∧ SlOwn classE (Fresh w w') w' d u ∧ Below w.heap.size w w' := by
  obtain ⟨ao, cap, rfl⟩ := hd.sl
  have HD := Lib.hid hd; clear hd
  have HL := Lib.hid hz
  have hl : d.length ≤ 1048576 := by omega
  clear hz
  obtain ⟨C, hC, hmk⟩ := mkClass d.length hl w
  have HC := Lib.hid hC; clear hC
  go_enter Try.func36, Try.ntmps36
  go_wp2
  clear hmk
  go_loopw [4] (fun i wr => ∃ k : Nat, k ≤ d.length ∧ i = .int .i64 k ∧ Build classE wr w.heap.size d.length (d.take k) ∧ Below w.heap.size w wr) (fun i _ => d.length - (intOf i).toNat)
  case atStart => exact ⟨0, Nat.zero_le _, rfl, Build.new _ _ _ _ HC.out, (Below.refl _ _).alloc (Nat.le_refl _) _⟩
  case round =>
    obtain ⟨k, hk, rfl, hR, hbel⟩ := hrel
    have HR := Lib.hid hR; clear hR
    have hsz := hbel.size
    by_cases hlt : k < d.length
    · obtain ⟨b, off, a0, a1, a2, a3, v1, v2, v3, rfl, _, hb0, hx, ⟨hc0, hc1, hc2, hc3⟩, s1, s2, s3, _⟩ := class_row (HD.out.frame (Same.of_below' hbel)) hlt
      have HT : Hid (d.take (k + 1) = d.take k ++ [(a0, a1, a2, a3)]) := Lib.hid (by rw [List.take_succ_eq_append_getElem hlt, hx])
      have HK : Hid ((d.take k).length = k) := Lib.hid (by rw [List.length_take]; omega)
      have HZ : Hid (classE.sz (a0, a1, a2, a3) ≤ 1048576) := Lib.hid (by have h1 := szL_mem classE (List.getElem_mem hlt); rw [hx] at h1; have := HL.out; omega)
      clear hx
      have HV1 := Lib.hid s1; clear s1
      have HV2 := Lib.hid s2; clear s2
      have HV3 := Lib.hid s3; clear s3
      obtain ⟨o1, k1, rfl⟩ := HV1.out.sl
      obtain ⟨o2, k2, rfl⟩ := HV2.out.sl
      obtain ⟨o3, k3, rfl⟩ := HV3.out.sl
      go_wp2_with fail
      refine (toClass_at a0 a1 a2 a3 _ _ _ wr HV1.out HV2.out HV3.out HZ.out).mono ?_
      rintro e w2 ⟨u1, u2, u3, rfl, hq, hb2⟩
      have HR2 := Lib.hid (HR.out.below hb2)
      have B2 := Lib.hid (hbel.trans (hb2.mono hsz))
      have HQ := Lib.hid hq
      have HB := Lib.hid hb2
      clear hb2 hq hc0 hc1 hc2 hc3
      have hsl := class_sl HQ.out rfl
      obtain ⟨⟨p1, l1, j1, rfl⟩, ⟨p2, l2, j2, rfl⟩, ⟨p3, l3, j3, rfl⟩⟩ := hsl
      obtain ⟨x0, c0⟩ := HR2.out.cell (k := k) (u := 0) hlt (by decide)
      have c0 : w2.cell? ⟨w.heap.size, k * 4, none⟩ = some x0 := c0
      have f0 := HR2.out.soft (k * 4)
      obtain ⟨x1, c1⟩ := HR2.out.cell (k := k) (u := 1) hlt (by decide)
      have c1 : w2.cell? ⟨w.heap.size, k * 4 + 1, none⟩ = some x1 := c1
      have f1 := HR2.out.soft (k * 4 + 1)
      obtain ⟨x2, c2⟩ := HR2.out.cell (k := k) (u := 2) hlt (by decide)
      have c2 : w2.cell? ⟨w.heap.size, k * 4 + 2, none⟩ = some x2 := c2
      have f2 := HR2.out.soft (k * 4 + 2)
      obtain ⟨x3, c3⟩ := HR2.out.cell (k := k) (u := 3) hlt (by decide)
      have c3 : w2.cell? ⟨w.heap.size, k * 4 + 3, none⟩ = some x3 := c3
      have f3 := HR2.out.soft (k * 4 + 3)
      go_wp2
      go_roundw
      case rel => exact ⟨k + 1, by omega, by go_num, by rw [HT.out]; exact HR.out.row (o := k * 4) (cs := [.string a0, .slice p1 l1 j1, .slice p2 l2 j2, .slice p3 l3 j3]) (by rw [HK.out]; exact hlt) (by rw [HK.out]; rfl) HB.out HQ.out, ((((B2.out.setCell (Nat.le_refl _) _).setCell (Nat.le_refl _) _).setCell (Nat.le_refl _) _).setCell (Nat.le_refl _) _)⟩
      case measure => simp [intOf]; omega
    · have e : d.take k = d := List.take_of_length_le (by omega)
      rw [e] at HR
      clear e
      go_wp2
      go_ret
      exact ⟨_, rfl, HR.out.own, hbel⟩
end Go.Proofs.Ytlgafmgohinkbaa
/- The helpers of the laws: comparisons. -/
namespace Go.Proofs.Ytlgafmgohinkbaa
open Go.RowKit
attribute [local go_sem ↓] Go.wp_at_zero Go.wp_at_succ

set_option maxRecDepth 100000 in
set_option maxHeartbeats 4000000 in
theorem eqStringS_at {S S' : Bs} (v u : Value) (d : List ByteArray) (w : World) (hd : SlAt strE S w d v) (hu : SlAt strE S' w d u) (hz : d.length + szL strE d ≤ 1048576) :
    Calls Try.prog 18 #[v, u] w fun e w' => e = .returned (.bool true) ∧ Below w.heap.size w w' := by
  obtain ⟨ao, ca, rfl⟩ := hd.sl
  obtain ⟨bo, cb, rfl⟩ := hu.sl
  have HA := Lib.hid hd; have HB := Lib.hid hu; clear hd hu
  have HL := Lib.hid hz
  have hl : d.length ≤ 1048576 := by omega
  clear hz
  go_enter Try.func18, Try.ntmps18
  go_wp2
  go_loopw [5] (fun i wr => ∃ k : Nat, k ≤ d.length ∧ i = .int .i64 k ∧ Below w.heap.size w wr) (fun i _ => d.length - (intOf i).toNat)
  case atStart => exact ⟨0, Nat.zero_le _, rfl, Below.refl _ _⟩
  case round =>
    obtain ⟨k, hk, rfl, hbel⟩ := hrel
    have hsz := hbel.size
    by_cases hlt : k < d.length
    · obtain ⟨p, off, A, rfl, _, hp0, hx, c1⟩ := str_row (HA.out.frame (Same.of_below' hbel)) hlt
      obtain ⟨q, off', A', rfl, _, hq0, hx', c2⟩ := str_row (HB.out.frame (Same.of_below' hbel)) hlt
      obtain rfl : A = A' := hx.symm.trans hx'
      clear hx hx'
      have hkk : (A.toList == A.toList) = true := by simp
      have g1 : (0 : Int) ≤ (k : Int) := by omega
      have g2 : (k : Int) < (d.length : Int) := by omega
      have hbd := hbel.drew
      have c1' : wr.drew.cell? ⟨p, off + k, none⟩ = some (.string A) := c1
      have c2' : wr.drew.cell? ⟨q, off' + k, none⟩ = some (.string A) := c2
      go_wp2_with fail
      go_region_held3 (fun W => Below w.heap.size w W ∧ W.cell? ⟨p, off + k, none⟩ = some (.string A) ∧ W.cell? ⟨q, off' + k, none⟩ = some (.string A))
        (first | exact ⟨hbel, c1, c2⟩ | exact ⟨hbd, c1', c2'⟩)
        (fail "none")
      all_goals
        go_wp2
        go_roundw
        case rel => exact ⟨k + 1, by omega, by go_num, by first | exact hbel | exact hbd⟩
        case measure => simp [intOf]; omega
    · go_wp2
      go_ret
      exact ⟨rfl, hbel⟩
end Go.Proofs.Ytlgafmgohinkbaa
/- The helpers of the laws: comparisons. -/
namespace Go.Proofs.Ytlgafmgohinkbaa
open Go.RowKit
attribute [local go_sem ↓] Go.wp_at_zero Go.wp_at_succ

set_option maxRecDepth 100000 in
set_option maxHeartbeats 4000000 in
theorem eqClass_at {S S' : Bs} (w0 : World) (a0 : ByteArray) (a1 : (List ByteArray)) (a2 : (List ByteArray)) (a3 : (List ByteArray)) (v1 v2 v3 : Value) (u1 u2 u3 : Value) (w : World) (hB : Below w0.heap.size w0 w) (h1 : SlAt strE S w0 a1 v1) (h2 : SlAt strE S w0 a2 v2) (h3 : SlAt strE S w0 a3 v3) (g1 : SlAt strE S' w0 a1 u1) (g2 : SlAt strE S' w0 a2 u2) (g3 : SlAt strE S' w0 a3 u3) (hz : classE.sz (a0, a1, a2, a3) ≤ 1048576) :
    Calls Try.prog 45 #[.agg #[.string a0, v1, v2, v3], .agg #[.string a0, u1, u2, u3]] w fun e w' => e = .returned (.bool true) ∧ Below w0.heap.size w0 w' := by
  have HE : classE.sz (a0, a1, a2, a3) = a0.size + ((a1.length + szL strE a1) + ((a2.length + szL strE a2) + ((a3.length + szL strE a3)))) := rfl
  rw [HE] at hz
  have hk0 : (a0.toList == a0.toList) = true := by simp
  have C1 : Hid (∀ W : World, Below w0.heap.size w0 W → Calls Try.prog 18 #[v1, u1] W fun e w' => e = .returned (.bool true) ∧ Below W.heap.size W w') := Lib.hid (fun W b => eqStringS_at v1 u1 a1 W (h1.frame (Same.of_below' b)) (g1.frame (Same.of_below' b)) (by omega))
  have C2 : Hid (∀ W : World, Below w0.heap.size w0 W → Calls Try.prog 18 #[v2, u2] W fun e w' => e = .returned (.bool true) ∧ Below W.heap.size W w') := Lib.hid (fun W b => eqStringS_at v2 u2 a2 W (h2.frame (Same.of_below' b)) (g2.frame (Same.of_below' b)) (by omega))
  have C3 : Hid (∀ W : World, Below w0.heap.size w0 W → Calls Try.prog 18 #[v3, u3] W fun e w' => e = .returned (.bool true) ∧ Below W.heap.size W w') := Lib.hid (fun W b => eqStringS_at v3 u3 a3 W (h3.frame (Same.of_below' b)) (g3.frame (Same.of_below' b)) (by omega))
  obtain ⟨o1, k1, rfl⟩ := h1.sl
  obtain ⟨p1, j1, rfl⟩ := g1.sl
  obtain ⟨o2, k2, rfl⟩ := h2.sl
  obtain ⟨p2, j2, rfl⟩ := g2.sl
  obtain ⟨o3, k3, rfl⟩ := h3.sl
  obtain ⟨p3, j3, rfl⟩ := g3.sl
  clear hz HE h1 g1 h2 g2 h3 g3
  have HB := Lib.hid hB
  clear hB
  go_enter Try.func45, Try.ntmps45
  go_wp2_with fail
  refine calls_by (fun W => Below w0.heap.size w0 W ∧ Blk W w.heap.size [.string a0, .slice o1 a1.length k1, .slice o2 a2.length k2, .slice o3 a3.length k3] ∧ Blk W (w.heap.size + 1) [.string a0, .slice p1 a1.length j1, .slice p2 a2.length j2, .slice p3 a3.length j3]) ⟨more' (more' HB.out _) _, (Blk.new _ _ _).alloc _, blk_at _ _ _ (by simp)⟩ ?_
  rintro W1 ⟨b1, x1, y1⟩
  have X1 := Lib.hid x1; have Y1 := Lib.hid y1; clear x1 y1
  refine (C1.out W1 b1).mono ?_
  rintro e W2 ⟨rfl, hb⟩
  have X2 := Lib.hid (X1.out.below hb); have Y2 := Lib.hid (Y1.out.below hb); have b2 := b1.trans (hb.mono b1.size)
  clear X1 Y1 hb b1 C1
  have m0 := X2.out.cell 0 rfl
  have n0 := Y2.out.cell 0 rfl
  have m1 := X2.out.cell 1 rfl
  have n1 := Y2.out.cell 1 rfl
  have m2 := X2.out.cell 2 rfl
  have n2 := Y2.out.cell 2 rfl
  have m3 := X2.out.cell 3 rfl
  have n3 := Y2.out.cell 3 rfl
  go_wp2_with fail
  refine (C2.out W2 b2).mono ?_
  rintro e W3 ⟨rfl, hb⟩
  have X3 := Lib.hid (X2.out.below hb); have Y3 := Lib.hid (Y2.out.below hb); have b3 := b2.trans (hb.mono b2.size)
  clear X2 Y2 hb b2 C2 m0 n0 m1 n1 m2 n2 m3 n3
  have m0 := X3.out.cell 0 rfl
  have n0 := Y3.out.cell 0 rfl
  have m1 := X3.out.cell 1 rfl
  have n1 := Y3.out.cell 1 rfl
  have m2 := X3.out.cell 2 rfl
  have n2 := Y3.out.cell 2 rfl
  have m3 := X3.out.cell 3 rfl
  have n3 := Y3.out.cell 3 rfl
  go_wp2_with fail
  refine (C3.out W3 b3).mono ?_
  rintro e W4 ⟨rfl, hb⟩
  have X4 := Lib.hid (X3.out.below hb); have Y4 := Lib.hid (Y3.out.below hb); have b4 := b3.trans (hb.mono b3.size)
  clear X3 Y3 hb b3 C3 m0 n0 m1 n1 m2 n2 m3 n3
  have m0 := X4.out.cell 0 rfl
  have n0 := Y4.out.cell 0 rfl
  have m1 := X4.out.cell 1 rfl
  have n1 := Y4.out.cell 1 rfl
  have m2 := X4.out.cell 2 rfl
  have n2 := Y4.out.cell 2 rfl
  have m3 := X4.out.cell 3 rfl
  have n3 := Y4.out.cell 3 rfl
  go_wp2
  go_ret
  exact ⟨rfl, b4⟩
set_option maxRecDepth 100000 in
set_option maxHeartbeats 4000000 in
theorem eqClassS_at {S S' : Bs} (v u : Value) (d : List ClassT) (w : World) (hd : SlAt classE S w d v) (hu : SlAt classE S' w d u) (hz : d.length + szL classE d ≤ 1048576) :
    Calls Try.prog 39 #[v, u] w fun e w' => e = .returned (.bool true) ∧ Below w.heap.size w w' := by
  obtain ⟨ao, ca, rfl⟩ := hd.sl
  obtain ⟨bo, cb, rfl⟩ := hu.sl
  have HA := Lib.hid hd; have HB := Lib.hid hu; clear hd hu
  have HL := Lib.hid hz
  have hl : d.length ≤ 1048576 := by omega
  clear hz
  go_enter Try.func39, Try.ntmps39
  go_wp2
  go_loopw [5] (fun i wr => ∃ k : Nat, k ≤ d.length ∧ i = .int .i64 k ∧ Below w.heap.size w wr) (fun i _ => d.length - (intOf i).toNat)
  case atStart => exact ⟨0, Nat.zero_le _, rfl, Below.refl _ _⟩
  case round =>
    obtain ⟨k, hk, rfl, hbel⟩ := hrel
    have hsz := hbel.size
    by_cases hlt : k < d.length
    · obtain ⟨p, off, a0, a1, a2, a3, v1, v2, v3, rfl, _, hp0, hx, hc, s1, s2, s3, _⟩ := class_row (HA.out.frame (Same.of_below' hbel)) hlt
      obtain ⟨q, off', x0, x1, x2, x3, u1, u2, u3, rfl, _, hq0, hx', hd, t1, t2, t3, _⟩ := class_row (HB.out.frame (Same.of_below' hbel)) hlt
      have hxx := hx.symm.trans hx'
      simp only [Prod.mk.injEq] at hxx
      obtain ⟨rfl, rfl, rfl, rfl⟩ := hxx
      have HZ : Hid (classE.sz (a0, a1, a2, a3) ≤ 1048576) := Lib.hid (by have h1 := szL_mem classE (List.getElem_mem hlt); rw [hx] at h1; have := HL.out; omega)
      clear hx hx'
      have C : Hid (∀ W : World, Below wr.heap.size wr W → Calls Try.prog 45 #[.agg #[.string a0, v1, v2, v3], .agg #[.string a0, u1, u2, u3]] W fun e w' => e = .returned (.bool true) ∧ Below wr.heap.size wr w') := Lib.hid (fun W b => eqClass_at wr a0 a1 a2 a3 v1 v2 v3 u1 u2 u3 W b s1 s2 s3 t1 t2 t3 HZ.out)
      clear s1 t1 s2 t2 s3 t3 HZ
      have SK : Hid (∀ W : World, Below wr.heap.size wr W → (Below wr.heap.size wr W ∧ (W.cell? ⟨p, off + k * 4, none⟩ = some (.string a0) ∧ W.cell? ⟨p, off + k * 4 + 1, none⟩ = some (v1) ∧ W.cell? ⟨p, off + k * 4 + 2, none⟩ = some (v2) ∧ W.cell? ⟨p, off + k * 4 + 3, none⟩ = some (v3)) ∧ (W.cell? ⟨q, off' + k * 4, none⟩ = some (.string a0) ∧ W.cell? ⟨q, off' + k * 4 + 1, none⟩ = some (u1) ∧ W.cell? ⟨q, off' + k * 4 + 2, none⟩ = some (u2) ∧ W.cell? ⟨q, off' + k * 4 + 3, none⟩ = some (u3)))) :=
        Lib.hid (fun W h => ⟨h, ⟨(h.cell (p := ⟨p, _, none⟩) hp0).trans hc.1, (h.cell (p := ⟨p, _, none⟩) hp0).trans hc.2.1, (h.cell (p := ⟨p, _, none⟩) hp0).trans hc.2.2.1, (h.cell (p := ⟨p, _, none⟩) hp0).trans hc.2.2.2⟩, ⟨(h.cell (p := ⟨q, _, none⟩) hq0).trans hd.1, (h.cell (p := ⟨q, _, none⟩) hq0).trans hd.2.1, (h.cell (p := ⟨q, _, none⟩) hq0).trans hd.2.2.1, (h.cell (p := ⟨q, _, none⟩) hq0).trans hd.2.2.2⟩⟩)
      have hbd : Below wr.heap.size wr wr.drew := (Below.refl _ _).drew
      have hb0 : Below wr.heap.size wr wr := Below.refl _ _
      have HBl := Lib.hid hbel
      clear hc hd hbel
      have g1 : (0 : Int) ≤ (k : Int) := by omega
      have g2 : (k : Int) < (d.length : Int) := by omega
      go_wp2_with fail
      go_region_held3 (fun W => Below wr.heap.size wr W ∧ (W.cell? ⟨p, off + k * 4, none⟩ = some (.string a0) ∧ W.cell? ⟨p, off + k * 4 + 1, none⟩ = some (v1) ∧ W.cell? ⟨p, off + k * 4 + 2, none⟩ = some (v2) ∧ W.cell? ⟨p, off + k * 4 + 3, none⟩ = some (v3)) ∧ (W.cell? ⟨q, off' + k * 4, none⟩ = some (.string a0) ∧ W.cell? ⟨q, off' + k * 4 + 1, none⟩ = some (u1) ∧ W.cell? ⟨q, off' + k * 4 + 2, none⟩ = some (u2) ∧ W.cell? ⟨q, off' + k * 4 + 3, none⟩ = some (u3)))
        (exact SK.out _ (by assumption))
        (first | (go_at_call 45; refine (C.out _ (by assumption)).mono ?_; rintro e w2 ⟨rfl, hb2⟩) | (fail "none"))
      all_goals
        go_wp2
        go_roundw
        case rel => exact ⟨k + 1, by omega, by go_num, HBl.out.trans (hb2.mono HBl.out.size)⟩
        case measure => simp [intOf]; omega
    · go_wp2
      go_ret
      exact ⟨rfl, hbel⟩
end Go.Proofs.Ytlgafmgohinkbaa
/- An owned entry and an owned answer, taken apart. -/
namespace Go.Proofs.Ytlgafmgohinkbaa
open Go Go.RowKit
theorem entry_ownp {S : Bs} {w : World} {a0 : List RdnT} {a1 : List AttrT} {v0 v1 : Value} (h : entryE.Own S w (a0, a1) [v0, v1]) :
    ∃ S0 S1 : Bs, SlOwn rdnE S0 w a0 v0 ∧ (∀ k, S0 k → S k) ∧ SlOwn attrE S1 w a1 v1 ∧ (∀ k, S1 k → S k) ∧ ∀ k, S0 k → ¬ S1 k := by
  obtain ⟨b0, b1, y0, y1, S0, S1, e1, e2, q0, i0, q1, i1, d, _⟩ := entry_own h
  simp only [Prod.mk.injEq] at e1
  obtain ⟨rfl, rfl⟩ := e1
  simp only [List.cons.injEq, and_true] at e2
  obtain ⟨rfl, rfl⟩ := e2
  exact ⟨S0, S1, q0, i0, q1, i1, d⟩
theorem entryOut_ownp {S : Bs} {w : World} {a0 : List RdnT} {a1 : List AttrT} {a2 : Int} {v0 v1 : Value} (h : entryOutE.Own S w ((a0, a1), a2) [v0, v1, .int .i64 a2]) :
    ∃ S0 S1 : Bs, SlOwn rdnE S0 w a0 v0 ∧ (∀ k, S0 k → S k) ∧ SlOwn attrE S1 w a1 v1 ∧ (∀ k, S1 k → S k) ∧ ∀ k, S0 k → ¬ S1 k := by
  obtain ⟨b0, b1, b2, y0, y1, S0, S1, e1, e2, q0, i0, q1, i1, d, _⟩ := entryOut_own h
  simp only [Prod.mk.injEq] at e1
  obtain ⟨⟨rfl, rfl⟩, rfl⟩ := e1
  simp only [List.cons.injEq, and_true] at e2
  obtain ⟨rfl, rfl⟩ := e2
  exact ⟨S0, S1, q0, i0, q1, i1, d⟩
example : ruleE.c ≤ 50 := by decide
example : attrE.c ≤ 50 := by decide
end Go.Proofs.Ytlgafmgohinkbaa
