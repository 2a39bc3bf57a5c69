/- Merged texts: Parent, Law1, Law2, EntMath, Mark, Mark2, CpT, Ty, Br, ClsMath, EntR1, ClsR1. -/
import Derived.Test.YtglgkocjdockdaaM2
import Derived.Laws.AppendOwnNone
import Derived.Test.YtglgkocjdockdaaM1
import Derived.Laws.MakeOwn
import Derived.Shelf.Small.Strs
/- DnParent and DnJoin: what the texts of the program and of the specification return. -/
namespace Go.Proofs.Ytglgkocjdockdaa
open Go.RowKit
attribute [local go_sem ↓] Go.wp_at_zero Go.wp_at_succ

theorem own_mono {w : World} {B B' e z n : Nat} {v : Value} {xs : List Value} (h : w.ownsRow B e z v n xs) (hB : B' ≤ B) : w.ownsRow B' e z v n xs := by
  refine ⟨h.1, ?_⟩
  rcases h.2 with h | ⟨g, cap, cur, h1, h2, h3⟩
  · exact .inl h
  · exact .inr ⟨g, cap, cur, h1, Nat.le_trans hB h2, h3⟩
/-- a new name is returned -/
def GivesDn (w : World) (d : RdnL) (e : Ending) (w' : World) : Prop := (∃ v, e = .returned v ∧ w'.ownsRow w.heap.size 104 2 v d.length (rs d)) ∧ Below w.heap.size w w'
theorem own_nil (w : World) (B : Nat) : w.ownsRow B 104 2 (.slice none 0 0) 0 (rs []) := ⟨rfl, .inl ⟨rfl, rfl⟩⟩
theorem dn_cells {w : World} {b off : Nat} {d : RdnL} (h : DnAt w (some ⟨b, off, none⟩) d) : ∀ j u, (rs d)[j]? = some u → w.cell? ((⟨b, off, none⟩ : Addr).add j) = some u := by
  intro j u hu
  have hj : j < (rs d).length := by
    rcases Nat.lt_or_ge j (rs d).length with h | h
    · exact h
    · rw [List.getElem?_eq_none h] at hu; cases hu
  rw [rs_length] at hj
  obtain ⟨b', off', e, _, c1, c2⟩ := h.at (k := j / 2) (by omega)
  cases e
  have ea : (⟨b, off, none⟩ : Addr).add j = ⟨b, off + j, none⟩ := by unfold Addr.add; split <;> simp_all
  rw [ea]
  have hg := rs_get d (j / 2) (by omega)
  rcases Nat.mod_two_eq_zero_or_one j with hm | hm
  · have ej : j = j / 2 * 2 := by omega
    rw [ej] at hu ⊢
    rw [hg.1] at hu
    rw [← hu]; exact c1
  · have ej : j = j / 2 * 2 + 1 := by omega
    rw [ej] at hu ⊢
    rw [hg.2] at hu
    rw [← hu, ← Nat.add_assoc]; exact c2
theorem rs_one (d : RdnL) : ∀ u ∈ rs d, u.oneCell' = true := by
  intro u hu
  unfold rs at hu
  rw [List.mem_flatMap] at hu
  obtain ⟨r, _, hr⟩ := hu
  simp at hr
  rcases hr with rfl | rfl <;> rfl
theorem rs_append (a b : RdnL) : rs (a ++ b) = rs a ++ rs b := by unfold rs; rw [List.flatMap_append]
/-- append(v, dn...) onto a row that the call owns -/
theorem append_dn {ops : Array Oper} {rest : List Oper} {o : Oper} {a : Act} {Q : Exit → Act → World → Prop} {w0 wr : World} (B : Nat) (hgd : o.guard = none) (s x : Operand)
    (ho : o.op = .call { callee := .builtin .append, args := #[s, x], argTypes := #[32, 32] }) (v : Value) (pre : RdnL) (hs : a.eval s = v) (hown : wr.ownsRow B 104 2 v pre.length (rs pre))
    (ao : Option Addr) (d : RdnL) (c n : Nat) (hn : n = d.length) (hx : a.eval x = .slice ao n c) (hd : DnAt wr ao d) (hc : ao = none → c = 0) (hlen : pre.length + d.length ≤ 1000000000) (hB : B ≤ wr.heap.size) (hbel : Below B w0 wr)
    (h : ∀ v' w', w'.ownsRow B 104 2 v' (pre ++ d).length (rs (pre ++ d)) → Below B w0 w' → wpList Try.prog ops Q rest (a.put o.dst v') w') :
    wpList Try.prog ops Q (o :: rest) a wr := by
  obtain ⟨i0, hi, hz0, hz1, hz2⟩ := info_parts Try.info104
  subst hn
  rcases ao with _ | ad
  · have hd0 : d = [] := by
      rcases hd with h | ⟨b, off, e, _⟩
      · exact h
      · cases e
    subst hd0
    have := hc rfl
    subst this
    refine wpList_append_own_none hgd s x 32 ho B 104 i0 2 Try.underlying32 hi v pre.length (rs pre) hs hown hx (h v wr (by rw [List.append_nil]; exact hown) hbel)
  · have hnews : ∀ j u, (rs d)[j]? = some u → wr.cell? (ad.add j) = some u := by
      rcases hd with hd | ⟨b, off, e, h2, h3⟩
      · subst hd; intro j u hu; simp [rs] at hu
      · cases e; exact dn_cells (.inr ⟨b, off, rfl, h2, h3⟩)
    refine wpList_append_own _ hgd s x 32 ho B 104 i0 _ 2 32 Try.underlying32 hi hz0 hz1 hz2 rfl (by decide) v pre.length (rs pre) hs hown ad d.length c (rs d) hx (rs_length d) hnews (rs_one d) ?_ ?_ hB ?_
    · unfold maxLen; omega
    · omega
    · intro v' w' h1 h2 h3
      refine h v' w' ?_ (hbel.grown h2 hB (fun k hk => (hown.lt k hk).1))
      rw [rs_append, List.length_append]; exact h1

theorem cut27s (w : World) (ao : Option Addr) (d : RdnL) (k cap : Nat) (hk : k ≤ d.length) (h0 : d.length ≠ 0) (hc : d.length ≤ cap) (hd : DnAt w ao d) :
    ∃ ad, (∀ W : World, (Instr.slice 32 (.slice ao d.length cap) (some (.int .i64 (k : Int))) none none).run Try.prog W = .ok (.slice (some ad) (d.length - k) (cap - k)) W) ∧ DnAt w (some ad) (d.drop k) := by
  obtain ⟨ao', h1, h2⟩ := cut27 w ao d k cap hk hc hd
  obtain ⟨b, off, rfl, hb, _⟩ := hd.at (k := 0) (by omega)
  have h3 := h1 w
  rw [run_slice_l w 32 _ d.length cap (by rw [Try.elem32]; exact Try.underlying32) .i64 (k : Int) (by omega) (by omega), Try.elem32, Try.size104] at h3
  rcases ao' with _ | ad
  · simp [Result.andThen, sliced] at h3
    split at h3 <;> simp at h3
  · exact ⟨ad, h1, h2⟩
def parentL (d : RdnL) : RdnL := if dnB d = true then d.drop 1 else []
theorem parent_no {d : RdnL} (h : dnB d = false ∨ d.length = 0) : parentL d = [] := by
  unfold parentL
  rcases h with h | h
  · rw [h]; rfl
  · rw [List.length_eq_zero_iff.1 h]; simp
theorem parent_yes {d : RdnL} (h : dnB d = true) : parentL d = d.drop 1 := by unfold parentL; rw [if_pos h]
end Go.Proofs.Ytglgkocjdockdaa
/- The helpers of the laws: sizes, copies, comparisons. -/
namespace Go.Proofs.Ytglgkocjdockdaa
open Go.RowKit
attribute [local go_sem ↓] Go.wp_at_zero Go.wp_at_succ

/-- all its strings are strings of Go -/
def Long (d : RdnL) : Prop := d.length ≤ 9223372036854775807 ∧ ∀ r ∈ d, r.1.size ≤ maxLen ∧ r.2.size ≤ maxLen
def sizeR (r : ByteArray × ByteArray) : Nat := r.1.size + r.2.size
def sizeS (d : RdnL) : Nat := (d.map sizeR).sum
theorem sizeS_take (d : RdnL) (k : Nat) (h : k < d.length) : sizeS (d.take (k + 1)) = sizeS (d.take k) + sizeR d[k] := by
  unfold sizeS; rw [List.take_succ_eq_append_getElem h, List.map_append, List.sum_append]; simp
theorem sizeS_le (d : RdnL) (k : Nat) : sizeS (d.take k) ≤ sizeS d := by
  have h := List.take_append_drop k d
  have : sizeS d = sizeS (d.take k) + sizeS (d.drop k) := by
    unfold sizeS; rw [← List.sum_append, ← List.map_append, h]
  omega
theorem sizeS_mem {d : RdnL} {r : ByteArray × ByteArray} (h : r ∈ d) : sizeR r ≤ sizeS d := by
  induction d with
  | nil => simp at h
  | cons x d ih =>
    have e : sizeS (x :: d) = sizeR x + sizeS d := by unfold sizeS; simp
    rw [e]
    rw [List.mem_cons] at h
    rcases h with rfl | h
    · omega
    · have := ih h; omega
theorem fits_of {d : RdnL} (h : d.length + sizeS d ≤ 1048576) : Fits d :=
  ⟨by omega, fun r hr => by have := sizeS_mem hr; unfold sizeR at this; omega⟩
set_option maxHeartbeats 400000 in
theorem szRdn_any (A V : ByteArray) (left : Int) (w : World) (hA : A.size ≤ maxLen) (hV : V.size ≤ maxLen) (h0 : 0 ≤ left) (h1 : left ≤ 1048576) :
    Calls Try.prog 71 #[.agg #[.string A, .string V], .int .i64 left] w fun e w' => e = .returned (.int .i64 (leftR (sizeR (A, V)) left)) ∧ Below w.heap.size w w' := by
  unfold maxLen at hA hV
  have HE : Hid (sizeR (A, V) = A.size + V.size) := Lib.hid rfl
  by_cases g1 : (A.size : Int) ≤ left
  · by_cases g2 : (A.size : Int) + (V.size : Int) ≤ left
    · have HR : Hid (leftR (sizeR (A, V)) left = left - A.size - V.size) := Lib.hid (by unfold leftR; rw [HE.out, if_pos (by omega)]; omega)
      have c1 : ¬ left - (A.size : Int) < 0 := by omega
      have c2 : ¬ left - (A.size : Int) - (V.size : Int) < 0 := by omega
      go_enter Try.func71, Try.ntmps71
      go_wp2
      go_ret
      exact ⟨ret_int' (by rw [HR.out]), (Below.refl _ _).alloc (Nat.le_refl _) _⟩
    · have HR : Hid (leftR (sizeR (A, V)) left = -1) := Lib.hid (by unfold leftR; rw [HE.out, if_neg (by omega)])
      have c1 : ¬ left - (A.size : Int) < 0 := by omega
      have c2 : left - (A.size : Int) - (V.size : Int) < 0 := by omega
      go_enter Try.func71, Try.ntmps71
      go_wp2
      go_ret
      exact ⟨ret_int' (by rw [HR.out]), (Below.refl _ _).alloc (Nat.le_refl _) _⟩
  · have HR : Hid (leftR (sizeR (A, V)) left = -1) := Lib.hid (by unfold leftR; rw [HE.out, if_neg (by omega)])
    have c1 : left - (A.size : Int) < 0 := by omega
    go_enter Try.func71, Try.ntmps71
    go_wp2
    go_ret
    exact ⟨ret_int' (by rw [HR.out]), (Below.refl _ _).alloc (Nat.le_refl _) _⟩
set_option maxRecDepth 100000 in
set_option maxHeartbeats 1000000 in
theorem szRdnS_any (ao : Option Addr) (d : RdnL) (cap : Nat) (left : Int) (w : World) (hd : DnAt w ao d) (hf : Long d) (h0 : 0 ≤ left) (h1 : left ≤ 1048576) :
    Calls Try.prog 17 #[.slice ao d.length cap, .int .i64 left] w fun e w' => e = .returned (.int .i64 (leftR (d.length + sizeS d) left)) ∧ Below w.heap.size w w' := by
  have hl := hf.1
  have HD := Lib.hid hd; have HF := Lib.hid hf; clear hd hf
  by_cases g : (d.length : Int) ≤ left
  · have c1 : ¬ left - (d.length : Int) < 0 := by omega
    go_enter Try.func17, Try.ntmps17
    go_wp2
    go_loopw [1, 5] (fun t i wr => ∃ k : Nat, k ≤ d.length ∧ i = .int .i64 k ∧ ((d.length + sizeS (d.take k) : Nat) : Int) ≤ left ∧ t = .int .i64 (left - (d.length + sizeS (d.take k) : Nat)) ∧ Below w.heap.size w wr) (fun _ i _ => d.length - (intOf i).toNat)
    case atStart => exact ⟨0, Nat.zero_le _, rfl, by simp [sizeS]; omega, by simp [sizeS], Below.refl _ _⟩
    case round =>
      clear c1
      obtain ⟨k, hk, rfl, hle, rfl, hbel⟩ := hrel
      have hsz := hbel.size
      by_cases hlt : k < d.length
      · obtain ⟨b, off, rfl, hb0, hd1, hd2⟩ := HD.out.at hlt
        have hc1 := (hbel.cell (p := ⟨b, off + k * 2, none⟩) hb0).trans hd1
        have hc2 := (hbel.cell (p := ⟨b, off + k * 2 + 1, none⟩) hb0).trans hd2
        have hz := HF.out.2 _ (List.getElem_mem hlt)
        have HT := Lib.hid (sizeS_take d k hlt)
        have HTl := Lib.hid (sizeS_le d (k + 1))
        have HE : Hid (sizeR d[k] = sizeR (d[k].1, d[k].2)) := Lib.hid rfl
        clear hd1 hd2
        generalize d[k].1 = A at *
        generalize d[k].2 = V at *
        generalize hq : d.length + sizeS (d.take k) = q at *
        have Hq := Lib.hid hq; clear hq
        go_wp2_with fail
        refine (szRdn_any A V (left - (q : Int)) wr hz.1 hz.2 (by omega) (by omega)).mono ?_
        rintro e w2 ⟨rfl, hb2⟩
        have B2 := Lib.hid (hbel.trans (hb2.mono hsz)); clear hb2
        by_cases hfit : ((sizeR (A, V) : Nat) : Int) ≤ left - (q : Int)
        · rw [leftR_pos hfit]
          generalize hr : sizeR (A, V) = r at *
          have Hr := Lib.hid hr; clear hr
          have c2 : ¬ left - (q : Int) - (r : Int) < 0 := by omega
          go_wp2
          go_roundw
          case rel =>
            have e := HT.out
            have e2 := HE.out
            have e3 := Hq.out
            have e4 := Hr.out
            exact ⟨k + 1, by omega, by go_num, by omega, by rw [e]; congr 1; omega, B2.out⟩
          case measure => simp [intOf]; omega
        · rw [leftR_neg hfit]
          have HR : Hid (leftR (d.length + sizeS d) left = -1) := Lib.hid (leftR_neg (by
            have := HT.out; have := HTl.out; have := HE.out; have := Hq.out; omega))
          go_wp2
          go_ret
          exact ⟨ret_int' (by rw [HR.out]), B2.out⟩
      · have HR : Hid (leftR (d.length + sizeS d) left = left - (d.length + sizeS (d.take k) : Nat)) := Lib.hid (by
          rw [List.take_of_length_le (by omega)] at hle ⊢
          exact leftR_pos hle)
        go_wp2
        go_ret
        exact ⟨ret_int' (by rw [HR.out]), hbel⟩
  · have HR : Hid (leftR (d.length + sizeS d) left = -1) := Lib.hid (leftR_neg (by omega))
    have c1 : left - (d.length : Int) < 0 := by omega
    go_enter Try.func17, Try.ntmps17
    go_wp2
    go_ret
    exact ⟨ret_int' (by rw [HR.out]), Below.refl _ _⟩
end Go.Proofs.Ytglgkocjdockdaa
/- The helpers of the laws: copies of names, comparisons. -/
namespace Go.Proofs.Ytglgkocjdockdaa
open Go.RowKit
attribute [local go_sem ↓] Go.wp_at_zero Go.wp_at_succ

set_option maxHeartbeats 400000 in
theorem toRdn_any (A V : ByteArray) (w : World) :
    Calls Try.prog 74 #[.agg #[.string A, .string V]] w fun e w' => e = .returned (.agg #[.string A, .string V]) ∧ Below w.heap.size w w' := by
  go_enter Try.func74, Try.ntmps74
  go_wp2
  refine bodyPost_ret (v := .agg #[.string A, .string V]) (by simp [results, Try.results74, go_sem]) rfl ⟨rfl, ?_⟩
  exact more (more (more (Below.refl _ _) _) _) _
theorem make27 (n : Nat) (hn : n ≤ 1048576) (W : World) : ∃ C : Array Value, C.size = n * 2 ∧
    (Instr.makeSlice 32 (.int .i64 (n : Int)) (.int .i64 (n : Int))).run Try.prog W = .ok (.slice (some ⟨W.heap.size, 0, none⟩) n n) (W.alloc (.cells C 104)) := by
  obtain ⟨i0, hi, hz0, hz1, hz2⟩ := info_parts Try.info104
  have := run_make (P := Try.prog) W 32 104 i0 _ Try.underlying32 hi hz0 .i64 .i64 (n : Int) (n : Int) (by omega) (by omega) (by rw [hz2]; omega) (by omega)
  rw [hz1] at this
  refine ⟨madeCells (Value.agg #[.string ByteArray.empty, .string ByteArray.empty]).cells (n * 2), size_madeCells _ _, ?_⟩
  simpa using this
theorem take_set2 {C : Array Value} {k : Nat} {d : RdnL} {a b : Value} (hk : k * 2 + 1 < C.size) (hC : C.toList.take (k * 2) = rs d) (hl : d.length = k) :
    (((C.setIfInBounds (k * 2) a).setIfInBounds (k * 2 + 1) b).toList).take ((k + 1) * 2) = rs d ++ [a, b] := by
  have hL : (rs d).length = k * 2 := by rw [rs_length, hl]
  apply List.ext_getElem?
  intro i
  rw [List.getElem?_take]
  by_cases h1 : i < (k + 1) * 2
  · rw [if_pos h1, Array.getElem?_toList, Array.getElem?_setIfInBounds, Array.getElem?_setIfInBounds]
    by_cases h2 : i = k * 2 + 1
    · subst h2
      rw [if_pos rfl, if_pos (by simpa using hk), List.getElem?_append_right (by omega), hL]
      simp
    · rw [if_neg (fun e => h2 e.symm)]
      by_cases h3 : i = k * 2
      · subst h3
        rw [if_pos rfl, if_pos (by omega), List.getElem?_append_right (by omega), hL]
        simp
      · rw [if_neg (fun e => h3 e.symm), List.getElem?_append_left (by omega), ← hC, List.getElem?_take, if_pos (by omega), Array.getElem?_toList]
  · rw [if_neg h1, List.getElem?_eq_none (by simp; omega)]
/-- a block of pairs, the first k of them known -/
def RowTo (w : World) (g n : Nat) (d : RdnL) : Prop := ∃ C : Array Value, w.heap[g]? = some (.cells C 104 (0, 0)) ∧ C.size = n * 2 ∧ C.toList.take (d.length * 2) = rs d
theorem RowTo.at {w : World} {g n k : Nat} {d : RdnL} (h : RowTo w g n d) (hk : k < n) :
    (∃ x y, w.cell? ⟨g, k * 2, none⟩ = some x ∧ w.cell? ⟨g, k * 2 + 1, none⟩ = some y) ∧ w.frozen? ⟨g, k * 2, none⟩ = false ∧ w.frozen? ⟨g, k * 2 + 1, none⟩ = false := by
  obtain ⟨C, h1, h2, _⟩ := h
  refine ⟨⟨C[k * 2]'(by omega), C[k * 2 + 1]'(by omega), ?_, ?_⟩, ?_, ?_⟩
  · rw [cell_of_row w g _ C 104 (0, 0) h1]; exact Array.getElem?_eq_getElem (by omega)
  · rw [cell_of_row w g _ C 104 (0, 0) h1]; exact Array.getElem?_eq_getElem (by omega)
  · simp [World.frozen?, h1]
  · simp [World.frozen?, h1]
theorem RowTo.set {w : World} {g n k : Nat} {d : RdnL} (h : RowTo w g n d) (hl : d.length = k) (hk : k < n) (A V : ByteArray) :
    RowTo ((w.setCell ⟨g, k * 2, none⟩ (.string A)).setCell ⟨g, k * 2 + 1, none⟩ (.string V)) g n (d ++ [(A, V)]) := by
  obtain ⟨C, h1, h2, h3⟩ := h
  refine ⟨_, heap_set _ (heap_set _ h1), by simp [h2], ?_⟩
  rw [rs_append, List.length_append, hl]
  rw [hl] at h3
  exact take_set2 (by omega) h3 hl
theorem RowTo.below {w w' : World} {g n : Nat} {d : RdnL} (h : RowTo w g n d) (hb : Below w.heap.size w w') : RowTo w' g n d := by
  obtain ⟨C, h1, h2⟩ := h
  exact ⟨C, (hb.block g (Array.getElem?_eq_some_iff.1 h1).1).trans h1, h2⟩
theorem RowTo.own {w : World} {g B : Nat} {d : RdnL} (h : RowTo w g d.length d) (hB : B ≤ g) (hm : d.length ≤ 1048576) : w.ownsRow B 104 2 (.slice (some ⟨g, 0, none⟩) d.length d.length) d.length (rs d) := by
  obtain ⟨C, h1, h2, h3⟩ := h
  exact ⟨rs_length d, .inr ⟨g, d.length, C, rfl, hB, h1, Nat.le_refl _, by unfold maxLen; omega, h2, h3⟩⟩
/-- a copy of a name -/
def CopyDn (w : World) (d : RdnL) (e : Ending) (w' : World) : Prop := e = .returned (.slice (some ⟨w.heap.size, 0, none⟩) d.length d.length) ∧ w'.ownsRow w.heap.size 104 2 (.slice (some ⟨w.heap.size, 0, none⟩) d.length d.length) d.length (rs d) ∧ Below w.heap.size w w'
set_option maxRecDepth 100000 in
set_option maxHeartbeats 1000000 in
theorem toRdnS_any (ao : Option Addr) (d : RdnL) (cap : Nat) (w : World) (hd : DnAt w ao d) (hl : d.length ≤ 1048576) :
    Calls Try.prog 19 #[.slice ao d.length cap] w fun e w' => CopyDn w d e w' := by
  have HD := Lib.hid hd; clear hd
  obtain ⟨C, hC, hmk⟩ := make27 d.length hl w
  have HC := Lib.hid hC; clear hC
  go_enter Try.func19, Try.ntmps19
  go_wp2
  clear hmk
  go_loopw [4] (fun i wr => ∃ k : Nat, k ≤ d.length ∧ i = .int .i64 k ∧ RowTo wr w.heap.size d.length (d.take k) ∧ Below w.heap.size w wr) (fun i _ => d.length - (intOf i).toNat)
  case atStart => exact ⟨0, Nat.zero_le _, rfl, ⟨C, heap_alloc_new w _, HC.out, by simp [rs]⟩, (Below.refl _ _).alloc (Nat.le_refl _) _⟩
  case round =>
    obtain ⟨k, hk, rfl, hR, hbel⟩ := hrel
    have HR := Lib.hid hR; clear hR
    have hsz := hbel.size
    by_cases hlt : k < d.length
    · obtain ⟨b, off, rfl, hb0, hd1, hd2⟩ := HD.out.at hlt
      have hc1 := (hbel.cell (p := ⟨b, off + k * 2, none⟩) hb0).trans hd1
      have hc2 := (hbel.cell (p := ⟨b, off + k * 2 + 1, none⟩) hb0).trans hd2
      have HT : Hid (d.take (k + 1) = d.take k ++ [(d[k].1, d[k].2)]) := Lib.hid (List.take_succ_eq_append_getElem hlt)
      have hlk : (d.take k).length = k := by rw [List.length_take]; omega
      have HK := Lib.hid hlk
      clear hd1 hd2 hlk
      generalize d[k].1 = A at *
      generalize d[k].2 = V at *
      go_wp2_with fail
      refine (toRdn_any A V wr).mono ?_
      rintro e w2 ⟨rfl, hb2⟩
      have HR2 := Lib.hid (HR.out.below hb2)
      have B2 := Lib.hid (hbel.trans (hb2.mono hsz))
      clear hb2 hc1 hc2
      obtain ⟨⟨x, y, c0, c1⟩, f0, f1⟩ := HR2.out.at hlt
      go_wp2
      go_roundw
      case rel => exact ⟨k + 1, by omega, by go_num, by rw [HT.out]; exact HR2.out.set HK.out hlt A V, (B2.out.setCell (Nat.le_refl _) _).setCell (Nat.le_refl _) _⟩
      case measure => simp [intOf]; omega
    · have e : d.take k = d := List.take_of_length_le (by omega)
      rw [e] at HR
      clear e
      go_wp2
      go_ret
      exact ⟨rfl, HR.out.own (Nat.le_refl _) hl, hbel⟩
set_option maxHeartbeats 400000 in
theorem eqRdn_same (w0 : World) (A V : ByteArray) (w : World) (hB : Below w0.heap.size w0 w) :
    Calls Try.prog 77 #[.agg #[.string A, .string V], .agg #[.string A, .string V]] w fun e w' => e = .returned (.bool true) ∧ Below w0.heap.size w0 w' := by
  go_enter Try.func77, Try.ntmps77
  go_wp2
  go_ret
  exact ⟨rfl, more (more hB _) _⟩
set_option maxRecDepth 100000 in
set_option maxHeartbeats 1000000 in
theorem eqRdnS_same (ao bo : Option Addr) (d : RdnL) (ca cb : Nat) (w : World) (hda : DnAt w ao d) (hdb : DnAt w bo d) (hl : d.length ≤ 1048576) :
    Calls Try.prog 21 #[.slice ao d.length ca, .slice bo d.length cb] w fun e w' => e = .returned (.bool true) ∧ Below w.heap.size w w' := by
  have HA := Lib.hid hda; have HB := Lib.hid hdb; clear hda hdb
  go_enter Try.func21, Try.ntmps21
  go_wp2
  go_loopw [5] (fun i wr => ∃ k : Nat, k ≤ d.length ∧ i = .int .i64 k ∧ Below w.heap.size w wr) (fun i _ => d.length - (intOf i).toNat)
  case atStart => exact ⟨0, Nat.zero_le _, rfl, Below.refl _ _⟩
  case round =>
    obtain ⟨k, hk, rfl, hbel⟩ := hrel
    have hsz := hbel.size
    by_cases hlt : k < d.length
    · obtain ⟨p, off, rfl, hp0, hd1, hd2⟩ := HA.out.at hlt
      obtain ⟨q, off', rfl, hq0, he1, he2⟩ := HB.out.at hlt
      generalize d[k].1 = A at *
      generalize d[k].2 = V at *
      have SK : Hid (∀ W : World, Below w.heap.size w W → (Below w.heap.size w W ∧ W.cell? ⟨p, off + k * 2, none⟩ = some (.string A) ∧ W.cell? ⟨p, off + k * 2 + 1, none⟩ = some (.string V) ∧ W.cell? ⟨q, off' + k * 2, none⟩ = some (.string A) ∧ W.cell? ⟨q, off' + k * 2 + 1, none⟩ = some (.string V))) :=
        Lib.hid (fun W h => ⟨h, (h.cell (p := ⟨p, _, none⟩) hp0).trans hd1, (h.cell (p := ⟨p, _, none⟩) hp0).trans hd2, (h.cell (p := ⟨q, _, none⟩) hq0).trans he1, (h.cell (p := ⟨q, _, none⟩) hq0).trans he2⟩)
      have hbd := hbel.drew
      clear hd1 hd2 he1 he2
      have g1 : (0 : Int) ≤ (k : Int) := by omega
      have g2 : (k : Int) < (d.length : Int) := by omega
      go_wp2_with fail
      go_region_held3 (fun W => Below w.heap.size w W ∧ W.cell? ⟨p, off + k * 2, none⟩ = some (.string A) ∧ W.cell? ⟨p, off + k * 2 + 1, none⟩ = some (.string V) ∧ W.cell? ⟨q, off' + k * 2, none⟩ = some (.string A) ∧ W.cell? ⟨q, off' + k * 2 + 1, none⟩ = some (.string V))
        (exact SK.out _ (by assumption))
        (first | (go_at_call 77; refine (eqRdn_same w _ _ _ (by assumption)).mono ?_; rintro e w2 ⟨rfl, hb2⟩) | (fail "none"))
      all_goals
        go_wp2
        go_roundw
        case rel => exact ⟨k + 1, by omega, by go_num, hb2⟩
        case measure => simp [intOf]; omega
    · go_wp2
      go_ret
      exact ⟨rfl, hbel⟩
end Go.Proofs.Ytglgkocjdockdaa
/- Entries: names with attributes, and where they lie. -/
namespace Go.Proofs.Ytglgkocjdockdaa
open Go.RowKit

abbrev AttrV := ByteArray × List ByteArray
/-- texts lie behind a slice -/
def StrsAt (w : World) (ao : Option Addr) (l : List ByteArray) : Prop :=
  l = [] ∨ ∃ b off, ao = some ⟨b, off, none⟩ ∧ b < w.heap.size ∧ ∀ i (h : i < l.length), w.cell? ⟨b, off + i, none⟩ = some (.string l[i])
theorem StrsAt.below {w w' : World} {ao : Option Addr} {l : List ByteArray} (h : StrsAt w ao l) (hb : Below w.heap.size w w') : StrsAt w' ao l := by
  rcases h with h | ⟨b, off, h1, h2, h3⟩
  · exact .inl h
  · exact .inr ⟨b, off, h1, Nat.lt_of_lt_of_le h2 hb.size, fun i hi => (hb.cell (p := ⟨b, off + i, none⟩) h2).trans (h3 i hi)⟩
theorem StrsAt.at {w : World} {ao : Option Addr} {l : List ByteArray} (h : StrsAt w ao l) {k : Nat} (hk : k < l.length) :
    ∃ b off, ao = some ⟨b, off, none⟩ ∧ b < w.heap.size ∧ w.cell? ⟨b, off + k, none⟩ = some (.string l[k]) := by
  rcases h with h | ⟨b, off, h1, h2, h3⟩
  · subst h; simp at hk
  · exact ⟨b, off, h1, h2, h3 k hk⟩
/-- the texts of a slice, with its capacity -/
def ValsAt (w : World) (vo : Option Addr) (vc : Nat) (l : List ByteArray) : Prop := StrsAt w vo l ∧ l.length ≤ vc ∧ (vo = none → vc = 0)
theorem ValsAt.below {w w' : World} {vo : Option Addr} {vc : Nat} {l : List ByteArray} (h : ValsAt w vo vc l) (hb : Below w.heap.size w w') : ValsAt w' vo vc l := ⟨h.1.below hb, h.2⟩
/-- attributes lie behind a slice -/
def AttrsAt (w : World) (ao : Option Addr) (l : List AttrV) : Prop :=
  l = [] ∨ ∃ b off, ao = some ⟨b, off, none⟩ ∧ b < w.heap.size ∧ ∀ i (h : i < l.length), w.cell? ⟨b, off + i * 2, none⟩ = some (.string l[i].1) ∧
    ∃ vo vc, w.cell? ⟨b, off + i * 2 + 1, none⟩ = some (.slice vo l[i].2.length vc) ∧ ValsAt w vo vc l[i].2
theorem AttrsAt.below {w w' : World} {ao : Option Addr} {l : List AttrV} (h : AttrsAt w ao l) (hb : Below w.heap.size w w') : AttrsAt w' ao l := by
  rcases h with h | ⟨b, off, h1, h2, h3⟩
  · exact .inl h
  · refine .inr ⟨b, off, h1, Nat.lt_of_lt_of_le h2 hb.size, fun i hi => ?_⟩
    obtain ⟨g1, vo, vc, g2, g3⟩ := h3 i hi
    exact ⟨(hb.cell (p := ⟨b, off + i * 2, none⟩) h2).trans g1, vo, vc, (hb.cell (p := ⟨b, off + i * 2 + 1, none⟩) h2).trans g2, g3.below hb⟩
theorem AttrsAt.at {w : World} {ao : Option Addr} {l : List AttrV} (h : AttrsAt w ao l) {k : Nat} (hk : k < l.length) :
    ∃ b off vo vc, ao = some ⟨b, off, none⟩ ∧ b < w.heap.size ∧ w.cell? ⟨b, off + k * 2, none⟩ = some (.string l[k].1) ∧ w.cell? ⟨b, off + k * 2 + 1, none⟩ = some (.slice vo l[k].2.length vc) ∧ ValsAt w vo vc l[k].2 := by
  rcases h with h | ⟨b, off, h1, h2, h3⟩
  · subst h; simp at hk
  · obtain ⟨g1, vo, vc, g2, g3⟩ := h3 k hk
    exact ⟨b, off, vo, vc, h1, h2, g1, g2, g3⟩
/-- all its strings are strings of Go -/
def LongV (l : List ByteArray) : Prop := l.length ≤ 9223372036854775807 ∧ ∀ s ∈ l, s.size ≤ maxLen
def LongA (l : List AttrV) : Prop := l.length ≤ 9223372036854775807 ∧ ∀ a ∈ l, a.1.size ≤ maxLen ∧ LongV a.2
def FitsV (l : List ByteArray) : Prop := l.length ≤ 1048576 ∧ ∀ s ∈ l, s.size ≤ 1048576
def FitsA (l : List AttrV) : Prop := l.length ≤ 1048576 ∧ ∀ a ∈ l, a.1.size ≤ 1048576 ∧ FitsV a.2
def sizeV (l : List ByteArray) : Nat := (l.map (·.size)).sum
def sizeA (a : AttrV) : Nat := a.1.size + (a.2.length + sizeV a.2)
def sizeAs (l : List AttrV) : Nat := (l.map sizeA).sum
theorem sizeV_take (d : List ByteArray) (k : Nat) (h : k < d.length) : sizeV (d.take (k + 1)) = sizeV (d.take k) + d[k].size := by
  unfold sizeV; rw [List.take_succ_eq_append_getElem h, List.map_append, List.sum_append]; simp
theorem sizeV_le (d : List ByteArray) (k : Nat) : sizeV (d.take k) ≤ sizeV d := by
  have h := List.take_append_drop k d
  have : sizeV d = sizeV (d.take k) + sizeV (d.drop k) := by
    unfold sizeV; rw [← List.sum_append, ← List.map_append, h]
  omega
theorem sum_mem {l : List Nat} {x : Nat} (h : x ∈ l) : x ≤ l.sum := by
  induction l with
  | nil => simp at h
  | cons y l ih =>
    rw [List.sum_cons]
    rcases List.mem_cons.1 h with rfl | h
    · omega
    · have := ih h; omega
theorem sizeV_mem {l : List ByteArray} {s : ByteArray} (h : s ∈ l) : s.size ≤ sizeV l := sum_mem (List.mem_map_of_mem h)
theorem sizeAs_take (d : List AttrV) (k : Nat) (h : k < d.length) : sizeAs (d.take (k + 1)) = sizeAs (d.take k) + sizeA d[k] := by
  unfold sizeAs; rw [List.take_succ_eq_append_getElem h, List.map_append, List.sum_append]; simp
theorem sizeAs_le (d : List AttrV) (k : Nat) : sizeAs (d.take k) ≤ sizeAs d := by
  have h := List.take_append_drop k d
  have : sizeAs d = sizeAs (d.take k) + sizeAs (d.drop k) := by
    unfold sizeAs; rw [← List.sum_append, ← List.map_append, h]
  omega
theorem sizeAs_mem {l : List AttrV} {a : AttrV} (h : a ∈ l) : sizeA a ≤ sizeAs l := sum_mem (List.mem_map_of_mem h)
theorem fitsV_of {l : List ByteArray} (h : l.length + sizeV l ≤ 1048576) : FitsV l := ⟨by omega, fun s hs => by have := sizeV_mem hs; omega⟩
theorem fitsA_of {l : List AttrV} (h : l.length + sizeAs l ≤ 1048576) : FitsA l :=
  ⟨by omega, fun a ha => by
    have := sizeAs_mem ha
    unfold sizeA at this
    exact ⟨by omega, fitsV_of (by omega)⟩⟩
theorem FitsA.at {l : List AttrV} (h : FitsA l) {k : Nat} (hk : k < l.length) : l[k].1.size ≤ 1048576 ∧ FitsV l[k].2 := h.2 _ (List.getElem_mem hk)
theorem FitsV.at {l : List ByteArray} (h : FitsV l) {k : Nat} (hk : k < l.length) : l[k].size ≤ 1048576 := h.2 _ (List.getElem_mem hk)
theorem FitsV.long {l : List ByteArray} (h : FitsV l) : LongV l := ⟨by have := h.1; omega, fun s hs => by have := h.2 s hs; unfold maxLen; omega⟩
end Go.Proofs.Ytglgkocjdockdaa
/- The helpers of the laws: marks. -/
namespace Go.Proofs.Ytglgkocjdockdaa
open Go.RowKit
attribute [local go_sem ↓] Go.wp_at_zero Go.wp_at_succ

theorem toS_list (l : List UInt8) : (toS l).data.toList = l := by simp [toS]
theorem toS_size (l : List UInt8) : (toS l).size = l.length := by rw [← size_len, toS_list]
theorem one_str (W : World) (n : Nat) (hn : n < 256) :
    (convert 67 9 (.slice (some ⟨W.heap.size, 0, none⟩) 1 1)).run Try.prog (W.alloc (.cells #[.int .u8 (n : Int)] 5)) = .ok (.string ⟨#[UInt8.ofNat n]⟩) (W.alloc (.cells #[.int .u8 (n : Int)] 5)) := by
  refine str22 _ ⟨W.heap.size, 0, none⟩ 1 [UInt8.ofNat n] 1 rfl fun j hj => ?_
  match j, hj with
  | 0, _ =>
    rw [add_plain, World.cell?_alloc_mark]
    simp; omega
set_option maxRecDepth 100000 in
set_option maxHeartbeats 1000000 in
theorem markText_any (n : Nat) (w : World) (h0 : 0 < n) (hn : n ≤ 1000000000) :
    Calls Try.prog 88 #[.int .i64 n] w fun e w' => e = .returned (.string (mkT n)) ∧ Below w.heap.size w w' := by
  go_enter Try.func88, Try.ntmps88
  go_wp2
  go_loopw [0, 3] (fun t u wr => ∃ (f k : Nat) (o : List UInt8), k ≤ n ∧ t = .int .i64 k ∧ u = .string (toS o) ∧ digs 20 n [] = digs f k o ∧ k < 10 ^ f ∧ f ≤ 20 ∧ o.length + f ≤ 20 ∧ Below w.heap.size w wr) (fun t _ _ => (intOf t).toNat)
  case atStart => exact ⟨20, n, [], Nat.le_refl _, rfl, rfl, rfl, by omega, by omega, by simp, Below.refl _ _⟩
  case round =>
    obtain ⟨f, k, o, hk, rfl, rfl, hD, hf, hf2, ho, hbel⟩ := hrel
    have HD := Lib.hid hD; clear hD
    have hsz := hbel.size
    by_cases hk0 : 0 < k
    · obtain ⟨g, rfl⟩ : ∃ g, f = g + 1 := ⟨f - 1, by
        rcases f with _ | f
        · simp at hf; omega
        · simp⟩
      have HN : Hid (digs 20 n [] = digs g (k / 10) (UInt8.ofNat (48 + k % 10) :: o)) := Lib.hid (by rw [HD.out, digs, if_neg (by omega)])
      have HF : Hid (k / 10 < 10 ^ g) := Lib.hid (by rw [Nat.pow_succ] at hf; omega)
      have HC : Hid ((⟨#[UInt8.ofNat (48 + k % 10)]⟩ : ByteArray) ++ toS o = toS (UInt8.ofNat (48 + k % 10) :: o)) := Lib.hid (by apply ByteArray.ext; simp [toS])
      clear hf
      have hos : (toS o).size ≤ 20 := by rw [toS_size]; omega
      have hcv := one_str wr (48 + k % 10) (by omega)
      have hca := cat ⟨#[UInt8.ofNat (48 + k % 10)]⟩ (toS o) (by rw [sz1]; omega)
      have e1 : ((48 + k % 10 : Nat) : Int) = 48 + (k : Int) % 10 := by omega
      rw [e1] at hcv
      clear e1
      generalize UInt8.ofNat (48 + k % 10) = c at *
      go_wp2
      refine ⟨⟨g, k / 10, c :: o, by omega, by go_num, by rw [HC.out], HN.out, HF.out, by omega, by simp only [List.length_cons]; omega, more hbel _⟩, ?_⟩
      simp [intOf]; omega
    · have HE : Hid (⟨#[109]⟩ ++ toS o = mkT n) := Lib.hid (by
        have e : k = 0 := by omega
        subst e
        have : digs f 0 o = o := by cases f <;> simp [digs]
        unfold mkT mkL
        rw [HD.out, this]
        apply ByteArray.ext; simp [toS])
      have hos : (toS o).size ≤ 20 := by rw [toS_size]; omega
      have hca := cat ⟨#[109]⟩ (toS o) (by rw [sz1]; omega)
      go_wp2
      go_ret
      exact ⟨ret_str HE.out, hbel⟩
/-- n pairs of marks, from k on -/
def marks : Nat → Nat → RdnL
  | _, 0 => []
  | k, n + 1 => marks k n ++ [(mkT (k + 2 * n), mkT (k + 2 * n + 1))]
theorem marks_len (k n : Nat) : (marks k n).length = n := by
  induction n with
  | zero => rfl
  | succ n ih => rw [marks, List.length_append, ih]; rfl
theorem marks_get (k n i : Nat) (h : i < n) (h' : i < (marks k n).length) : (marks k n)[i] = (mkT (k + 2 * i), mkT (k + 2 * i + 1)) := by
  induction n with
  | zero => omega
  | succ n ih =>
    have hl := marks_len k n
    simp only [marks]
    by_cases e : i < n
    · rw [List.getElem_append_left (by omega)]; exact ih e (by omega)
    · have : i = n := by omega
      subst this
      rw [List.getElem_append_right (by omega)]
      simp [hl]
/-- a block of pairs, the first k marked, the rest as they were -/
def MarkTo (w : World) (g n k j : Nat) : Prop := ∃ C : Array Value, w.heap[g]? = some (.cells C 104 (0, 0)) ∧ C.size = n * 2 ∧ C.toList.take (j * 2) = rs (marks k j)
theorem MarkTo.below {w w' : World} {g n k j : Nat} (h : MarkTo w g n k j) (hb : Below w.heap.size w w') : MarkTo w' g n k j := by
  obtain ⟨C, h1, h2⟩ := h
  exact ⟨C, (hb.block g (Array.getElem?_eq_some_iff.1 h1).1).trans h1, h2⟩
end Go.Proofs.Ytglgkocjdockdaa
/- The helpers of the laws: marks laid into a name, and found there again. -/
namespace Go.Proofs.Ytglgkocjdockdaa
open Go.RowKit
attribute [local go_sem ↓] Go.wp_at_zero Go.wp_at_succ

theorem grown_of {a b : World} (h : Below a.heap.size a b) (row : Option Nat) : a.grownBy b row := ⟨h.os, h.tape, h.output, h.size, fun k hk _ => h.block k hk⟩
theorem grown_tr {a b c : World} {r : Option Nat} (h : a.grownBy b r) (g : b.grownBy c r) : a.grownBy c r :=
  ⟨g.os.trans h.os, g.tape.trans h.tape, g.output.trans h.output, Nat.le_trans h.size g.size, fun k hk hne => (g.block k (Nat.lt_of_lt_of_le hk h.size) hne).trans (h.block k hk hne)⟩
theorem markText_from (w0 : World) (n : Nat) (w : World) (h0 : 0 < n) (hn : n ≤ 1000000000) (hB : Below w0.heap.size w0 w) :
    Calls Try.prog 88 #[.int .i64 n] w fun e w' => e = .returned (.string (mkT n)) ∧ Below w0.heap.size w0 w' :=
  (markText_any n w h0 hn).mono fun _ _ ⟨he, hb⟩ => ⟨he, hB.trans (hb.mono hB.size)⟩
end Go.Proofs.Ytglgkocjdockdaa
/- AttrOf: the program's copies of texts, and its map of attributes by their names. -/
namespace Go.Proofs.Ytglgkocjdockdaa
open Go.RowKit
attribute [local go_sem ↓] Go.wp_at_zero Go.wp_at_succ

theorem concat_copy (a : ByteArray) (w : World) (h : a.size ≤ 10000000) :
    Calls Try.prog 111 #[.slice (some ⟨w.heap.size, 0, none⟩) 1 1] (w.alloc (.cells #[.string a] 9)) fun e w' => e = .returned (.string a) ∧ Below w.heap.size w w' := by
  have := concat_any w.heap.size 0 1 [a] (w.alloc (.cells #[.string a] 9)) (by simp) (by simp) (by simp [joinL]; omega) (fun i hi => by
    match i, hi with
    | 0, _ => simp)
  rw [joinS_one] at this
  exact this.mono fun e w' ⟨he, hb⟩ => ⟨he, ((Below.refl _ _).alloc (Nat.le_refl _) _).trans (hb.mono (by simp))⟩
theorem take_snoc' {α : Type} (l : List α) (k : Nat) (h : k < l.length) : l.take (k + 1) = l.take k ++ [l[k]] := List.take_succ_eq_append_getElem h
set_option maxRecDepth 100000 in
set_option maxHeartbeats 1000000 in
theorem copyTexts_any (vo : Option Addr) (V : List ByteArray) (vc : Nat) (w : World) (hd : StrsAt w vo V) (hf : FitsV V) :
    Calls Try.prog 103 #[.slice vo V.length vc] w fun e w' => (∃ v, e = .returned v ∧ w'.ownsRow w.heap.size 9 1 v V.length (ss V)) ∧ Below w.heap.size w w' := by
  have hl := hf.1
  have HD := Lib.hid hd; have HF := Lib.hid hf; clear hd hf
  go_enter Try.func103, Try.ntmps103
  go_wp2_with fail
  go_loopw [3, 8] (fun v i wr => ∃ k : Nat, k ≤ V.length ∧ i = .int .i64 k ∧ wr.ownsRow w.heap.size 9 1 v (V.take k).length (ss (V.take k)) ∧ Below w.heap.size w wr) (fun _ i _ => V.length - (intOf i).toNat)
  case atStart => exact ⟨0, Nat.zero_le _, rfl, ⟨rfl, .inl ⟨rfl, rfl⟩⟩, Below.refl _ _⟩
  case round =>
    obtain ⟨k, hk, rfl, hown, hbel⟩ := hrel
    have hsz := hbel.size
    by_cases hlt : k < V.length
    · obtain ⟨p, off, rfl, hp0, hd1⟩ := HD.out.at hlt
      have hz := HF.out.at hlt
      have c1 := (hbel.cell (p := ⟨p, off + k, none⟩) hp0).trans hd1
      have HN := Lib.hid (take_snoc' V k hlt)
      have HL : Hid ((V.take k).length ≤ 1000000000) := Lib.hid (by simp; omega)
      have g1 : (0 : Int) ≤ (k : Int) := by omega
      have g2 : (k : Int) < (V.length : Int) := by omega
      clear hd1
      generalize V[k] = x at *
      generalize V.take k = pre at *
      go_wp2_with (first
        | (go_at_call 111; refine (concat_copy x wr (by omega)).mono ?_; rintro e w3 ⟨rfl, hb3⟩; have O3 := own_below hown hb3; have L3 := Nat.le_trans hsz hb3.size; have B3 := hbel.trans (hb3.mono hsz); clear hb3)
        | (at_builtin; refine append_str w.heap.size rfl _ _ rfl _ pre rfl O3 _ rfl HL.out L3 B3 ?_; intro v4 w4 hown4 hbel4 hsz4 _ _)
        | (fail "none"))
      go_roundw
      case rel => exact ⟨k + 1, by omega, by go_num, by rw [HN.out]; exact hown4, hbel4⟩
      case measure => simp [intOf]; omega
    · obtain rfl : k = V.length := by omega
      have HO : Hid (wr.ownsRow w.heap.size 9 1 u3 V.length (ss V)) := Lib.hid (by have h := hown; rw [List.take_length] at h; exact h)
      clear hown
      go_wp2
      go_ret
      exact ⟨⟨_, rfl, HO.out⟩, hbel⟩

end Go.Proofs.Ytglgkocjdockdaa
/- The types of the laws: their shapes. -/
namespace Go.Proofs.Ytglgkocjdockdaa
open Go.RowKit

theorem str_row {S : Bs} {w : World} {l : List ByteArray} {ao : Option Addr} {n cap k : Nat} (h : SlAt strE S w l (.slice ao n cap)) (hk : k < l.length) :
    ∃ (b off : Nat) (a0 : ByteArray), ao = some ⟨b, off, none⟩ ∧ S b ∧ b < w.heap.size ∧ l[k] = a0 ∧ w.cell? ⟨b, off + k, none⟩ = some (.string a0) := by
  obtain ⟨b, off, cs, e1, e2, e3, hc, ha⟩ := h.row hk
  have ha' : cs = [.string l[k]] := ha
  subst ha'
  have h0 := hc 0 (by simp)
  refine ⟨b, off, l[k], e1, e2, e3, rfl, ?_⟩
  have : off + k * strE.n + 0 = off + k := by show off + k * 1 + 0 = off + k; omega
  rw [this] at h0
  exact h0
theorem txt_own {S : Bs} {w : World} {x : ByteArray} {cs : List Value} (h : strE.Own S w x cs) : ∃ a0 : ByteArray, x = a0 ∧ cs = [.string a0] := ⟨x, rfl, h⟩
abbrev RdnT := ByteArray × ByteArray
abbrev rdnE : Enc (ByteArray × ByteArray) := pairE strE strE
theorem rdn_row {S : Bs} {w : World} {l : List RdnT} {ao : Option Addr} {n cap k : Nat} (h : SlAt rdnE S w l (.slice ao n cap)) (hk : k < l.length) :
    ∃ (b off : Nat) (a0 : ByteArray) (a1 : ByteArray) , ao = some ⟨b, off, none⟩ ∧ S b ∧ b < w.heap.size ∧ l[k] = (a0, a1) ∧ (w.cell? ⟨b, off + k * 2, none⟩ = some (.string a0) ∧ w.cell? ⟨b, off + k * 2 + 1, none⟩ = some (.string a1)) ∧ True := by
  obtain ⟨b, off, cs, e1, e2, e3, hc, ha⟩ := h.row hk
  rcases hx : l[k] with ⟨a0, a1⟩
  rw [hx] at ha
  obtain ⟨c1, d1, rfl, f1, r1⟩ := at_pair ha
  have g2 : _ = [Value.string a0] := f1
  subst g2
  have g3 : _ = [Value.string a1] := r1
  subst g3
  exact ⟨b, off, a0, a1, e1, e2, e3, rfl, ⟨hc 0 (by simp), hc 1 (by simp)⟩, trivial⟩
theorem rdn_atq {S : Bs} {w : World} {x : RdnT} {cs : List Value} (ha : rdnE.At S w x cs) : ∃ (a0 : ByteArray) (a1 : ByteArray) , x = (a0, a1) ∧ cs = [.string a0, .string a1] ∧ True := by
  rcases x with ⟨a0, a1⟩
  obtain ⟨c4, d4, rfl, f4, r4⟩ := at_pair ha
  have g5 : _ = [Value.string a0] := f4
  subst g5
  have g6 : _ = [Value.string a1] := r4
  subst g6
  exact ⟨a0, a1, rfl, by simp, trivial⟩
theorem rdn_own {S : Bs} {w : World} {x : RdnT} {cs : List Value} (h : rdnE.Own S w x cs) :
    ∃ (a0 : ByteArray) (a1 : ByteArray)  , x = (a0, a1) ∧ cs = [.string a0, .string a1] ∧ True := by
  rcases x with ⟨a0, a1⟩
  obtain ⟨c7, d7, A7, B7, rfl, f7, r7, i7, j7, x7⟩ := own_pair h
  have g8 : _ = [Value.string a0] := f7
  subst g8
  have g9 : _ = [Value.string a1] := r7
  subst g9
  exact ⟨a0, a1, rfl, by simp, trivial⟩
theorem rdn_pack {S : Bs} {w : World} (a0 : ByteArray) (a1 : ByteArray)   (h : True) :
    rdnE.Own S w (a0, a1) [.string a0, .string a1] := by
  obtain ⟨_⟩ := h
  exact (pair_own Nil Nil (own_str a0) (own_str a1) (fun _ z => z.elim) (fun _ z => z.elim) (fun _ z y => (by first | exact z.elim | exact y.elim)))
abbrev AttrT := ByteArray × (List ByteArray)
abbrev attrE : Enc (ByteArray × (List ByteArray)) := pairE strE (slE strE)
theorem attr_row {S : Bs} {w : World} {l : List AttrT} {ao : Option Addr} {n cap k : Nat} (h : SlAt attrE S w l (.slice ao n cap)) (hk : k < l.length) :
    ∃ (b off : Nat) (a0 : ByteArray) (a1 : (List ByteArray)) (v1 : Value), ao = some ⟨b, off, none⟩ ∧ S b ∧ b < w.heap.size ∧ l[k] = (a0, a1) ∧ (w.cell? ⟨b, off + k * 2, none⟩ = some (.string a0) ∧ w.cell? ⟨b, off + k * 2 + 1, none⟩ = some (v1)) ∧ SlAt strE S w a1 v1 ∧ True := by
  obtain ⟨b, off, cs, e1, e2, e3, hc, ha⟩ := h.row hk
  rcases hx : l[k] with ⟨a0, a1⟩
  rw [hx] at ha
  obtain ⟨c10, d10, rfl, f10, r10⟩ := at_pair ha
  have g11 : _ = [Value.string a0] := f10
  subst g11
  obtain ⟨v1, rfl, q1⟩ := r10
  exact ⟨b, off, a0, a1, v1, e1, e2, e3, rfl, ⟨hc 0 (by simp), hc 1 (by simp)⟩, q1, trivial⟩
theorem attr_atq {S : Bs} {w : World} {x : AttrT} {cs : List Value} (ha : attrE.At S w x cs) : ∃ (a0 : ByteArray) (a1 : (List ByteArray)) (v1 : Value), x = (a0, a1) ∧ cs = [.string a0, v1] ∧ SlAt strE S w a1 v1 ∧ True := by
  rcases x with ⟨a0, a1⟩
  obtain ⟨c12, d12, rfl, f12, r12⟩ := at_pair ha
  have g13 : _ = [Value.string a0] := f12
  subst g13
  obtain ⟨v1, rfl, q1⟩ := r12
  exact ⟨a0, a1, v1, rfl, by simp, q1, trivial⟩
theorem attr_atp {S : Bs} {w : World} {a0 : ByteArray} {a1 : (List ByteArray)} {v1 : Value} (h : attrE.At S w (a0, a1) [.string a0, v1]) : SlAt strE S w a1 v1 := by
  have h2 := h
  obtain ⟨l, hl⟩ : ∃ l : List Value, l = [.string a0, v1] := ⟨_, rfl⟩
  rw [← hl] at h2
  obtain ⟨c14, d14, rfl, f14, r14⟩ := at_pair h2
  have g15 : _ = [Value.string a0] := f14
  subst g15
  obtain ⟨y1, rfl, q1⟩ := r14
  simp only [List.cons_append, List.nil_append, List.cons.injEq] at hl
  obtain ⟨k0, k1, _⟩ := hl
  subst k1
  exact q1
theorem attr_own {S : Bs} {w : World} {x : AttrT} {cs : List Value} (h : attrE.Own S w x cs) :
    ∃ (a0 : ByteArray) (a1 : (List ByteArray)) (v1 : Value) (S1 : Bs), x = (a0, a1) ∧ cs = [.string a0, v1] ∧ SlOwn strE S1 w a1 v1 ∧ (∀ k, S1 k → S k) ∧ True := by
  rcases x with ⟨a0, a1⟩
  obtain ⟨c16, d16, A16, B16, rfl, f16, r16, i16, j16, x16⟩ := own_pair h
  have g17 : _ = [Value.string a0] := f16
  subst g17
  obtain ⟨v1, rfl, q1⟩ := r16
  obtain ⟨S1, hS1⟩ : ∃ X : Bs, X = B16 := ⟨_, rfl⟩
  rw [← hS1] at q1
  exact ⟨a0, a1, v1, S1, rfl, by simp, q1, fun k z => (j16 k (hS1 ▸ z)), trivial⟩
theorem attr_pack {S : Bs} {w : World} (a0 : ByteArray) (a1 : (List ByteArray)) (v1 : Value) (S1 : Bs) (h : SlOwn strE S1 w a1 v1 ∧ (∀ k, S1 k → S k) ∧ True) :
    attrE.Own S w (a0, a1) [.string a0, v1] := by
  obtain ⟨q1, u1, _⟩ := h
  exact (pair_own Nil S1 (own_str a0) (own_sl q1) (fun _ z => z.elim) (u1) (fun _ z y => (by first | exact z.elim | exact y.elim)))
theorem attr_sl {S : Bs} {w : World} {x : AttrT} {cs : List Value} (h : attrE.Own S w x cs) {a0 : ByteArray} {v1 : Value} (hc : cs = [.string a0, v1]) : (∃ p l j, v1 = .slice p l j) := by
  obtain ⟨y0, y1, z1, Z1, e1, e2, qs⟩ := attr_own h
  subst e2
  simp only [List.cons.injEq] at hc
  obtain ⟨k0, k1, _⟩ := hc
  subst k1
  exact (by obtain ⟨o, c, e⟩ := qs.1.at.sl; exact ⟨o, _, c, e⟩)
abbrev EntryT := (List RdnT) × (List AttrT)
abbrev entryE : Enc ((List RdnT) × (List AttrT)) := pairE (slE rdnE) (slE attrE)
theorem entry_row {S : Bs} {w : World} {l : List EntryT} {ao : Option Addr} {n cap k : Nat} (h : SlAt entryE S w l (.slice ao n cap)) (hk : k < l.length) :
    ∃ (b off : Nat) (a0 : (List RdnT)) (a1 : (List AttrT)) (v0 v1 : Value), ao = some ⟨b, off, none⟩ ∧ S b ∧ b < w.heap.size ∧ l[k] = (a0, a1) ∧ (w.cell? ⟨b, off + k * 2, none⟩ = some (v0) ∧ w.cell? ⟨b, off + k * 2 + 1, none⟩ = some (v1)) ∧ SlAt rdnE S w a0 v0 ∧ SlAt attrE S w a1 v1 ∧ True := by
  obtain ⟨b, off, cs, e1, e2, e3, hc, ha⟩ := h.row hk
  rcases hx : l[k] with ⟨a0, a1⟩
  rw [hx] at ha
  obtain ⟨c18, d18, rfl, f18, r18⟩ := at_pair ha
  obtain ⟨v0, rfl, q0⟩ := f18
  obtain ⟨v1, rfl, q1⟩ := r18
  exact ⟨b, off, a0, a1, v0, v1, e1, e2, e3, rfl, ⟨hc 0 (by simp), hc 1 (by simp)⟩, q0, q1, trivial⟩
theorem entry_atq {S : Bs} {w : World} {x : EntryT} {cs : List Value} (ha : entryE.At S w x cs) : ∃ (a0 : (List RdnT)) (a1 : (List AttrT)) (v0 v1 : Value), x = (a0, a1) ∧ cs = [v0, v1] ∧ SlAt rdnE S w a0 v0 ∧ SlAt attrE S w a1 v1 ∧ True := by
  rcases x with ⟨a0, a1⟩
  obtain ⟨c19, d19, rfl, f19, r19⟩ := at_pair ha
  obtain ⟨v0, rfl, q0⟩ := f19
  obtain ⟨v1, rfl, q1⟩ := r19
  exact ⟨a0, a1, v0, v1, rfl, by simp, q0, q1, trivial⟩
theorem entry_atp {S : Bs} {w : World} {a0 : (List RdnT)} {a1 : (List AttrT)} {v0 v1 : Value} (h : entryE.At S w (a0, a1) [v0, v1]) : SlAt rdnE S w a0 v0 ∧ SlAt attrE S w a1 v1 := by
  have h2 := h
  obtain ⟨l, hl⟩ : ∃ l : List Value, l = [v0, v1] := ⟨_, rfl⟩
  rw [← hl] at h2
  obtain ⟨c20, d20, rfl, f20, r20⟩ := at_pair h2
  obtain ⟨y0, rfl, q0⟩ := f20
  obtain ⟨y1, rfl, q1⟩ := r20
  simp only [List.cons_append, List.nil_append, List.cons.injEq] at hl
  obtain ⟨k0, k1, _⟩ := hl
  subst k0 k1
  exact ⟨q0, q1⟩
theorem entry_own {S : Bs} {w : World} {x : EntryT} {cs : List Value} (h : entryE.Own S w x cs) :
    ∃ (a0 : (List RdnT)) (a1 : (List AttrT)) (v0 v1 : Value) (S0 S1 : Bs), x = (a0, a1) ∧ cs = [v0, v1] ∧ SlOwn rdnE S0 w a0 v0 ∧ (∀ k, S0 k → S k) ∧ SlOwn attrE S1 w a1 v1 ∧ (∀ k, S1 k → S k) ∧ (∀ k, S0 k → ¬ S1 k) ∧ True := by
  rcases x with ⟨a0, a1⟩
  obtain ⟨c21, d21, A21, B21, rfl, f21, r21, i21, j21, x21⟩ := own_pair h
  obtain ⟨v0, rfl, q0⟩ := f21
  obtain ⟨S0, hS0⟩ : ∃ X : Bs, X = A21 := ⟨_, rfl⟩
  rw [← hS0] at q0
  obtain ⟨v1, rfl, q1⟩ := r21
  obtain ⟨S1, hS1⟩ : ∃ X : Bs, X = B21 := ⟨_, rfl⟩
  rw [← hS1] at q1
  exact ⟨a0, a1, v0, v1, S0, S1, rfl, by simp, q0, fun k z => (i21 k (hS0 ▸ z)), q1, fun k z => (j21 k (hS1 ▸ z)), fun k z1 z2 => x21 k (hS0 ▸ z1) (hS1 ▸ z2), trivial⟩
theorem entry_pack {S : Bs} {w : World} (a0 : (List RdnT)) (a1 : (List AttrT)) (v0 v1 : Value) (S0 S1 : Bs) (h : SlOwn rdnE S0 w a0 v0 ∧ (∀ k, S0 k → S k) ∧ SlOwn attrE S1 w a1 v1 ∧ (∀ k, S1 k → S k) ∧ (∀ k, S0 k → ¬ S1 k) ∧ True) :
    entryE.Own S w (a0, a1) [v0, v1] := by
  obtain ⟨q0, u0, q1, u1, d0_1, _⟩ := h
  exact (pair_own S0 S1 (own_sl q0) (own_sl q1) (u0) (u1) (fun k z y => by first | exact d0_1 k z y))
theorem entry_sl {S : Bs} {w : World} {x : EntryT} {cs : List Value} (h : entryE.Own S w x cs)  {v0 v1 : Value} (hc : cs = [v0, v1]) : (∃ p l j, v0 = .slice p l j) ∧ (∃ p l j, v1 = .slice p l j) := by
  obtain ⟨y0, y1, z0, z1, Z0, Z1, e1, e2, qs⟩ := entry_own h
  subst e2
  simp only [List.cons.injEq] at hc
  obtain ⟨k0, k1, _⟩ := hc
  subst k0 k1
  exact ⟨(by obtain ⟨o, c, e⟩ := qs.1.at.sl; exact ⟨o, _, c, e⟩), (by obtain ⟨o, c, e⟩ := qs.2.2.1.at.sl; exact ⟨o, _, c, e⟩)⟩
abbrev EntryOutT := EntryT × Int
abbrev entryOutE : Enc (EntryT × Int) := pairE entryE intE
theorem entryOut_row {S : Bs} {w : World} {l : List EntryOutT} {ao : Option Addr} {n cap k : Nat} (h : SlAt entryOutE S w l (.slice ao n cap)) (hk : k < l.length) :
    ∃ (b off : Nat) (a0 : (List RdnT)) (a1 : (List AttrT)) (a2 : Int) (v0 v1 : Value), ao = some ⟨b, off, none⟩ ∧ S b ∧ b < w.heap.size ∧ l[k] = ((a0, a1), a2) ∧ (w.cell? ⟨b, off + k * 3, none⟩ = some (v0) ∧ w.cell? ⟨b, off + k * 3 + 1, none⟩ = some (v1) ∧ w.cell? ⟨b, off + k * 3 + 2, none⟩ = some (.int .i64 a2)) ∧ SlAt rdnE S w a0 v0 ∧ SlAt attrE S w a1 v1 ∧ True := by
  obtain ⟨b, off, cs, e1, e2, e3, hc, ha⟩ := h.row hk
  rcases hx : l[k] with ⟨⟨a0, a1⟩, a2⟩
  rw [hx] at ha
  obtain ⟨c22, d22, rfl, f22, r22⟩ := at_pair ha
  obtain ⟨c23, d23, rfl, f23, r23⟩ := at_pair f22
  obtain ⟨v0, rfl, q0⟩ := f23
  obtain ⟨v1, rfl, q1⟩ := r23
  have g24 : _ = [Value.int .i64 a2] := r22
  subst g24
  exact ⟨b, off, a0, a1, a2, v0, v1, e1, e2, e3, rfl, ⟨hc 0 (by simp), hc 1 (by simp), hc 2 (by simp)⟩, q0, q1, trivial⟩
theorem entryOut_atq {S : Bs} {w : World} {x : EntryOutT} {cs : List Value} (ha : entryOutE.At S w x cs) : ∃ (a0 : (List RdnT)) (a1 : (List AttrT)) (a2 : Int) (v0 v1 : Value), x = ((a0, a1), a2) ∧ cs = [v0, v1, .int .i64 a2] ∧ SlAt rdnE S w a0 v0 ∧ SlAt attrE S w a1 v1 ∧ True := by
  rcases x with ⟨⟨a0, a1⟩, a2⟩
  obtain ⟨c25, d25, rfl, f25, r25⟩ := at_pair ha
  obtain ⟨c26, d26, rfl, f26, r26⟩ := at_pair f25
  obtain ⟨v0, rfl, q0⟩ := f26
  obtain ⟨v1, rfl, q1⟩ := r26
  have g27 : _ = [Value.int .i64 a2] := r25
  subst g27
  exact ⟨a0, a1, a2, v0, v1, rfl, by simp, q0, q1, trivial⟩
theorem entryOut_atp {S : Bs} {w : World} {a0 : (List RdnT)} {a1 : (List AttrT)} {a2 : Int} {v0 v1 : Value} (h : entryOutE.At S w ((a0, a1), a2) [v0, v1, .int .i64 a2]) : SlAt rdnE S w a0 v0 ∧ SlAt attrE S w a1 v1 := by
  have h2 := h
  obtain ⟨l, hl⟩ : ∃ l : List Value, l = [v0, v1, .int .i64 a2] := ⟨_, rfl⟩
  rw [← hl] at h2
  obtain ⟨c28, d28, rfl, f28, r28⟩ := at_pair h2
  obtain ⟨c29, d29, rfl, f29, r29⟩ := at_pair f28
  obtain ⟨y0, rfl, q0⟩ := f29
  obtain ⟨y1, rfl, q1⟩ := r29
  have g30 : _ = [Value.int .i64 a2] := r28
  subst g30
  simp only [List.cons_append, List.nil_append, List.cons.injEq] at hl
  obtain ⟨k0, k1, k2, _⟩ := hl
  subst k0 k1
  exact ⟨q0, q1⟩
theorem entryOut_own {S : Bs} {w : World} {x : EntryOutT} {cs : List Value} (h : entryOutE.Own S w x cs) :
    ∃ (a0 : (List RdnT)) (a1 : (List AttrT)) (a2 : Int) (v0 v1 : Value) (S0 S1 : Bs), x = ((a0, a1), a2) ∧ cs = [v0, v1, .int .i64 a2] ∧ SlOwn rdnE S0 w a0 v0 ∧ (∀ k, S0 k → S k) ∧ SlOwn attrE S1 w a1 v1 ∧ (∀ k, S1 k → S k) ∧ (∀ k, S0 k → ¬ S1 k) ∧ True := by
  rcases x with ⟨⟨a0, a1⟩, a2⟩
  obtain ⟨c31, d31, A31, B31, rfl, f31, r31, i31, j31, x31⟩ := own_pair h
  obtain ⟨c32, d32, A32, B32, rfl, f32, r32, i32, j32, x32⟩ := own_pair f31
  obtain ⟨v0, rfl, q0⟩ := f32
  obtain ⟨S0, hS0⟩ : ∃ X : Bs, X = A32 := ⟨_, rfl⟩
  rw [← hS0] at q0
  obtain ⟨v1, rfl, q1⟩ := r32
  obtain ⟨S1, hS1⟩ : ∃ X : Bs, X = B32 := ⟨_, rfl⟩
  rw [← hS1] at q1
  have g33 : _ = [Value.int .i64 a2] := r31
  subst g33
  exact ⟨a0, a1, a2, v0, v1, S0, S1, rfl, by simp, q0, fun k z => (i31 k (i32 k (hS0 ▸ z))), q1, fun k z => (i31 k (j32 k (hS1 ▸ z))), fun k z1 z2 => x32 k (hS0 ▸ z1) (hS1 ▸ z2), trivial⟩
theorem entryOut_pack {S : Bs} {w : World} (a0 : (List RdnT)) (a1 : (List AttrT)) (a2 : Int) (v0 v1 : Value) (S0 S1 : Bs) (h : SlOwn rdnE S0 w a0 v0 ∧ (∀ k, S0 k → S k) ∧ SlOwn attrE S1 w a1 v1 ∧ (∀ k, S1 k → S k) ∧ (∀ k, S0 k → ¬ S1 k) ∧ True) :
    entryOutE.Own S w ((a0, a1), a2) [v0, v1, .int .i64 a2] := by
  obtain ⟨q0, u0, q1, u1, d0_1, _⟩ := h
  exact (pair_own (fun k => S0 k ∨ S1 k) Nil ((pair_own S0 S1 (own_sl q0) (own_sl q1) (fun k z => by simp [z]) (fun k z => by simp [z]) (fun k z y => by first | exact d0_1 k z y))) (own_int a2) (fun k z => by rcases z with z | z <;> first | exact u0 k z | exact u1 k z) (fun _ z => z.elim) (fun _ z y => (by first | exact z.elim | exact y.elim)))
theorem entryOut_sl {S : Bs} {w : World} {x : EntryOutT} {cs : List Value} (h : entryOutE.Own S w x cs) {a2 : Int} {v0 v1 : Value} (hc : cs = [v0, v1, .int .i64 a2]) : (∃ p l j, v0 = .slice p l j) ∧ (∃ p l j, v1 = .slice p l j) := by
  obtain ⟨y0, y1, y2, z0, z1, Z0, Z1, e1, e2, qs⟩ := entryOut_own h
  subst e2
  simp only [List.cons.injEq] at hc
  obtain ⟨k0, k1, k2, _⟩ := hc
  subst k0 k1
  exact ⟨(by obtain ⟨o, c, e⟩ := qs.1.at.sl; exact ⟨o, _, c, e⟩), (by obtain ⟨o, c, e⟩ := qs.2.2.1.at.sl; exact ⟨o, _, c, e⟩)⟩
abbrev RuleT := ByteArray × (List RdnT) × (List ByteArray) × Int × Bool
abbrev ruleE3 : Enc (Int × Bool) := pairE intE boolE
abbrev ruleE2 : Enc ((List ByteArray) × Int × Bool) := pairE (slE strE) ruleE3
abbrev ruleE1 : Enc ((List RdnT) × (List ByteArray) × Int × Bool) := pairE (slE rdnE) ruleE2
abbrev ruleE : Enc (ByteArray × (List RdnT) × (List ByteArray) × Int × Bool) := pairE strE ruleE1
theorem rule_row {S : Bs} {w : World} {l : List RuleT} {ao : Option Addr} {n cap k : Nat} (h : SlAt ruleE S w l (.slice ao n cap)) (hk : k < l.length) :
    ∃ (b off : Nat) (a0 : ByteArray) (a1 : (List RdnT)) (a2 : (List ByteArray)) (a3 : Int) (a4 : Bool) (v1 v2 : Value), ao = some ⟨b, off, none⟩ ∧ S b ∧ b < w.heap.size ∧ l[k] = (a0, a1, a2, a3, a4) ∧ (w.cell? ⟨b, off + k * 5, none⟩ = some (.string a0) ∧ w.cell? ⟨b, off + k * 5 + 1, none⟩ = some (v1) ∧ w.cell? ⟨b, off + k * 5 + 2, none⟩ = some (v2) ∧ w.cell? ⟨b, off + k * 5 + 3, none⟩ = some (.int .i64 a3) ∧ w.cell? ⟨b, off + k * 5 + 4, none⟩ = some (.bool a4)) ∧ SlAt rdnE S w a1 v1 ∧ SlAt strE S w a2 v2 ∧ True := by
  obtain ⟨b, off, cs, e1, e2, e3, hc, ha⟩ := h.row hk
  rcases hx : l[k] with ⟨a0, a1, a2, a3, a4⟩
  rw [hx] at ha
  obtain ⟨c34, d34, rfl, f34, r34⟩ := at_pair ha
  have g35 : _ = [Value.string a0] := f34
  subst g35
  obtain ⟨c36, d36, rfl, f36, r36⟩ := at_pair r34
  obtain ⟨v1, rfl, q1⟩ := f36
  obtain ⟨c37, d37, rfl, f37, r37⟩ := at_pair r36
  obtain ⟨v2, rfl, q2⟩ := f37
  obtain ⟨c38, d38, rfl, f38, r38⟩ := at_pair r37
  have g39 : _ = [Value.int .i64 a3] := f38
  subst g39
  have g40 : _ = [Value.bool a4] := r38
  subst g40
  exact ⟨b, off, a0, a1, a2, a3, a4, v1, v2, e1, e2, e3, rfl, ⟨hc 0 (by simp), hc 1 (by simp), hc 2 (by simp), hc 3 (by simp), hc 4 (by simp)⟩, q1, q2, trivial⟩
theorem rule_atq {S : Bs} {w : World} {x : RuleT} {cs : List Value} (ha : ruleE.At S w x cs) : ∃ (a0 : ByteArray) (a1 : (List RdnT)) (a2 : (List ByteArray)) (a3 : Int) (a4 : Bool) (v1 v2 : Value), x = (a0, a1, a2, a3, a4) ∧ cs = [.string a0, v1, v2, .int .i64 a3, .bool a4] ∧ SlAt rdnE S w a1 v1 ∧ SlAt strE S w a2 v2 ∧ True := by
  rcases x with ⟨a0, a1, a2, a3, a4⟩
  obtain ⟨c41, d41, rfl, f41, r41⟩ := at_pair ha
  have g42 : _ = [Value.string a0] := f41
  subst g42
  obtain ⟨c43, d43, rfl, f43, r43⟩ := at_pair r41
  obtain ⟨v1, rfl, q1⟩ := f43
  obtain ⟨c44, d44, rfl, f44, r44⟩ := at_pair r43
  obtain ⟨v2, rfl, q2⟩ := f44
  obtain ⟨c45, d45, rfl, f45, r45⟩ := at_pair r44
  have g46 : _ = [Value.int .i64 a3] := f45
  subst g46
  have g47 : _ = [Value.bool a4] := r45
  subst g47
  exact ⟨a0, a1, a2, a3, a4, v1, v2, rfl, by simp, q1, q2, trivial⟩
theorem rule_atp {S : Bs} {w : World} {a0 : ByteArray} {a1 : (List RdnT)} {a2 : (List ByteArray)} {a3 : Int} {a4 : Bool} {v1 v2 : Value} (h : ruleE.At S w (a0, a1, a2, a3, a4) [.string a0, v1, v2, .int .i64 a3, .bool a4]) : SlAt rdnE S w a1 v1 ∧ SlAt strE S w a2 v2 := by
  have h2 := h
  obtain ⟨l, hl⟩ : ∃ l : List Value, l = [.string a0, v1, v2, .int .i64 a3, .bool a4] := ⟨_, rfl⟩
  rw [← hl] at h2
  obtain ⟨c48, d48, rfl, f48, r48⟩ := at_pair h2
  have g49 : _ = [Value.string a0] := f48
  subst g49
  obtain ⟨c50, d50, rfl, f50, r50⟩ := at_pair r48
  obtain ⟨y1, rfl, q1⟩ := f50
  obtain ⟨c51, d51, rfl, f51, r51⟩ := at_pair r50
  obtain ⟨y2, rfl, q2⟩ := f51
  obtain ⟨c52, d52, rfl, f52, r52⟩ := at_pair r51
  have g53 : _ = [Value.int .i64 a3] := f52
  subst g53
  have g54 : _ = [Value.bool a4] := r52
  subst g54
  simp only [List.cons_append, List.nil_append, List.cons.injEq] at hl
  obtain ⟨k0, k1, k2, k3, k4, _⟩ := hl
  subst k1 k2
  exact ⟨q1, q2⟩
theorem rule_own {S : Bs} {w : World} {x : RuleT} {cs : List Value} (h : ruleE.Own S w x cs) :
    ∃ (a0 : ByteArray) (a1 : (List RdnT)) (a2 : (List ByteArray)) (a3 : Int) (a4 : Bool) (v1 v2 : Value) (S1 S2 : Bs), x = (a0, a1, a2, a3, a4) ∧ cs = [.string a0, v1, v2, .int .i64 a3, .bool a4] ∧ SlOwn rdnE S1 w a1 v1 ∧ (∀ k, S1 k → S k) ∧ SlOwn strE S2 w a2 v2 ∧ (∀ k, S2 k → S k) ∧ (∀ k, S1 k → ¬ S2 k) ∧ True := by
  rcases x with ⟨a0, a1, a2, a3, a4⟩
  obtain ⟨c55, d55, A55, B55, rfl, f55, r55, i55, j55, x55⟩ := own_pair h
  have g56 : _ = [Value.string a0] := f55
  subst g56
  obtain ⟨c57, d57, A57, B57, rfl, f57, r57, i57, j57, x57⟩ := own_pair r55
  obtain ⟨v1, rfl, q1⟩ := f57
  obtain ⟨S1, hS1⟩ : ∃ X : Bs, X = A57 := ⟨_, rfl⟩
  rw [← hS1] at q1
  obtain ⟨c58, d58, A58, B58, rfl, f58, r58, i58, j58, x58⟩ := own_pair r57
  obtain ⟨v2, rfl, q2⟩ := f58
  obtain ⟨S2, hS2⟩ : ∃ X : Bs, X = A58 := ⟨_, rfl⟩
  rw [← hS2] at q2
  obtain ⟨c59, d59, A59, B59, rfl, f59, r59, i59, j59, x59⟩ := own_pair r58
  have g60 : _ = [Value.int .i64 a3] := f59
  subst g60
  have g61 : _ = [Value.bool a4] := r59
  subst g61
  exact ⟨a0, a1, a2, a3, a4, v1, v2, S1, S2, rfl, by simp, q1, fun k z => (j55 k (i57 k (hS1 ▸ z))), q2, fun k z => (j55 k (j57 k (i58 k (hS2 ▸ z)))), fun k z1 z2 => x57 k (hS1 ▸ z1) (i58 k (hS2 ▸ z2)), trivial⟩
theorem rule_pack {S : Bs} {w : World} (a0 : ByteArray) (a1 : (List RdnT)) (a2 : (List ByteArray)) (a3 : Int) (a4 : Bool) (v1 v2 : Value) (S1 S2 : Bs) (h : SlOwn rdnE S1 w a1 v1 ∧ (∀ k, S1 k → S k) ∧ SlOwn strE S2 w a2 v2 ∧ (∀ k, S2 k → S k) ∧ (∀ k, S1 k → ¬ S2 k) ∧ True) :
    ruleE.Own S w (a0, a1, a2, a3, a4) [.string a0, v1, v2, .int .i64 a3, .bool a4] := by
  obtain ⟨q1, u1, q2, u2, d1_2, _⟩ := h
  exact (pair_own Nil (fun k => S1 k ∨ S2 k) (own_str a0) ((pair_own S1 S2 (own_sl q1) ((pair_own S2 Nil (own_sl q2) ((pair_own Nil Nil (own_int a3) (own_bool a4) (fun _ z => z.elim) (fun _ z => z.elim) (fun _ z y => (by first | exact z.elim | exact y.elim)))) (fun _ z => z) (fun _ z => z.elim) (fun _ z y => (by first | exact z.elim | exact y.elim)))) (fun k z => by simp [z]) (fun k z => by simp [z]) (fun k z y => by first | exact d1_2 k z y))) (fun _ z => z.elim) (fun k z => by rcases z with z | z <;> first | exact u1 k z | exact u2 k z) (fun _ z y => (by first | exact z.elim | exact y.elim)))
theorem rule_sl {S : Bs} {w : World} {x : RuleT} {cs : List Value} (h : ruleE.Own S w x cs) {a0 : ByteArray} {a3 : Int} {a4 : Bool} {v1 v2 : Value} (hc : cs = [.string a0, v1, v2, .int .i64 a3, .bool a4]) : (∃ p l j, v1 = .slice p l j) ∧ (∃ p l j, v2 = .slice p l j) := by
  obtain ⟨y0, y1, y2, y3, y4, z1, z2, Z1, Z2, e1, e2, qs⟩ := rule_own h
  subst e2
  simp only [List.cons.injEq] at hc
  obtain ⟨k0, k1, k2, k3, k4, _⟩ := hc
  subst k1 k2
  exact ⟨(by obtain ⟨o, c, e⟩ := qs.1.at.sl; exact ⟨o, _, c, e⟩), (by obtain ⟨o, c, e⟩ := qs.2.2.1.at.sl; exact ⟨o, _, c, e⟩)⟩
end Go.Proofs.Ytglgkocjdockdaa
/- The shapes of the types, as the earlier texts say them. -/
namespace Go.Proofs.Ytglgkocjdockdaa
open Go.RowKit

theorem strs_of {S : Bs} {w : World} {l : List ByteArray} {ao : Option Addr} {n cap : Nat} (h : SlAt strE S w l (.slice ao n cap)) : StrsAt w ao l := by
  by_cases h0 : l = []
  · exact .inl h0
  have hl : 0 < l.length := List.length_pos_iff.2 h0
  obtain ⟨b, off, a0, e, _, hb, _, _⟩ := str_row h hl
  subst e
  refine .inr ⟨b, off, rfl, hb, fun i hi => ?_⟩
  obtain ⟨b', off', a0, e, _, _, hx, hc⟩ := str_row h hi
  cases e
  rw [hx]; exact hc
theorem dn_of {S : Bs} {w : World} {l : RdnL} {ao : Option Addr} {n cap : Nat} (h : SlAt rdnE S w l (.slice ao n cap)) : DnAt w ao l := by
  by_cases h0 : l = []
  · exact .inl h0
  have hl : 0 < l.length := List.length_pos_iff.2 h0
  obtain ⟨b, off, a0, a1, e, _, hb, _, _⟩ := rdn_row h hl
  subst e
  refine .inr ⟨b, off, rfl, hb, fun i hi => ?_⟩
  obtain ⟨b', off', a0, a1, e, _, _, hx, hc, _⟩ := rdn_row h hi
  cases e
  rw [hx]; exact hc
theorem SlAt.cap {α : Type} {e : Enc α} {S : Bs} {w : World} {l : List α} {ao : Option Addr} {n cap : Nat} (h : SlAt e S w l (.slice ao n cap)) : n = l.length ∧ l.length ≤ cap ∧ (ao = none → cap = 0) := by
  obtain ⟨ao', cap', e1, h2, h3, _⟩ := h
  injection e1 with e1 e2 e3
  subst e1 e3
  exact ⟨e2, h2, h3⟩
theorem attrs_of {S : Bs} {w : World} {l : List AttrV} {ao : Option Addr} {n cap : Nat} (h : SlAt attrE S w l (.slice ao n cap)) : AttrsAt w ao l := by
  by_cases h0 : l = []
  · exact .inl h0
  have hl : 0 < l.length := List.length_pos_iff.2 h0
  obtain ⟨b, off, a0, a1, v1, e, _, hb, _, _⟩ := attr_row h hl
  subst e
  refine .inr ⟨b, off, rfl, hb, fun i hi => ?_⟩
  obtain ⟨b', off', a0, a1, v1, e, _, _, hx, hc, hs, _⟩ := attr_row h hi
  cases e
  rw [hx]
  obtain ⟨o, c, rfl⟩ := hs.sl
  obtain ⟨q1, q2, q3⟩ := hs.cap
  exact ⟨hc.1, o, c, hc.2, strs_of hs, q2, q3⟩
theorem szL_str (l : List ByteArray) : szL strE l = sizeV l := rfl
theorem fits_dn {l : RdnL} (h : l.length + szL rdnE l ≤ 1048576) : Fits l := ⟨by omega, fun r hr => by
  have h1 : rdnE.sz r ≤ szL rdnE l := szL_mem rdnE hr
  have h2 : rdnE.sz r = r.1.size + r.2.size := rfl
  omega⟩
theorem fits_str {l : List ByteArray} (h : l.length + szL strE l ≤ 1048576) : FitsV l := fitsV_of (by rw [szL_str] at h; exact h)
theorem fits_attrs {l : List AttrV} (h : l.length + szL attrE l ≤ 1048576) : FitsA l := ⟨by omega, fun r hr => by
  have h1 : attrE.sz r ≤ szL attrE l := szL_mem attrE hr
  have h2 : attrE.sz r = r.1.size + (r.2.length + szL strE r.2) := rfl
  exact ⟨by omega, fits_str (by omega)⟩⟩
end Go.Proofs.Ytglgkocjdockdaa
/- Classes: a name and three lists of names, and where they lie. -/
namespace Go.Proofs.Ytglgkocjdockdaa
open Go.RowKit

structure ClassV where
  nm : ByteArray
  must : List ByteArray
  may : List ByteArray
  one : List ByteArray
/-- a slice's value that holds texts -/
def SlV (w : World) (v : Value) (l : List ByteArray) : Prop := ∃ vo vc, v = .slice vo l.length vc ∧ ValsAt w vo vc l
theorem SlV.below {w w' : World} {v : Value} {l : List ByteArray} (h : SlV w v l) (hb : Below w.heap.size w w') : SlV w' v l := by
  obtain ⟨vo, vc, h1, h2⟩ := h
  exact ⟨vo, vc, h1, h2.below hb⟩
/-- the four cells of a class -/
structure ClsAt (w : World) (b off : Nat) (c : ClassV) (v1 v2 v3 : Value) : Prop where
  c0 : w.cell? ⟨b, off, none⟩ = some (.string c.nm)
  c1 : w.cell? ⟨b, off + 1, none⟩ = some v1
  c2 : w.cell? ⟨b, off + 2, none⟩ = some v2
  c3 : w.cell? ⟨b, off + 3, none⟩ = some v3
  s1 : SlV w v1 c.must
  s2 : SlV w v2 c.may
  s3 : SlV w v3 c.one
theorem ClsAt.below {w w' : World} {b off : Nat} {c : ClassV} {v1 v2 v3 : Value} (h : ClsAt w b off c v1 v2 v3) (hl : b < w.heap.size) (hb : Below w.heap.size w w') : ClsAt w' b off c v1 v2 v3 :=
  ⟨(hb.cell (p := ⟨b, off, none⟩) hl).trans h.c0, (hb.cell (p := ⟨b, off + 1, none⟩) hl).trans h.c1, (hb.cell (p := ⟨b, off + 2, none⟩) hl).trans h.c2, (hb.cell (p := ⟨b, off + 3, none⟩) hl).trans h.c3, h.s1.below hb, h.s2.below hb, h.s3.below hb⟩
/-- classes lie behind a slice -/
def ClassesAt (w : World) (ao : Option Addr) (l : List ClassV) : Prop :=
  l = [] ∨ ∃ b off, ao = some ⟨b, off, none⟩ ∧ b < w.heap.size ∧ ∀ i (h : i < l.length), ∃ v1 v2 v3, ClsAt w b (off + i * 4) l[i] v1 v2 v3
theorem ClassesAt.below {w w' : World} {ao : Option Addr} {l : List ClassV} (h : ClassesAt w ao l) (hb : Below w.heap.size w w') : ClassesAt w' ao l := by
  rcases h with h | ⟨b, off, h1, h2, h3⟩
  · exact .inl h
  · refine .inr ⟨b, off, h1, Nat.lt_of_lt_of_le h2 hb.size, fun i hi => ?_⟩
    obtain ⟨v1, v2, v3, g⟩ := h3 i hi
    exact ⟨v1, v2, v3, g.below h2 hb⟩
theorem ClassesAt.at {w : World} {ao : Option Addr} {l : List ClassV} (h : ClassesAt w ao l) {k : Nat} (hk : k < l.length) :
    ∃ b off v1 v2 v3, ao = some ⟨b, off, none⟩ ∧ b < w.heap.size ∧ ClsAt w b (off + k * 4) l[k] v1 v2 v3 := by
  rcases h with h | ⟨b, off, h1, h2, h3⟩
  · subst h; simp at hk
  · obtain ⟨v1, v2, v3, g⟩ := h3 k hk
    exact ⟨b, off, v1, v2, v3, h1, h2, g⟩
def LongC (l : List ClassV) : Prop := l.length ≤ 9223372036854775807 ∧ ∀ c ∈ l, c.nm.size ≤ maxLen ∧ LongV c.must ∧ LongV c.may ∧ LongV c.one
structure FitsC1 (c : ClassV) : Prop where
  nm : c.nm.size ≤ 1048576
  must : FitsV c.must
  may : FitsV c.may
  one : FitsV c.one
def FitsC (l : List ClassV) : Prop := l.length ≤ 1048576 ∧ ∀ c ∈ l, FitsC1 c
theorem FitsC.at {l : List ClassV} (h : FitsC l) {k : Nat} (hk : k < l.length) : FitsC1 l[k] := h.2 _ (List.getElem_mem hk)
def szV (l : List ByteArray) : Nat := l.length + sizeV l
def sizeC (c : ClassV) : Nat := c.nm.size + (szV c.must + (szV c.may + szV c.one))
def sizeCs (l : List ClassV) : Nat := (l.map sizeC).sum
theorem sizeCs_take (d : List ClassV) (k : Nat) (h : k < d.length) : sizeCs (d.take (k + 1)) = sizeCs (d.take k) + sizeC d[k] := by
  unfold sizeCs; rw [List.take_succ_eq_append_getElem h, List.map_append, List.sum_append]; simp
theorem sizeCs_le (d : List ClassV) (k : Nat) : sizeCs (d.take k) ≤ sizeCs d := by
  have h := List.take_append_drop k d
  have : sizeCs d = sizeCs (d.take k) + sizeCs (d.drop k) := by
    unfold sizeCs; rw [← List.sum_append, ← List.map_append, h]
  omega
theorem sizeCs_mem {l : List ClassV} {a : ClassV} (h : a ∈ l) : sizeC a ≤ sizeCs l := sum_mem (List.mem_map_of_mem h)
theorem fitsC_of {l : List ClassV} (h : l.length + sizeCs l ≤ 1048576) : FitsC l :=
  ⟨by omega, fun a ha => by
    have := sizeCs_mem ha
    unfold sizeC szV at this
    exact ⟨by omega, fitsV_of (by omega), fitsV_of (by omega), fitsV_of (by omega)⟩⟩
end Go.Proofs.Ytglgkocjdockdaa
/- EntryRight: the order of texts; the values of an attribute. -/
namespace Go.Proofs
open Go.Shelf
def Try.lays106_ren : Go.Shelf.Ren := ⟨fun | 106 => 114 | 213 => 141 | 265 => 161 | n => n, fun | 9 => 9 | 3 => 3 | n => n, fun | n => n⟩
theorem Try.lays106 : Go.Proofs.Lays.n106 Try.prog Try.lays106_ren := {
  mixed := by kernel_rfl
  f106 := Try.func114.trans (congrArg some (by kernel_rfl))
  f213 := Try.func141.trans (congrArg some (by kernel_rfl))
  f265 := Try.func161.trans (congrArg some (by kernel_rfl))
  t3 := Try.underlying3
  a3 := Try.isAgg3
  z3 := Try.sizeOf3
  v3 := Try.zeroValue3
  t9 := Try.underlying9
  a9 := Try.isAgg9
  z9 := Try.sizeOf9
  v9 := Try.zeroValue9 }
open Go.RowKit in
theorem Try.strings_Compare (a b : ByteArray) (w : World) :
    Calls Try.prog 114 #[.string a, .string b] w fun e w' => e = .returned (.int .i64 (Lib.compareBytes a.data.toList b.data.toList)) ∧ w' = w := Any.strings_Compare Try.lays106 a b w
namespace Ytglgkocjdockdaa
open Go.RowKit
attribute [local go_sem ↓] Go.wp_at_zero Go.wp_at_succ

theorem compare_less : ∀ (a b : List UInt8), decide (0 ≤ Lib.compareBytes a b) = !(Op.bytesLess a b)
  | [], [] => rfl
  | [], _ :: _ => rfl
  | _ :: _, [] => rfl
  | a :: xs, b :: ys => by
    unfold Lib.compareBytes Op.bytesLess
    have ih := compare_less xs ys
    by_cases h1 : a < b
    · simp [h1]
    · by_cases h2 : b < a
      · have h3 : a ≠ b := by rintro rfl; exact h1 h2
        simp [h1, h2, h3]
      · have h3 : a = b := UInt8.le_antisymm (UInt8.not_lt.1 h2) (UInt8.not_lt.1 h1)
        subst h3
        simp [h1, ih]
/-- a list each of whose elements is less than the next -/
noncomputable def incB {α : Type} (lt : α → α → Bool) (l : List α) : Bool := @decide (∀ i (h : i + 1 < l.length), lt l[i] l[i + 1] = true) (Classical.propDecidable _)
theorem incB_yes {α : Type} {lt : α → α → Bool} {l : List α} (h : ∀ i (h : i + 1 < l.length), lt l[i] l[i + 1] = true) : incB lt l = true := @decide_eq_true _ (Classical.propDecidable _) h
theorem incB_no {α : Type} {lt : α → α → Bool} {l : List α} {k : Nat} (hk : k + 1 < l.length) (h : lt l[k] l[k + 1] = false) : incB lt l = false :=
  @decide_eq_false _ (Classical.propDecidable _) (fun g => by have := g k hk; rw [h] at this; cases this)
def normLt (x y : ByteArray) : Bool := Op.bytesLess (normS x).toList (normS y).toList
def nameLt (a b : AttrV) : Bool := Op.bytesLess a.1.toList b.1.toList
noncomputable def valsB (l : List ByteArray) : Bool := decide (1 ≤ l.length) && decide (l.length ≤ 4) && l.all valB && incB normLt l
noncomputable def attrB (a : AttrV) : Bool := nmL a.1 && valsB a.2
noncomputable def attrsB (l : List AttrV) : Bool := decide (l.length ≤ 8) && l.all attrB && incB nameLt l
noncomputable def rightB (d : RdnL) (l : List AttrV) : Bool := dnB d && decide (0 < d.length) && attrsB l
set_option maxHeartbeats 1000000 in
theorem compareNorms_any (w0 : World) (a b : ByteArray) (w : World) (ha : a.size ≤ maxLen) (hb : b.size ≤ maxLen) (hB : Below w0.heap.size w0 w) :
    Calls Try.prog 166 #[.string a, .string b] w fun e w' => (∃ c : Int, e = .returned (.int .i64 c) ∧ decide (0 ≤ c) = !(normLt a b)) ∧ Below w0.heap.size w0 w' := by
  have HC : Hid (decide (0 ≤ Lib.compareBytes (normS a).data.toList (normS b).data.toList) = !(normLt a b)) := Lib.hid (by rw [compare_less]; unfold normLt; rw [Lib.toList_data, Lib.toList_data])
  have hbd := hB.drew
  have HN : Hid (∀ (s : ByteArray) W, s.size ≤ maxLen → Below w0.heap.size w0 W → Calls Try.prog 182 #[.string s] W fun e w' => e = .returned (.string (normS s)) ∧ Below w0.heap.size w0 w') :=
    Lib.hid (fun s W hs h => (Norm_any s W hs).mono fun _ _ g => ⟨g.1, h.trans (g.2.mono h.size)⟩)
  go_enter Try.func166, Try.ntmps166
  go_wp2_with (first
    | (go_at_call 182; refine (HN.out _ _ ha hB).mono ?_; rintro e w1 ⟨rfl, hb1⟩; clear hB hbd)
    | (go_at_call 182; refine (HN.out _ _ hb hb1).mono ?_; rintro e w2 ⟨rfl, hb2⟩; clear hb1)
    | (go_at_call 114; refine (Try.strings_Compare _ _ _).mono ?_; rintro e w3 ⟨rfl, rfl⟩)
    | (fail "none"))
  go_ret
  exact ⟨⟨_, rfl, HC.out⟩, hb2⟩
theorem FitsV.max {l : List ByteArray} (h : FitsV l) {k : Nat} (hk : k < l.length) : l[k].size ≤ maxLen := by have := h.at hk; unfold maxLen; omega
set_option maxRecDepth 100000 in
set_option maxHeartbeats 1000000 in
theorem areProper_any (ao : Option Addr) (l : List ByteArray) (cap : Nat) (w : World) (hd : StrsAt w ao l) (hf : FitsV l) :
    Calls Try.prog 165 #[.slice ao l.length cap] w fun e w' => e = .returned (.bool (l.all valB)) ∧ Below w.heap.size w w' := by
  have hl := hf.1
  have HD := Lib.hid hd; have HF := Lib.hid hf; clear hd hf
  go_enter Try.func165, Try.ntmps165
  go_wp2
  go_loopw [7] (fun i wr => ∃ k : Nat, k ≤ l.length ∧ i = .int .i64 k ∧ (l.take k).all valB = true ∧ Below w.heap.size w wr) (fun i _ => l.length - (intOf i).toNat)
  case atStart => exact ⟨0, Nat.zero_le _, rfl, rfl, Below.refl _ _⟩
  case round =>
    obtain ⟨k, hk, rfl, ha, hbel⟩ := hrel
    have Ha := Lib.hid ha; clear ha
    have hsz := hbel.size
    by_cases hlt : k < l.length
    · obtain ⟨b, off, rfl, hb0, hc1⟩ := (HD.out.below hbel).at hlt
      have hz := HF.out.max hlt
      generalize hr : valB l[k] = r at *
      have HR := Lib.hid hr; clear hr
      cases r
      · have HX := Lib.hid (all_bad valB l k hlt HR.out)
        go_wp2_with (first | (go_at_call 162; refine (isProperValue_any _ _ hz).mono ?_; rintro e w1 ⟨rfl, hb1⟩; rw [HR.out]) | (fail "none"))
        go_ret
        exact ⟨ret_bool (by rw [HX.out]), hbel.trans (hb1.mono hsz)⟩
      · have HT : Hid ((l.take (k + 1)).all valB = true) := Lib.hid (by rw [all_take valB l k hlt, Ha.out, HR.out]; rfl)
        go_wp2_with (first | (go_at_call 162; refine (isProperValue_any _ _ hz).mono ?_; rintro e w1 ⟨rfl, hb1⟩; rw [HR.out]) | (fail "none"))
        go_roundw
        case rel => exact ⟨k + 1, by omega, by go_num, HT.out, hbel.trans (hb1.mono hsz)⟩
        case measure => simp [intOf]; omega
    · have e : l.take k = l := List.take_of_length_le (by omega)
      have HT : Hid (l.all valB = true) := Lib.hid (by rw [← e]; exact Ha.out)
      clear e
      go_wp2
      go_ret
      exact ⟨ret_bool (by rw [HT.out]), hbel⟩
set_option maxRecDepth 100000 in
set_option maxHeartbeats 1000000 in
theorem incStr_any (ao : Option Addr) (l : List ByteArray) (cap : Nat) (w : World) (hd : StrsAt w ao l) (hf : FitsV l) :
    Calls Try.prog 142 #[.slice ao l.length cap, .func (.func 166) #[] #[]] w fun e w' => e = .returned (.bool (incB normLt l)) ∧ Below w.heap.size w w' := by
  have hl := hf.1
  have HD := Lib.hid hd; have HF := Lib.hid hf; clear hd hf
  go_enter Try.func142, Try.ntmps142
  go_wp2
  go_loopw [5] (fun i wr => ∃ m : Nat, m ≤ l.length ∧ i = .int .i64 ((m : Int) + 1) ∧ (∀ j (h : j + 1 < l.length), j < m → normLt l[j] l[j + 1] = true) ∧ Below w.heap.size w wr) (fun i _ => l.length + 1 - (intOf i).toNat)
  case atStart => exact ⟨0, Nat.zero_le _, rfl, fun j _ h => absurd h (Nat.not_lt_zero _), Below.refl _ _⟩
  case round =>
    obtain ⟨m, hm, rfl, ha, hbel⟩ := hrel
    have Ha := Lib.hid ha; clear ha
    have hsz := hbel.size
    by_cases hlt : m + 1 < l.length
    · have hm0 : m < l.length := by omega
      obtain ⟨b, off, rfl, hw0, hd1⟩ := HD.out.at hm0
      obtain ⟨b', off', e, _, hd2⟩ := HD.out.at hlt
      cases e
      have hc1 := (hbel.cell (p := ⟨b, off + m, none⟩) hw0).trans hd1
      have hc2 := (hbel.cell (p := ⟨b, off + (m + 1), none⟩) hw0).trans hd2
      have hz1 := HF.out.max hm0
      have hz2 := HF.out.max hlt
      have g1 : (m : Int) + 1 < (l.length : Int) := by omega
      have g2 : (0 : Int) ≤ (m : Int) := by omega
      have g3 : (m : Int) < (l.length : Int) := by omega
      have g4 : (0 : Int) ≤ (m : Int) + 1 := by omega
      have HN : Hid (∀ j (h : j + 1 < l.length), j < m + 1 → normLt l[m] l[m + 1] = true → normLt l[j] l[j + 1] = true) := Lib.hid (fun j h hj hn => by
        by_cases e : j = m
        · subst e; exact hn
        · exact Ha.out j h (by omega))
      have HX : Hid (normLt l[m] l[m + 1] = false → incB normLt l = false) := Lib.hid (fun h => incB_no hlt h)
      generalize hx : l[m] = X at *
      generalize hy : l[m + 1] = Y at *
      clear hx hy
      have SK : Hid (∀ W : World, Below w.heap.size w W → (Below w.heap.size w W ∧ W.cell? ⟨b, off + m, none⟩ = some (.string X) ∧ W.cell? ⟨b, off + (m + 1), none⟩ = some (.string Y))) :=
        Lib.hid (fun W h => ⟨h, (h.cell (p := ⟨b, _, none⟩) hw0).trans hd1, (h.cell (p := ⟨b, _, none⟩) hw0).trans hd2⟩)
      have hbd := hbel.drew
      have hwr : IntKind.i64.wrap (m : Int) = (m : Int) := IntWalk.i64_in _ (by omega)
      have hwr2 : IntKind.i64.wrap ((m : Int) + 1 - 1) = (m : Int) := by rw [Int.add_sub_cancel]; exact hwr
      clear hc1 hc2 hd1 hd2
      cases hn : normLt X Y
      · have HX' := Lib.hid (HX.out hn)
        go_wp2_with fail
        go_region_held3 (fun W => Below w.heap.size w W ∧ W.cell? ⟨b, off + m, none⟩ = some (.string X) ∧ W.cell? ⟨b, off + (m + 1), none⟩ = some (.string Y))
          (exact SK.out _ (by assumption))
          (first | (go_at_call 166; refine (compareNorms_any w X Y _ hz1 hz2 (by assumption)).mono ?_; rintro e w1 ⟨⟨c, rfl, hc⟩, hb1⟩; rw [hn] at hc; have hc0 : 0 ≤ c := (by simpa using hc); clear hc) | (fail "none"))
        all_goals
          go_wp2
          go_ret
          exact ⟨ret_bool (by rw [HX'.out]), hb1⟩
      · go_wp2_with fail
        go_region_held3 (fun W => Below w.heap.size w W ∧ W.cell? ⟨b, off + m, none⟩ = some (.string X) ∧ W.cell? ⟨b, off + (m + 1), none⟩ = some (.string Y))
          (exact SK.out _ (by assumption))
          (first | (go_at_call 166; refine (compareNorms_any w X Y _ hz1 hz2 (by assumption)).mono ?_; rintro e w1 ⟨⟨c, rfl, hc⟩, hb1⟩; rw [hn] at hc; have hc0 : ¬ 0 ≤ c := (by simpa using hc); clear hc) | (fail "none"))
        all_goals
          go_wp2
          go_roundw
          case rel => exact ⟨m + 1, by omega, by go_num, fun j h hj => HN.out j h hj hn, hb1⟩
          case measure => simp [intOf]; omega
    · have HT : Hid (incB normLt l = true) := Lib.hid (incB_yes fun j h => Ha.out j h (by omega))
      have g1 : ¬ (m : Int) + 1 < (l.length : Int) := by omega
      go_wp2
      go_ret
      exact ⟨ret_bool (by rw [HT.out]), hbel⟩
set_option maxRecDepth 100000 in
set_option maxHeartbeats 1000000 in
theorem attrRight_any (A : ByteArray) (vo : Option Addr) (l : List ByteArray) (vc : Nat) (w : World) (hA : A.size ≤ maxLen) (hd : StrsAt w vo l) (hf : FitsV l) :
    Calls Try.prog 148 #[.agg #[.string A, .slice vo l.length vc]] w fun e w' => e = .returned (.bool (attrB (A, l))) ∧ Below w.heap.size w w' := by
  have hl := hf.1
  have HD := Lib.hid hd; have HF := Lib.hid hf; clear hd hf
  have HB0 : Hid (Below w.heap.size w (w.alloc (.cells #[.string A, .slice vo l.length vc] 83))) := Lib.hid (more (Below.refl _ _) _)
  have HE : Hid (attrB (A, l) = (nmL A && (decide (1 ≤ l.length) && decide (l.length ≤ 4) && l.all valB && incB normLt l))) := Lib.hid rfl
  by_cases h1 : l.length < 1
  · have g1 : (l.length : Int) < 1 := by omega
    go_enter Try.func148, Try.ntmps148
    go_wp2
    go_ret
    exact ⟨ret_bool (by rw [HE.out]; simp [show ¬ 1 ≤ l.length by omega]), HB0.out⟩
  · have g1 : ¬ (l.length : Int) < 1 := by omega
    by_cases h4 : 4 < l.length
    · have g4 : 4 < (l.length : Int) := by omega
      go_enter Try.func148, Try.ntmps148
      go_wp2
      go_ret
      exact ⟨ret_bool (by rw [HE.out]; simp [show ¬ l.length ≤ 4 by omega]), HB0.out⟩
    · have g4 : ¬ 4 < (l.length : Int) := by omega
      have d1 : decide (1 ≤ l.length) = true := decide_eq_true (by omega)
      have d2 : decide (l.length ≤ 4) = true := decide_eq_true (by omega)
      rw [d1, d2] at HE
      clear d1 d2
      cases hn : nmL A
      · rw [hn] at HE
        go_enter Try.func148, Try.ntmps148
        go_wp2_with (first | (go_at_call 84; refine (NameRight_any _ _ hA).mono ?_; rintro e w' ⟨rfl, rfl⟩) | (fail "none"))
        go_ret
        exact ⟨ret_bool (by rw [HE.out]; simp), HB0.out⟩
      · rw [hn] at HE
        cases hv : l.all valB
        · rw [hv] at HE
          go_enter Try.func148, Try.ntmps148
          go_wp2_with (first | (go_at_call 84; refine (NameRight_any _ _ hA).mono ?_; rintro e w' ⟨rfl, rfl⟩) | (go_at_call 165; refine (areProper_any vo l vc _ (HD.out.below HB0.out) HF.out).mono ?_; rw [hv]; rintro e w1 ⟨rfl, hb1⟩) | (fail "none"))
          go_ret
          exact ⟨ret_bool (by rw [HE.out]; simp), HB0.out.trans (hb1.mono HB0.out.size)⟩
        · rw [hv] at HE
          go_enter Try.func148, Try.ntmps148
          go_wp2_with (first | (go_at_call 84; refine (NameRight_any _ _ hA).mono ?_; rintro e w' ⟨rfl, rfl⟩) | (go_at_call 165; refine (areProper_any vo l vc _ (HD.out.below HB0.out) HF.out).mono ?_; rw [hv]; rintro e w1 ⟨rfl, hb1⟩; have B1 := Lib.hid (HB0.out.trans (hb1.mono HB0.out.size)); have c1 : w1.cell? ⟨w.heap.size, 1, none⟩ = some (.slice vo l.length vc) := (hb1.cell (p := ⟨w.heap.size, 1, none⟩) (by simp)).trans (by unfold World.cell?; rw [heap_alloc_new]; rfl)) | (fail "none"))
          refine (incStr_any vo l vc w1 (HD.out.below B1.out) HF.out).mono ?_
          rintro e w2 ⟨rfl, hb2⟩
          have B2 := Lib.hid (B1.out.trans (hb2.mono B1.out.size))
          clear hb1 hb2
          generalize incB normLt l = r at *
          go_wp2
          go_ret
          exact ⟨ret_bool (by rw [HE.out]; simp), B2.out⟩
end Ytglgkocjdockdaa
end Go.Proofs
/- SchemaRight: names in order. -/
namespace Go.Proofs.Ytglgkocjdockdaa
open Go.RowKit
attribute [local go_sem ↓] Go.wp_at_zero Go.wp_at_succ

def strLt (x y : ByteArray) : Bool := Op.bytesLess x.toList y.toList
noncomputable def namesB (l : List ByteArray) : Bool := l.all nmL && incB strLt l
theorem compare_any (w0 : World) (a b : ByteArray) (w : World) (hB : Below w0.heap.size w0 w) :
    Calls Try.prog 114 #[.string a, .string b] w fun e w' => (∃ c : Int, e = .returned (.int .i64 c) ∧ decide (0 ≤ c) = !(strLt a b)) ∧ Below w0.heap.size w0 w' := by
  refine (Try.strings_Compare a b w).mono ?_
  rintro e w' ⟨rfl, rfl⟩
  exact ⟨⟨_, rfl, by rw [compare_less]; unfold strLt; rw [Lib.toList_data, Lib.toList_data]⟩, hB⟩
set_option maxRecDepth 100000 in
set_option maxHeartbeats 1000000 in
theorem incName_any (ao : Option Addr) (l : List ByteArray) (cap : Nat) (w : World) (hd : StrsAt w ao l) (hf : FitsV l) :
    Calls Try.prog 142 #[.slice ao l.length cap, .func (.func 114) #[] #[]] w fun e w' => e = .returned (.bool (incB strLt l)) ∧ Below w.heap.size w w' := by
  have hl := hf.1
  have HD := Lib.hid hd; have HF := Lib.hid hf; clear hd hf
  go_enter Try.func142, Try.ntmps142
  go_wp2
  go_loopw [5] (fun i wr => ∃ m : Nat, m ≤ l.length ∧ i = .int .i64 ((m : Int) + 1) ∧ (∀ j (h : j + 1 < l.length), j < m → strLt l[j] l[j + 1] = true) ∧ Below w.heap.size w wr) (fun i _ => l.length + 1 - (intOf i).toNat)
  case atStart => exact ⟨0, Nat.zero_le _, rfl, fun j _ h => absurd h (Nat.not_lt_zero _), Below.refl _ _⟩
  case round =>
    obtain ⟨m, hm, rfl, ha, hbel⟩ := hrel
    have Ha := Lib.hid ha; clear ha
    have hsz := hbel.size
    by_cases hlt : m + 1 < l.length
    · have hm0 : m < l.length := by omega
      obtain ⟨b, off, rfl, hw0, hd1⟩ := HD.out.at hm0
      obtain ⟨b', off', e, _, hd2⟩ := HD.out.at hlt
      cases e
      have hc1 := (hbel.cell (p := ⟨b, off + m, none⟩) hw0).trans hd1
      have hc2 := (hbel.cell (p := ⟨b, off + (m + 1), none⟩) hw0).trans hd2
      have hz1 := HF.out.max hm0
      have hz2 := HF.out.max hlt
      have g1 : (m : Int) + 1 < (l.length : Int) := by omega
      have g2 : (0 : Int) ≤ (m : Int) := by omega
      have g3 : (m : Int) < (l.length : Int) := by omega
      have g4 : (0 : Int) ≤ (m : Int) + 1 := by omega
      have HN : Hid (∀ j (h : j + 1 < l.length), j < m + 1 → strLt l[m] l[m + 1] = true → strLt l[j] l[j + 1] = true) := Lib.hid (fun j h hj hn => by
        by_cases e : j = m
        · subst e; exact hn
        · exact Ha.out j h (by omega))
      have HX : Hid (strLt l[m] l[m + 1] = false → incB strLt l = false) := Lib.hid (fun h => incB_no hlt h)
      generalize hx : l[m] = X at *
      generalize hy : l[m + 1] = Y at *
      clear hx hy
      have SK : Hid (∀ W : World, Below w.heap.size w W → (Below w.heap.size w W ∧ W.cell? ⟨b, off + m, none⟩ = some (.string X) ∧ W.cell? ⟨b, off + (m + 1), none⟩ = some (.string Y))) :=
        Lib.hid (fun W h => ⟨h, (h.cell (p := ⟨b, _, none⟩) hw0).trans hd1, (h.cell (p := ⟨b, _, none⟩) hw0).trans hd2⟩)
      have hbd := hbel.drew
      have hwr : IntKind.i64.wrap (m : Int) = (m : Int) := IntWalk.i64_in _ (by omega)
      have hwr2 : IntKind.i64.wrap ((m : Int) + 1 - 1) = (m : Int) := by rw [Int.add_sub_cancel]; exact hwr
      clear hc1 hc2 hd1 hd2
      cases hn : strLt X Y
      · have HX' := Lib.hid (HX.out hn)
        go_wp2_with fail
        go_region_held3 (fun W => Below w.heap.size w W ∧ W.cell? ⟨b, off + m, none⟩ = some (.string X) ∧ W.cell? ⟨b, off + (m + 1), none⟩ = some (.string Y))
          (exact SK.out _ (by assumption))
          (first | (go_at_call 114; refine (compare_any w X Y _ (by assumption)).mono ?_; rintro e w1 ⟨⟨c, rfl, hc⟩, hb1⟩; rw [hn] at hc; have hc0 : 0 ≤ c := (by simpa using hc); clear hc) | (fail "none"))
        all_goals
          go_wp2
          go_ret
          exact ⟨ret_bool (by rw [HX'.out]), hb1⟩
      · go_wp2_with fail
        go_region_held3 (fun W => Below w.heap.size w W ∧ W.cell? ⟨b, off + m, none⟩ = some (.string X) ∧ W.cell? ⟨b, off + (m + 1), none⟩ = some (.string Y))
          (exact SK.out _ (by assumption))
          (first | (go_at_call 114; refine (compare_any w X Y _ (by assumption)).mono ?_; rintro e w1 ⟨⟨c, rfl, hc⟩, hb1⟩; rw [hn] at hc; have hc0 : ¬ 0 ≤ c := (by simpa using hc); clear hc) | (fail "none"))
        all_goals
          go_wp2
          go_roundw
          case rel => exact ⟨m + 1, by omega, by go_num, fun j h hj => HN.out j h hj hn, hb1⟩
          case measure => simp [intOf]; omega
    · have HT : Hid (incB strLt l = true) := Lib.hid (incB_yes fun j h => Ha.out j h (by omega))
      have g1 : ¬ (m : Int) + 1 < (l.length : Int) := by omega
      go_wp2
      go_ret
      exact ⟨ret_bool (by rw [HT.out]), hbel⟩
set_option maxRecDepth 100000 in
set_option maxHeartbeats 1000000 in
theorem areNames_any (ao : Option Addr) (l : List ByteArray) (cap : Nat) (w : World) (hd : StrsAt w ao l) (hf : FitsV l) :
    Calls Try.prog 116 #[.slice ao l.length cap] w fun e w' => e = .returned (.bool (namesB l)) ∧ Below w.heap.size w w' := by
  have hl := hf.1
  have HD := Lib.hid hd; have HF := Lib.hid hf; clear hd hf
  go_enter Try.func116, Try.ntmps116
  go_wp2
  go_loopw [7] (fun i wr => ∃ k : Nat, k ≤ l.length ∧ i = .int .i64 k ∧ (l.take k).all nmL = true ∧ Below w.heap.size w wr) (fun i _ => l.length - (intOf i).toNat)
  case atStart => exact ⟨0, Nat.zero_le _, rfl, rfl, Below.refl _ _⟩
  case round =>
    obtain ⟨k, hk, rfl, ha, hbel⟩ := hrel
    have Ha := Lib.hid ha; clear ha
    have hsz := hbel.size
    by_cases hlt : k < l.length
    · obtain ⟨b, off, rfl, hb0, hc1⟩ := (HD.out.below hbel).at hlt
      have hz := HF.out.max hlt
      generalize hr : nmL l[k] = r at *
      have HR := Lib.hid hr; clear hr
      cases r
      · have HX : Hid (namesB l = false) := Lib.hid (by unfold namesB; rw [all_bad nmL l k hlt HR.out]; rfl)
        go_wp2_with (first | (go_at_call 84; refine (NameRight_any _ _ hz).mono ?_; rintro e w1 ⟨rfl, rfl⟩; rw [HR.out]) | (fail "none"))
        go_ret
        exact ⟨ret_bool (by rw [HX.out]), hbel⟩
      · have HT : Hid ((l.take (k + 1)).all nmL = true) := Lib.hid (by rw [all_take nmL l k hlt, Ha.out, HR.out]; rfl)
        go_wp2_with (first | (go_at_call 84; refine (NameRight_any _ _ hz).mono ?_; rintro e w1 ⟨rfl, rfl⟩; rw [HR.out]) | (fail "none"))
        go_roundw
        case rel => exact ⟨k + 1, by omega, by go_num, HT.out, hbel⟩
        case measure => simp [intOf]; omega
    · have e : l.take k = l := List.take_of_length_le (by omega)
      have HT : Hid (namesB l = incB strLt l) := Lib.hid (by unfold namesB; rw [← e, Ha.out, e]; rfl)
      clear e
      go_wp2_with fail
      refine (incName_any ao l cap wr (HD.out.below hbel) HF.out).mono ?_
      rintro e w1 ⟨rfl, hb1⟩
      have B1 := Lib.hid (hbel.trans (hb1.mono hsz))
      generalize incB strLt l = r at *
      go_wp2
      go_ret
      exact ⟨ret_bool (by rw [HT.out]), B1.out⟩
noncomputable def names10 (l : List ByteArray) : Bool := decide (l.length ≤ 10) && namesB l
end Go.Proofs.Ytglgkocjdockdaa
