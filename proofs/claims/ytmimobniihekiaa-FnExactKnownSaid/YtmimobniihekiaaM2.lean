/- Merged texts: EntCopy, ClsSz, ClsCopy, EntHelp, Open, Mark, Mark2, EntOwn, ClsCopyD, EntMk, EntMk2, EntR1, ClsR1. -/
import Derived.Test.YtmimobniihekiaaM1
import Derived.Deep.SlicePairs
import Derived.OpenShut
import Derived.ProofKit
import Derived.Shelf.Small.Strs
/- The helpers of the laws over entries: copies. -/
namespace Go.Proofs.Ytmimobniihekiaa
open Go.RowKit
attribute [local go_sem ↓] Go.wp_at_zero Go.wp_at_succ

theorem make47 (n : Nat) (hn : n ≤ 1048576) (W : World) : ∃ C : Array Value, C.size = n ∧
    (Instr.makeSlice 29 (.int .i64 (n : Int)) (.int .i64 (n : Int))).run Try.prog W = .ok (.slice (some ⟨W.heap.size, 0, none⟩) n n) (W.alloc (.cells C 9)) := by
  obtain ⟨i0, hi, hz0, hz1, hz2⟩ := info_parts Try.info9
  have := run_make (P := Try.prog) W 29 9 i0 _ Try.underlying29 hi hz0 .i64 .i64 (n : Int) (n : Int) (by omega) (by omega) (by rw [hz2]; omega) (by omega)
  rw [hz1] at this
  refine ⟨madeCells (Value.string ByteArray.empty).cells (n * 1), by rw [size_madeCells]; omega, ?_⟩
  simpa using this
/-- a block of texts, the first of them known -/
def RowS (w : World) (g n : Nat) (l : List ByteArray) : Prop := ∃ C : Array Value, w.heap[g]? = some (.cells C 9 (0, 0)) ∧ C.size = n ∧ ∀ i (h : i < l.length), C[i]? = some (.string l[i])
theorem RowS.at {w : World} {g n k : Nat} {l : List ByteArray} (h : RowS w g n l) (hk : k < n) : (∃ x, w.cell? ⟨g, k, none⟩ = some x) ∧ w.frozen? ⟨g, k, none⟩ = false := by
  obtain ⟨C, h1, h2, _⟩ := h
  refine ⟨⟨C[k]'(by omega), ?_⟩, ?_⟩
  · rw [cell_of_row w g _ C 9 (0, 0) h1]; exact Array.getElem?_eq_getElem (by omega)
  · simp [World.frozen?, h1]
theorem RowS.set {w : World} {g n k : Nat} {l : List ByteArray} (h : RowS w g n l) (hl : l.length = k) (hk : k < n) (s : ByteArray) : RowS (w.setCell ⟨g, k, none⟩ (.string s)) g n (l ++ [s]) := by
  obtain ⟨C, h1, h2, h3⟩ := h
  refine ⟨_, heap_set _ h1, by simp [h2], fun i hi => ?_⟩
  rw [Array.getElem?_setIfInBounds]
  by_cases e : k = i
  · subst e
    rw [if_pos rfl, if_pos (by omega), List.getElem_append_right (by omega)]
    simp
  · have hi' : i < l.length := by simp at hi; omega
    rw [if_neg e, List.getElem_append_left hi']
    exact h3 i hi'
theorem RowS.strs {w : World} {g n : Nat} {l : List ByteArray} (h : RowS w g n l) : StrsAt w (some ⟨g, 0, none⟩) l := by
  obtain ⟨C, h1, h2, h3⟩ := h
  refine .inr ⟨g, 0, rfl, (Array.getElem?_eq_some_iff.1 h1).1, fun i hi => ?_⟩
  rw [cell_of_row w g _ C 9 (0, 0) h1, Nat.zero_add]
  exact h3 i hi
/-- a copy of texts, in a new block -/
def CopyV (w : World) (l : List ByteArray) (v : Value) (w' : World) : Prop := ∃ g, v = .slice (some ⟨g, 0, none⟩) l.length l.length ∧ w.heap.size ≤ g ∧ g < w'.heap.size ∧ StrsAt w' (some ⟨g, 0, none⟩) l ∧ Below w.heap.size w w'
set_option maxRecDepth 100000 in
set_option maxHeartbeats 1000000 in
theorem toStringS_any (ao : Option Addr) (d : List ByteArray) (cap : Nat) (w : World) (hd : StrsAt w ao d) (hl : d.length ≤ 1048576) :
    Calls Try.prog 65 #[.slice ao d.length cap] w fun e w' => ∃ v, e = .returned v ∧ CopyV w d v w' := by
  have HD := Lib.hid hd; clear hd
  obtain ⟨C, hC, hmk⟩ := make47 d.length hl w
  have HC := Lib.hid hC; clear hC
  go_enter Try.func65, Try.ntmps65
  go_wp2
  clear hmk
  go_loopw [4] (fun i wr => ∃ k : Nat, k ≤ d.length ∧ i = .int .i64 k ∧ RowS wr w.heap.size d.length (d.take k) ∧ Below w.heap.size w wr) (fun i _ => d.length - (intOf i).toNat)
  case atStart => exact ⟨0, Nat.zero_le _, rfl, ⟨C, heap_alloc_new w _, HC.out, fun i h => by simp at h⟩, (Below.refl _ _).alloc (Nat.le_refl _) _⟩
  case round =>
    obtain ⟨k, hk, rfl, hR, hbel⟩ := hrel
    have HR := Lib.hid hR; clear hR
    have hsz := hbel.size
    by_cases hlt : k < d.length
    · obtain ⟨b, off, rfl, hb0, hd1⟩ := HD.out.at hlt
      have hc1 := (hbel.cell (p := ⟨b, off + k, none⟩) hb0).trans hd1
      have HT : Hid (d.take (k + 1) = d.take k ++ [d[k]]) := Lib.hid (List.take_succ_eq_append_getElem hlt)
      have HK : Hid ((d.take k).length = k) := Lib.hid (by rw [List.length_take]; omega)
      clear hd1
      generalize d[k] = A at *
      obtain ⟨⟨x, c0⟩, f0⟩ := HR.out.at hlt
      go_wp2
      go_roundw
      case rel => exact ⟨k + 1, by omega, by go_num, by rw [HT.out]; exact HR.out.set HK.out hlt A, hbel.setCell (Nat.le_refl _) _⟩
      case measure => simp [intOf]; omega
    · have e : d.take k = d := List.take_of_length_le (by omega)
      rw [e] at HR
      clear e
      go_wp2
      go_ret
      exact ⟨_, rfl, w.heap.size, rfl, Nat.le_refl _, (by obtain ⟨C, h1, _⟩ := HR.out; exact (Array.getElem?_eq_some_iff.1 h1).1), HR.out.strs, hbel⟩
theorem StrsAt.set {w : World} {b off R j : Nat} {l : List ByteArray} (h : StrsAt w (some ⟨b, off, none⟩) l) (hne : b ≠ R) (v : Value) : StrsAt (w.setCell ⟨R, j, none⟩ v) (some ⟨b, off, none⟩) l := by
  rcases h with h | ⟨b', off', h1, h2, h3⟩
  · exact .inl h
  · cases h1
    refine .inr ⟨b, off, rfl, by simpa [World.setCell] using h2, fun i hi => ?_⟩
    have e : (w.setCell ⟨R, j, none⟩ v).heap[b]? = w.heap[b]? := Below.heap_setCell _ _ _ _ hne
    have := h3 i hi
    unfold World.cell? at this ⊢
    rw [e]; exact this
theorem calls_any' {P : Program} {f : Nat} {args : Array Value} {w : World} {Q : Ending → World → Prop} (R : World → Prop) (h : R w) (k : ∀ W, R W → Calls P f args W Q) : Calls P f args w Q := k w h
/-- two cells of a block -/
def Two (w : World) (g : Nat) (T : TypeId) (a b : Value) : Prop := w.heap[g]? = some (.cells #[a, b] T (0, 0))
theorem Two.cells {w : World} {g : Nat} {T : TypeId} {a b : Value} (h : Two w g T a b) : (w.cell? ⟨g, 0, none⟩ = some a ∧ w.cell? ⟨g, 1, none⟩ = some b) ∧ (w.frozen? ⟨g, 0, none⟩ = false ∧ w.frozen? ⟨g, 1, none⟩ = false) := by
  unfold Two at h
  refine ⟨⟨?_, ?_⟩, ?_, ?_⟩
  · rw [cell_of_row w g _ _ T (0, 0) h]; rfl
  · rw [cell_of_row w g _ _ T (0, 0) h]; rfl
  · simp [World.frozen?, h]
  · simp [World.frozen?, h]
theorem Two.lt {w : World} {g : Nat} {T : TypeId} {a b : Value} (h : Two w g T a b) : g < w.heap.size := (Array.getElem?_eq_some_iff.1 h).1
theorem Two.below {w w' : World} {g : Nat} {T : TypeId} {a b : Value} (h : Two w g T a b) (hb : Below w.heap.size w w') : Two w' g T a b := (hb.block g h.lt).trans h
theorem Two.set0 {w : World} {g : Nat} {T : TypeId} {a b : Value} (h : Two w g T a b) (v : Value) : Two (w.setCell ⟨g, 0, none⟩ v) g T v b := heap_set v h
theorem Two.set1 {w : World} {g : Nat} {T : TypeId} {a b : Value} (h : Two w g T a b) (v : Value) : Two (w.setCell ⟨g, 1, none⟩ v) g T a v := heap_set v h
theorem Two.far {w : World} {g R j : Nat} {T : TypeId} {a b : Value} (h : Two w g T a b) (hne : g ≠ R) (v : Value) : Two (w.setCell ⟨R, j, none⟩ v) g T a b := (Below.heap_setCell _ _ _ _ hne).trans h
theorem twoNew (w : World) (T : TypeId) (a b : Value) : Two (w.alloc (.cells #[a, b] T)) w.heap.size T a b := heap_alloc_new w _
theorem Two.alloc {w : World} {g : Nat} {T : TypeId} {a b : Value} (h : Two w g T a b) (o : Obj) : Two (w.alloc o) g T a b := (heap_alloc_old w o h.lt).trans h
theorem CopyV.low {w w0 w' : World} {l : List ByteArray} {v : Value} (h : CopyV w l v w') (hb : Below w0.heap.size w0 w) : CopyV w0 l v w' := by
  obtain ⟨g, h1, h2, h3, h4, h5⟩ := h
  exact ⟨g, h1, Nat.le_trans hb.size h2, h3, h4, hb.trans (h5.mono hb.size)⟩
end Go.Proofs.Ytmimobniihekiaa
/- The helpers of the laws over classes: sizes. -/
namespace Go.Proofs.Ytmimobniihekiaa
open Go.RowKit
attribute [local go_sem ↓] Go.wp_at_zero Go.wp_at_succ

/-- four cells of a block -/
def Quad (w : World) (g : Nat) (T : TypeId) (a b c d : Value) : Prop := w.heap[g]? = some (.cells #[a, b, c, d] T (0, 0))
theorem Quad.cells {w : World} {g : Nat} {T : TypeId} {a b c d : Value} (h : Quad w g T a b c d) : w.cell? ⟨g, 0, none⟩ = some a ∧ w.cell? ⟨g, 1, none⟩ = some b ∧ w.cell? ⟨g, 2, none⟩ = some c ∧ w.cell? ⟨g, 3, none⟩ = some d := by
  unfold Quad at h
  refine ⟨?_, ?_, ?_, ?_⟩ <;> (rw [cell_of_row w g _ _ T (0, 0) h]; rfl)
theorem Quad.soft {w : World} {g : Nat} {T : TypeId} {a b c d : Value} (h : Quad w g T a b c d) : w.frozen? ⟨g, 0, none⟩ = false ∧ w.frozen? ⟨g, 1, none⟩ = false ∧ w.frozen? ⟨g, 2, none⟩ = false ∧ w.frozen? ⟨g, 3, none⟩ = false := by
  unfold Quad at h
  refine ⟨?_, ?_, ?_, ?_⟩ <;> simp [World.frozen?, h]
theorem Quad.lt {w : World} {g : Nat} {T : TypeId} {a b c d : Value} (h : Quad w g T a b c d) : g < w.heap.size := (Array.getElem?_eq_some_iff.1 h).1
theorem Quad.below {w w' : World} {g : Nat} {T : TypeId} {a b c d : Value} (h : Quad w g T a b c d) (hb : Below w.heap.size w w') : Quad w' g T a b c d := (hb.block g h.lt).trans h
theorem Quad.set0 {w : World} {g : Nat} {T : TypeId} {a b c d : Value} (h : Quad w g T a b c d) (v : Value) : Quad (w.setCell ⟨g, 0, none⟩ v) g T v b c d := heap_set v h
theorem Quad.set1 {w : World} {g : Nat} {T : TypeId} {a b c d : Value} (h : Quad w g T a b c d) (v : Value) : Quad (w.setCell ⟨g, 1, none⟩ v) g T a v c d := heap_set v h
theorem Quad.set2 {w : World} {g : Nat} {T : TypeId} {a b c d : Value} (h : Quad w g T a b c d) (v : Value) : Quad (w.setCell ⟨g, 2, none⟩ v) g T a b v d := heap_set v h
theorem Quad.set3 {w : World} {g : Nat} {T : TypeId} {a b c d : Value} (h : Quad w g T a b c d) (v : Value) : Quad (w.setCell ⟨g, 3, none⟩ v) g T a b c v := heap_set v h
theorem Quad.far {w : World} {g R j : Nat} {T : TypeId} {a b c d : Value} (h : Quad w g T a b c d) (hne : g ≠ R) (v : Value) : Quad (w.setCell ⟨R, j, none⟩ v) g T a b c d := (Below.heap_setCell _ _ _ _ hne).trans h
theorem Quad.alloc {w : World} {g : Nat} {T : TypeId} {a b c d : Value} (h : Quad w g T a b c d) (o : Obj) : Quad (w.alloc o) g T a b c d := (heap_alloc_old w o h.lt).trans h
theorem quadNew (w : World) (T : TypeId) (a b c d : Value) : Quad (w.alloc (.cells #[a, b, c, d] T)) w.heap.size T a b c d := heap_alloc_new w _
theorem szStringS_from (w0 : World) (v : Value) (d : List ByteArray) (left : Int) (w : World) (hB : Below w0.heap.size w0 w) (hv : SlV w0 v d) (hf : LongV d) (h0 : 0 ≤ left) (h1 : left ≤ 1048576) :
    Calls Try.prog 61 #[v, .int .i64 left] w fun e w' => e = .returned (.int .i64 (leftR (szV d) left)) ∧ Below w.heap.size w w' := by
  obtain ⟨vo, vc, rfl, h2⟩ := hv
  exact szStringS_any vo d vc left w (h2.1.below hB) hf h0 h1
set_option maxRecDepth 100000 in
set_option maxHeartbeats 1000000 in
theorem szClass_any (c : ClassV) (v1 v2 v3 : Value) (left : Int) (w : World) (h1 : SlV w v1 c.must) (h2 : SlV w v2 c.may) (h3 : SlV w v3 c.one) (hn : c.nm.size ≤ maxLen) (f1 : LongV c.must) (f2 : LongV c.may) (f3 : LongV c.one) (g0 : 0 ≤ left) (g1 : left ≤ 1048576) :
    Calls Try.prog 43 #[.agg #[.string c.nm, v1, v2, v3], .int .i64 left] w fun e w' => e = .returned (.int .i64 (leftR (sizeC c) left)) ∧ Below w.heap.size w w' := by
  have HE : Hid (sizeC c = c.nm.size + (szV c.must + (szV c.may + szV c.one))) := Lib.hid rfl
  have C1 : Hid (∀ (l : Int) (W : World), Below w.heap.size w W → 0 ≤ l → l ≤ 1048576 → Calls Try.prog 61 #[v1, .int .i64 l] W fun e w' => e = .returned (.int .i64 (leftR (szV c.must) l)) ∧ Below W.heap.size W w') := Lib.hid (fun l W b p q => szStringS_from w v1 c.must l W b h1 f1 p q)
  have C2 : Hid (∀ (l : Int) (W : World), Below w.heap.size w W → 0 ≤ l → l ≤ 1048576 → Calls Try.prog 61 #[v2, .int .i64 l] W fun e w' => e = .returned (.int .i64 (leftR (szV c.may) l)) ∧ Below W.heap.size W w') := Lib.hid (fun l W b p q => szStringS_from w v2 c.may l W b h2 f2 p q)
  have C3 : Hid (∀ (l : Int) (W : World), Below w.heap.size w W → 0 ≤ l → l ≤ 1048576 → Calls Try.prog 61 #[v3, .int .i64 l] W fun e w' => e = .returned (.int .i64 (leftR (szV c.one) l)) ∧ Below W.heap.size W w') := Lib.hid (fun l W b p q => szStringS_from w v3 c.one l W b h3 f3 p q)
  obtain ⟨o1, k1, rfl, _⟩ := h1
  obtain ⟨o2, k2, rfl, _⟩ := h2
  obtain ⟨o3, k3, rfl, _⟩ := h3
  unfold maxLen at hn
  clear f1 f2 f3
  generalize sizeC c = z at *
  generalize szV c.must = r1 at *
  generalize szV c.may = r2 at *
  generalize szV c.one = r3 at *
  generalize c.must.length = m1 at *
  generalize c.may.length = m2 at *
  generalize c.one.length = m3 at *
  generalize c.nm = N at *
  by_cases g2 : (N.size : Int) ≤ left
  · have c1 : ¬ left - (N.size : Int) < 0 := by omega
    go_enter Try.func43, Try.ntmps43
    go_wp2_with fail
    refine calls_any' (fun W => Below w.heap.size w W ∧ Quad W w.heap.size 66 (.string N) (.slice o1 m1 k1) (.slice o2 m2 k2) (.slice o3 m3 k3)) ⟨more (Below.refl _ _) _, quadNew _ _ _ _ _ _⟩ ?_
    rintro w1 ⟨b1, t1⟩
    refine (C1.out _ w1 b1 (by omega) (by omega)).mono ?_
    rintro e w2 ⟨rfl, hb2⟩
    have T2 := Lib.hid (t1.below hb2); have b2 := b1.trans (hb2.mono b1.size)
    clear t1 hb2 b1 C1
    by_cases g3 : (r1 : Int) ≤ left - (N.size : Int)
    · rw [leftR_pos g3]
      have c2 : ¬ left - (N.size : Int) - (r1 : Int) < 0 := by omega
      obtain ⟨q0, q1, q2, q3⟩ := T2.out.cells
      go_wp2_with fail
      refine (C2.out _ w2 b2 (by omega) (by omega)).mono ?_
      rintro e w3 ⟨rfl, hb3⟩
      have T3 := Lib.hid (T2.out.below hb3); have b3 := b2.trans (hb3.mono b2.size)
      clear T2 hb3 b2 C2 q0 q1 q2 q3
      by_cases g4 : (r2 : Int) ≤ left - (N.size : Int) - (r1 : Int)
      · rw [leftR_pos g4]
        have c3 : ¬ left - (N.size : Int) - (r1 : Int) - (r2 : Int) < 0 := by omega
        obtain ⟨q0, q1, q2, q3⟩ := T3.out.cells
        go_wp2_with fail
        refine (C3.out _ w3 b3 (by omega) (by omega)).mono ?_
        rintro e w4 ⟨rfl, hb4⟩
        have b4 := b3.trans (hb4.mono b3.size)
        clear T3 hb4 b3 C3 q0 q1 q2 q3
        by_cases g5 : (r3 : Int) ≤ left - (N.size : Int) - (r1 : Int) - (r2 : Int)
        · rw [leftR_pos g5]
          have c4 : ¬ left - (N.size : Int) - (r1 : Int) - (r2 : Int) - (r3 : Int) < 0 := by omega
          have HR : Hid (leftR z left = left - (N.size : Int) - (r1 : Int) - (r2 : Int) - (r3 : Int)) := Lib.hid (by rw [leftR_pos (by rw [HE.out]; omega), HE.out]; omega)
          go_wp2
          go_ret
          exact ⟨ret_int' (by rw [HR.out]), b4⟩
        · rw [leftR_neg g5]
          have HR : Hid (leftR z left = -1) := Lib.hid (leftR_neg (by rw [HE.out]; omega))
          go_wp2
          go_ret
          exact ⟨ret_int' (by rw [HR.out]), b4⟩
      · rw [leftR_neg g4]
        have HR : Hid (leftR z left = -1) := Lib.hid (leftR_neg (by rw [HE.out]; omega))
        go_wp2
        go_ret
        exact ⟨ret_int' (by rw [HR.out]), b3⟩
    · rw [leftR_neg g3]
      have HR : Hid (leftR z left = -1) := Lib.hid (leftR_neg (by rw [HE.out]; omega))
      go_wp2
      go_ret
      exact ⟨ret_int' (by rw [HR.out]), b2⟩
  · have HR : Hid (leftR z left = -1) := Lib.hid (leftR_neg (by rw [HE.out]; omega))
    have c1 : left - (N.size : Int) < 0 := by omega
    go_enter Try.func43, Try.ntmps43
    go_wp2
    go_ret
    exact ⟨ret_int' (by rw [HR.out]), (Below.refl _ _).alloc (Nat.le_refl _) _⟩
set_option maxRecDepth 100000 in
set_option maxHeartbeats 1000000 in
theorem szClassS_any (ao : Option Addr) (d : List ClassV) (cap : Nat) (left : Int) (w : World) (hd : ClassesAt w ao d) (hf : LongC d) (h0 : 0 ≤ left) (h1 : left ≤ 1048576) :
    Calls Try.prog 19 #[.slice ao d.length cap, .int .i64 left] w fun e w' => e = .returned (.int .i64 (leftR (d.length + sizeCs d) left)) ∧ Below w.heap.size w w' := by
  have hl := hf.1
  have HD := Lib.hid hd; have HF := Lib.hid hf; clear hd hf
  by_cases g : (d.length : Int) ≤ left
  · have c1 : ¬ left - (d.length : Int) < 0 := by omega
    go_enter Try.func19, Try.ntmps19
    go_wp2
    go_loopw [1, 5] (fun t i wr => ∃ k : Nat, k ≤ d.length ∧ i = .int .i64 k ∧ ((d.length + sizeCs (d.take k) : Nat) : Int) ≤ left ∧ t = .int .i64 (left - (d.length + sizeCs (d.take k) : Nat)) ∧ Below w.heap.size w wr) (fun _ i _ => d.length - (intOf i).toNat)
    case atStart => exact ⟨0, Nat.zero_le _, rfl, by simp [sizeCs]; omega, by simp [sizeCs], Below.refl _ _⟩
    case round =>
      clear c1
      obtain ⟨k, hk, rfl, hle, rfl, hbel⟩ := hrel
      have hsz := hbel.size
      by_cases hlt : k < d.length
      · obtain ⟨b, off, v1, v2, v3, rfl, hb0, hc⟩ := (HD.out.below hbel).at hlt
        obtain ⟨hc0, hc1, hc2, hc3, s1, s2, s3⟩ := hc
        have HV := Lib.hid (And.intro s1 (And.intro s2 s3)); clear s1 s2 s3
        have HZ := Lib.hid (HF.out.2 _ (List.getElem_mem hlt))
        have HT := Lib.hid (sizeCs_take d k hlt)
        have HTl := Lib.hid (sizeCs_le d (k + 1))
        generalize d[k] = A at *
        generalize hq : d.length + sizeCs (d.take k) = q at *
        have Hq := Lib.hid hq; clear hq
        go_wp2_with fail
        refine (szClass_any A v1 v2 v3 (left - (q : Int)) wr HV.out.1 HV.out.2.1 HV.out.2.2 HZ.out.1 HZ.out.2.1 HZ.out.2.2.1 HZ.out.2.2.2 (by omega) (by omega)).mono ?_
        rintro e w2 ⟨rfl, hb2⟩
        have B2 := Lib.hid (hbel.trans (hb2.mono hsz)); clear hb2
        by_cases hfit : ((sizeC A : Nat) : Int) ≤ left - (q : Int)
        · rw [leftR_pos hfit]
          generalize hr : sizeC A = r at *
          have Hr := Lib.hid hr; clear hr
          have c2 : ¬ left - (q : Int) - (r : Int) < 0 := by omega
          go_wp2
          go_roundw
          case rel =>
            have e := HT.out
            have e3 := Hq.out
            have e4 := Hr.out
            exact ⟨k + 1, by omega, by go_num, by omega, by rw [e]; congr 1; omega, B2.out⟩
          case measure => simp [intOf]; omega
        · rw [leftR_neg hfit]
          have HR : Hid (leftR (d.length + sizeCs d) left = -1) := Lib.hid (leftR_neg (by
            have := HT.out; have := HTl.out; have := Hq.out; omega))
          go_wp2
          go_ret
          exact ⟨ret_int' (by rw [HR.out]), B2.out⟩
      · have HR : Hid (leftR (d.length + sizeCs d) left = left - (d.length + sizeCs (d.take k) : Nat)) := Lib.hid (by
          rw [List.take_of_length_le (by omega)] at hle ⊢
          exact leftR_pos hle)
        go_wp2
        go_ret
        exact ⟨ret_int' (by rw [HR.out]), hbel⟩
  · have HR : Hid (leftR (d.length + sizeCs d) left = -1) := Lib.hid (leftR_neg (by omega))
    have c1 : left - (d.length : Int) < 0 := by omega
    go_enter Try.func19, Try.ntmps19
    go_wp2
    go_ret
    exact ⟨ret_int' (by rw [HR.out]), Below.refl _ _⟩
end Go.Proofs.Ytmimobniihekiaa
/- The helpers of the laws over classes: copies. -/
namespace Go.Proofs.Ytmimobniihekiaa
open Go.RowKit
attribute [local go_sem ↓] Go.wp_at_zero Go.wp_at_succ

theorem Try.infoClass : (Try.prog.info? 42).map (fun i => (i.zero, i.size, i.bytes)) = some (some (.agg #[.string ByteArray.empty, .slice none 0 0, .slice none 0 0, .slice none 0 0]), 4, 88) := by kernel_rfl
theorem makeCls (n : Nat) (hn : n ≤ 1048576) (W : World) : ∃ C : Array Value, C.size = n * 4 ∧
    (Instr.makeSlice 37 (.int .i64 (n : Int)) (.int .i64 (n : Int))).run Try.prog W = .ok (.slice (some ⟨W.heap.size, 0, none⟩) n n) (W.alloc (.cells C 42)) := by
  obtain ⟨i0, hi, hz0, hz1, hz2⟩ := info_parts Try.infoClass
  have := run_make (P := Try.prog) W 37 42 i0 _ Try.underlying37 hi hz0 .i64 .i64 (n : Int) (n : Int) (by omega) (by omega) (by rw [hz2]; omega) (by omega)
  rw [hz1] at this
  refine ⟨madeCells (Value.agg #[.string ByteArray.empty, .slice none 0 0, .slice none 0 0, .slice none 0 0]).cells (n * 4), size_madeCells _ _, ?_⟩
  simpa using this
/-- a copy of a class: its three rows in new blocks, lo to hi -/
structure CopyC1 (lo : Nat) (c : ClassV) (g1 g2 g3 : Nat) (w' : World) : Prop where
  l1 : lo ≤ g1
  l2 : g1 < g2
  l3 : g2 < g3
  l4 : g3 < w'.heap.size
  t1 : StrsAt w' (some ⟨g1, 0, none⟩) c.must
  t2 : StrsAt w' (some ⟨g2, 0, none⟩) c.may
  t3 : StrsAt w' (some ⟨g3, 0, none⟩) c.one
set_option maxRecDepth 100000 in
set_option maxHeartbeats 2000000 in
theorem toClass_any (c : ClassV) (v1 v2 v3 : Value) (w : World) (h1 : SlV w v1 c.must) (h2 : SlV w v2 c.may) (h3 : SlV w v3 c.one) (f : FitsC1 c) :
    Calls Try.prog 45 #[.agg #[.string c.nm, v1, v2, v3]] w fun e w' => ∃ g1 g2 g3, e = .returned (.agg #[.string c.nm, .slice (some ⟨g1, 0, none⟩) c.must.length c.must.length, .slice (some ⟨g2, 0, none⟩) c.may.length c.may.length, .slice (some ⟨g3, 0, none⟩) c.one.length c.one.length]) ∧ CopyC1 w.heap.size c g1 g2 g3 w' ∧ Below w.heap.size w w' := by
  have C1 : Hid (∀ W : World, Below w.heap.size w W → Calls Try.prog 65 #[v1] W fun e w' => ∃ v, e = .returned v ∧ CopyV W c.must v w') := Lib.hid (fun W b => by obtain ⟨vo, vc, rfl, h⟩ := h1; exact toStringS_any vo c.must vc W (h.1.below b) f.must.1)
  have C2 : Hid (∀ W : World, Below w.heap.size w W → Calls Try.prog 65 #[v2] W fun e w' => ∃ v, e = .returned v ∧ CopyV W c.may v w') := Lib.hid (fun W b => by obtain ⟨vo, vc, rfl, h⟩ := h2; exact toStringS_any vo c.may vc W (h.1.below b) f.may.1)
  have C3 : Hid (∀ W : World, Below w.heap.size w W → Calls Try.prog 65 #[v3] W fun e w' => ∃ v, e = .returned v ∧ CopyV W c.one v w') := Lib.hid (fun W b => by obtain ⟨vo, vc, rfl, h⟩ := h3; exact toStringS_any vo c.one vc W (h.1.below b) f.one.1)
  obtain ⟨o1, k1, rfl, _⟩ := h1
  obtain ⟨o2, k2, rfl, _⟩ := h2
  obtain ⟨o3, k3, rfl, _⟩ := h3
  clear f
  go_enter Try.func45, Try.ntmps45
  go_wp2_with fail
  refine calls_any' (fun W => Below w.heap.size w W ∧ Quad W w.heap.size 66 (.string c.nm) (.slice o1 c.must.length k1) (.slice o2 c.may.length k2) (.slice o3 c.one.length k3) ∧ Quad W (w.heap.size + 1) 42 (.string ⟨#[]⟩) (.slice none 0 0) (.slice none 0 0) (.slice none 0 0) ∧ Quad W (w.heap.size + 1 + 1) 42 (.string c.nm) (.slice none 0 0) (.slice none 0 0) (.slice none 0 0)) ⟨more (more (more (Below.refl _ _) _) _) _, ?_, ?_, ?_⟩ ?_
  · exact ((quadNew _ _ _ _ _ _).alloc _).alloc _
  · exact Quad.alloc (by have := quadNew (w.alloc (Obj.cells #[.string c.nm, .slice o1 c.must.length k1, .slice o2 c.may.length k2, .slice o3 c.one.length k3] 66)) 42 (.string ⟨#[]⟩) (.slice none 0 0) (.slice none 0 0) (.slice none 0 0); simpa using this) _
  · have := quadNew ((w.alloc (Obj.cells #[.string c.nm, .slice o1 c.must.length k1, .slice o2 c.may.length k2, .slice o3 c.one.length k3] 66)).alloc (Obj.cells #[.string ⟨#[]⟩, .slice none 0 0, .slice none 0 0, .slice none 0 0] 42)) 42 (.string c.nm) (.slice none 0 0) (.slice none 0 0) (.slice none 0 0); simpa using this
  rintro W1 ⟨b1, a1, r1, u1⟩
  have hz := u1.lt
  refine (C1.out W1 b1).mono ?_
  rintro e w2 ⟨v, rfl, g1, rfl, hg1, hg1', st1, hb2⟩
  have A2 := Lib.hid (a1.below hb2); have R2 := Lib.hid (r1.below hb2); have U2 := Lib.hid (u1.below hb2); have S1 := Lib.hid st1; have B2 := Lib.hid (b1.trans (hb2.mono b1.size))
  clear a1 r1 u1 st1 hb2 b1 C1
  obtain ⟨p0, p1, p2, p3⟩ := A2.out.cells
  obtain ⟨q0, q1, q2, q3⟩ := U2.out.cells
  obtain ⟨s0, s1, s2, s3⟩ := U2.out.soft
  go_wp2_with fail
  refine calls_any' (fun W => Below w.heap.size w W ∧ Quad W w.heap.size 66 (.string c.nm) (.slice o1 c.must.length k1) (.slice o2 c.may.length k2) (.slice o3 c.one.length k3) ∧ Quad W (w.heap.size + 1) 42 (.string ⟨#[]⟩) (.slice none 0 0) (.slice none 0 0) (.slice none 0 0) ∧ Quad W (w.heap.size + 1 + 1) 42 (.string c.nm) (.slice (some ⟨g1, 0, none⟩) c.must.length c.must.length) (.slice none 0 0) (.slice none 0 0) ∧ StrsAt W (some ⟨g1, 0, none⟩) c.must ∧ g1 < W.heap.size) ⟨B2.out.setCell (p := ⟨w.heap.size + 1 + 1, 1, none⟩) (by show w.heap.size ≤ w.heap.size + 1 + 1; omega) _, A2.out.far (by omega) _, R2.out.far (by omega) _, U2.out.set1 _, S1.out.set (by omega) _, (by simpa [World.setCell] using hg1')⟩ ?_
  clear A2 R2 U2 S1 B2 p0 p1 p2 p3 q0 q1 q2 q3 s0 s1 s2 s3 hg1'
  rintro W3 ⟨b1, a1, r1, u1, st1, hg1'⟩
  refine (C2.out W3 b1).mono ?_
  rintro e w4 ⟨v, rfl, g2, rfl, hg2, hg2', st2, hb2⟩
  have A2 := Lib.hid (a1.below hb2); have R2 := Lib.hid (r1.below hb2); have U2 := Lib.hid (u1.below hb2); have S1 := Lib.hid (st1.below hb2); have S2 := Lib.hid st2; have B2 := Lib.hid (b1.trans (hb2.mono b1.size))
  clear a1 r1 u1 st1 st2 hb2 b1 C2
  obtain ⟨p0, p1, p2, p3⟩ := A2.out.cells
  obtain ⟨q0, q1, q2, q3⟩ := U2.out.cells
  obtain ⟨s0, s1, s2, s3⟩ := U2.out.soft
  go_wp2_with fail
  refine calls_any' (fun W => Below w.heap.size w W ∧ Quad W w.heap.size 66 (.string c.nm) (.slice o1 c.must.length k1) (.slice o2 c.may.length k2) (.slice o3 c.one.length k3) ∧ Quad W (w.heap.size + 1) 42 (.string ⟨#[]⟩) (.slice none 0 0) (.slice none 0 0) (.slice none 0 0) ∧ Quad W (w.heap.size + 1 + 1) 42 (.string c.nm) (.slice (some ⟨g1, 0, none⟩) c.must.length c.must.length) (.slice (some ⟨g2, 0, none⟩) c.may.length c.may.length) (.slice none 0 0) ∧ StrsAt W (some ⟨g1, 0, none⟩) c.must ∧ StrsAt W (some ⟨g2, 0, none⟩) c.may ∧ g2 < W.heap.size) ⟨B2.out.setCell (p := ⟨w.heap.size + 1 + 1, 2, none⟩) (by show w.heap.size ≤ w.heap.size + 1 + 1; omega) _, A2.out.far (by omega) _, R2.out.far (by omega) _, U2.out.set2 _, S1.out.set (by omega) _, S2.out.set (by omega) _, (by simpa [World.setCell] using hg2')⟩ ?_
  clear A2 R2 U2 S1 S2 B2 p0 p1 p2 p3 q0 q1 q2 q3 s0 s1 s2 s3 hg2'
  rintro W5 ⟨b1, a1, r1, u1, st1, st2, hg2'⟩
  refine (C3.out W5 b1).mono ?_
  rintro e w6 ⟨v, rfl, g3, rfl, hg3, hg3', st3, hb2⟩
  have R2 := Lib.hid (r1.below hb2); have U2 := Lib.hid (u1.below hb2); have S1 := Lib.hid (st1.below hb2); have S2 := Lib.hid (st2.below hb2); have S3 := Lib.hid st3; have B2 := Lib.hid (b1.trans (hb2.mono b1.size))
  clear a1 r1 u1 st1 st2 st3 hb2 b1 C3
  obtain ⟨q0, q1, q2, q3⟩ := U2.out.cells
  obtain ⟨s0, s1, s2, s3⟩ := U2.out.soft
  have TE := ((((R2.out.far (R := w.heap.size + 1 + 1) (j := 3) (by omega) (.slice (some ⟨g3, 0, none⟩) c.one.length c.one.length)).set0 (.string c.nm)).set1 (.slice (some ⟨g1, 0, none⟩) c.must.length c.must.length)).set2 (.slice (some ⟨g2, 0, none⟩) c.may.length c.may.length)).set3 (.slice (some ⟨g3, 0, none⟩) c.one.length c.one.length)
  obtain ⟨j0, j1, j2, j3⟩ := TE.cells
  obtain ⟨d0, d1, d2, d3⟩ := R2.out.cells
  obtain ⟨e0, e1, e2, e3⟩ := R2.out.soft
  clear TE
  go_wp2_with fail
  refine bodyPost_ret (v := .agg #[.string c.nm, .slice (some ⟨g1, 0, none⟩) c.must.length c.must.length, .slice (some ⟨g2, 0, none⟩) c.may.length c.may.length, .slice (some ⟨g3, 0, none⟩) c.one.length c.one.length]) (by simp [results, Try.results45, go_sem, j0, j1, j2, j3]) rfl ⟨g1, g2, g3, rfl, ⟨by omega, by omega, by omega, ?_, ?_, ?_, ?_⟩, ?_⟩
  · simpa [World.setCell] using hg3'
  · exact ((((S1.out.set (by omega) _).set (by omega) _).set (by omega) _).set (by omega) _).set (by omega) _
  · exact ((((S2.out.set (by omega) _).set (by omega) _).set (by omega) _).set (by omega) _).set (by omega) _
  · exact ((((S3.out.set (by omega) _).set (by omega) _).set (by omega) _).set (by omega) _).set (by omega) _
  · exact ((((B2.out.setCell (p := ⟨w.heap.size + 1 + 1, 3, none⟩) (by show w.heap.size ≤ w.heap.size + 1 + 1; omega) _).setCell (p := ⟨w.heap.size + 1, 0, none⟩) (by show w.heap.size ≤ w.heap.size + 1; omega) _).setCell (p := ⟨w.heap.size + 1, 1, none⟩) (by show w.heap.size ≤ w.heap.size + 1; omega) _).setCell (p := ⟨w.heap.size + 1, 2, none⟩) (by show w.heap.size ≤ w.heap.size + 1; omega) _).setCell (p := ⟨w.heap.size + 1, 3, none⟩) (by show w.heap.size ≤ w.heap.size + 1; omega) _
/-- a block of classes, the first of them known; their rows lie in later blocks -/
def RowC (w : World) (g n : Nat) (l : List ClassV) : Prop := ∃ C : Array Value, w.heap[g]? = some (.cells C 42 (0, 0)) ∧ C.size = n * 4 ∧
  ∀ i (h : i < l.length), ∃ b1 b2 b3, C[i * 4]? = some (.string l[i].nm) ∧ C[i * 4 + 1]? = some (.slice (some ⟨b1, 0, none⟩) l[i].must.length l[i].must.length) ∧ C[i * 4 + 2]? = some (.slice (some ⟨b2, 0, none⟩) l[i].may.length l[i].may.length) ∧ C[i * 4 + 3]? = some (.slice (some ⟨b3, 0, none⟩) l[i].one.length l[i].one.length) ∧ g < b1 ∧ g < b2 ∧ g < b3 ∧ StrsAt w (some ⟨b1, 0, none⟩) l[i].must ∧ StrsAt w (some ⟨b2, 0, none⟩) l[i].may ∧ StrsAt w (some ⟨b3, 0, none⟩) l[i].one
theorem RowC.lt {w : World} {g n : Nat} {l : List ClassV} (h : RowC w g n l) : g < w.heap.size := by obtain ⟨C, h1, _⟩ := h; exact (Array.getElem?_eq_some_iff.1 h1).1
theorem RowC.below {w w' : World} {g n : Nat} {l : List ClassV} (h : RowC w g n l) (hb : Below w.heap.size w w') : RowC w' g n l := by
  obtain ⟨C, h1, h2, h3⟩ := h
  refine ⟨C, (hb.block g (Array.getElem?_eq_some_iff.1 h1).1).trans h1, h2, fun i hi => ?_⟩
  obtain ⟨b1, b2, b3, c0, c1, c2, c3, l1, l2, l3, s1, s2, s3⟩ := h3 i hi
  exact ⟨b1, b2, b3, c0, c1, c2, c3, l1, l2, l3, s1.below hb, s2.below hb, s3.below hb⟩
theorem RowC.at {w : World} {g n k : Nat} {l : List ClassV} (h : RowC w g n l) (hk : k < n) :
    (∃ x0 x1 x2 x3, w.cell? ⟨g, k * 4, none⟩ = some x0 ∧ w.cell? ⟨g, k * 4 + 1, none⟩ = some x1 ∧ w.cell? ⟨g, k * 4 + 2, none⟩ = some x2 ∧ w.cell? ⟨g, k * 4 + 3, none⟩ = some x3) ∧ w.frozen? ⟨g, k * 4, none⟩ = false ∧ w.frozen? ⟨g, k * 4 + 1, none⟩ = false ∧ w.frozen? ⟨g, k * 4 + 2, none⟩ = false ∧ w.frozen? ⟨g, k * 4 + 3, none⟩ = false := by
  obtain ⟨C, h1, h2, _⟩ := h
  refine ⟨⟨C[k * 4]'(by omega), C[k * 4 + 1]'(by omega), C[k * 4 + 2]'(by omega), C[k * 4 + 3]'(by omega), ?_, ?_, ?_, ?_⟩, ?_, ?_, ?_, ?_⟩
  iterate 4
    · rw [cell_of_row w g _ C 42 (0, 0) h1]; exact Array.getElem?_eq_getElem (by omega)
  all_goals simp [World.frozen?, h1]
theorem RowC.set {w : World} {g n k b1 b2 b3 : Nat} {l : List ClassV} {A : ClassV} (h : RowC w g n l) (hl : l.length = k) (hk : k < n) (h1 : g < b1) (h2 : g < b2) (h3 : g < b3) (s1 : StrsAt w (some ⟨b1, 0, none⟩) A.must) (s2 : StrsAt w (some ⟨b2, 0, none⟩) A.may) (s3 : StrsAt w (some ⟨b3, 0, none⟩) A.one) :
    RowC ((((w.setCell ⟨g, k * 4, none⟩ (.string A.nm)).setCell ⟨g, k * 4 + 1, none⟩ (.slice (some ⟨b1, 0, none⟩) A.must.length A.must.length)).setCell ⟨g, k * 4 + 2, none⟩ (.slice (some ⟨b2, 0, none⟩) A.may.length A.may.length)).setCell ⟨g, k * 4 + 3, none⟩ (.slice (some ⟨b3, 0, none⟩) A.one.length A.one.length)) g n (l ++ [A]) := by
  obtain ⟨C, e1, e2, e3⟩ := h
  refine ⟨_, heap_set _ (heap_set _ (heap_set _ (heap_set _ e1))), by simp [e2], fun i hi => ?_⟩
  simp only [Array.getElem?_setIfInBounds, Array.size_setIfInBounds]
  by_cases e : i = k
  · subst e
    have hL : (l ++ [A])[i] = A := by rw [List.getElem_append_right (by omega)]; simp
    rw [hL]
    refine ⟨b1, b2, b3, ?_, ?_, ?_, ?_, h1, h2, h3, (((s1.set (by omega) _).set (by omega) _).set (by omega) _).set (by omega) _, (((s2.set (by omega) _).set (by omega) _).set (by omega) _).set (by omega) _, (((s3.set (by omega) _).set (by omega) _).set (by omega) _).set (by omega) _⟩
    · rw [if_neg (by omega), if_neg (by omega), if_neg (by omega), if_pos rfl, if_pos (by omega)]
    · rw [if_neg (by omega), if_neg (by omega), if_pos rfl, if_pos (by omega)]
    · rw [if_neg (by omega), if_pos rfl, if_pos (by omega)]
    · rw [if_pos rfl, if_pos (by omega)]
  · have hi' : i < l.length := by simp at hi; omega
    rw [List.getElem_append_left hi']
    obtain ⟨b1, b2, b3, c0, c1, c2, c3, l1, l2, l3, s1, s2, s3⟩ := e3 i hi'
    refine ⟨b1, b2, b3, ?_, ?_, ?_, ?_, l1, l2, l3, (((s1.set (by omega) _).set (by omega) _).set (by omega) _).set (by omega) _, (((s2.set (by omega) _).set (by omega) _).set (by omega) _).set (by omega) _, (((s3.set (by omega) _).set (by omega) _).set (by omega) _).set (by omega) _⟩
    iterate 4
      · rw [if_neg (by omega), if_neg (by omega), if_neg (by omega), if_neg (by omega)]; assumption
theorem RowC.classes {w : World} {g n : Nat} {l : List ClassV} (h : RowC w g n l) : ClassesAt w (some ⟨g, 0, none⟩) l := by
  obtain ⟨C, h1, h2, h3⟩ := h
  refine .inr ⟨g, 0, rfl, (Array.getElem?_eq_some_iff.1 h1).1, fun i hi => ?_⟩
  obtain ⟨b1, b2, b3, c0, c1, c2, c3, l1, l2, l3, s1, s2, s3⟩ := h3 i hi
  refine ⟨_, _, _, ?_, ?_, ?_, ?_, ⟨_, _, rfl, s1, Nat.le_refl _, fun e => by cases e⟩, ⟨_, _, rfl, s2, Nat.le_refl _, fun e => by cases e⟩, ⟨_, _, rfl, s3, Nat.le_refl _, fun e => by cases e⟩⟩
  all_goals (rw [cell_of_row w g _ C 42 (0, 0) h1, Nat.zero_add]; assumption)
/-- a copy of classes, in new blocks -/
def CopyCs (w : World) (l : List ClassV) (v : Value) (w' : World) : Prop := ∃ g, v = .slice (some ⟨g, 0, none⟩) l.length l.length ∧ w.heap.size ≤ g ∧ RowC w' g l.length l ∧ Below w.heap.size w w'
set_option maxRecDepth 100000 in
set_option maxHeartbeats 1000000 in
theorem toClassS_any (ao : Option Addr) (d : List ClassV) (cap : Nat) (w : World) (hd : ClassesAt w ao d) (hf : FitsC d) :
    Calls Try.prog 21 #[.slice ao d.length cap] w fun e w' => ∃ v, e = .returned v ∧ CopyCs w d v w' := by
  have hl := hf.1
  have HD := Lib.hid hd; have HF := Lib.hid hf; clear hd hf
  obtain ⟨C, hC, hmk⟩ := makeCls d.length hl w
  have HC := Lib.hid hC; clear hC
  go_enter Try.func21, Try.ntmps21
  go_wp2
  clear hmk
  go_loopw [4] (fun i wr => ∃ k : Nat, k ≤ d.length ∧ i = .int .i64 k ∧ RowC wr w.heap.size d.length (d.take k) ∧ Below w.heap.size w wr) (fun i _ => d.length - (intOf i).toNat)
  case atStart => exact ⟨0, Nat.zero_le _, rfl, ⟨C, heap_alloc_new w _, HC.out, fun i h => by simp at h⟩, (Below.refl _ _).alloc (Nat.le_refl _) _⟩
  case round =>
    obtain ⟨k, hk, rfl, hR, hbel⟩ := hrel
    have HR := Lib.hid hR; clear hR
    have hsz := hbel.size
    by_cases hlt : k < d.length
    · obtain ⟨b, off, v1, v2, v3, rfl, hb0, hc⟩ := (HD.out.below hbel).at hlt
      obtain ⟨hc0, hc1, hc2, hc3, s1, s2, s3⟩ := hc
      have HV := Lib.hid (And.intro s1 (And.intro s2 s3)); clear s1 s2 s3
      have HZ := Lib.hid (HF.out.at hlt)
      have HT : Hid (d.take (k + 1) = d.take k ++ [d[k]]) := Lib.hid (List.take_succ_eq_append_getElem hlt)
      have HK : Hid ((d.take k).length = k) := Lib.hid (by rw [List.length_take]; omega)
      have hgw : w.heap.size < wr.heap.size := HR.out.lt
      generalize d[k] = A at *
      go_wp2_with fail
      refine (toClass_any A v1 v2 v3 wr HV.out.1 HV.out.2.1 HV.out.2.2 HZ.out).mono ?_
      rintro e w2 ⟨g1, g2, g3, rfl, hcp, hb2⟩
      have HR2 := Lib.hid (HR.out.below hb2)
      have B2 := Lib.hid (hbel.trans (hb2.mono hsz))
      have HCp := Lib.hid hcp
      have i1 := hcp.l1; have i2 := hcp.l2; have i3 := hcp.l3
      clear hb2 hc0 hc1 hc2 hc3 hcp HR
      obtain ⟨⟨x0, x1, x2, x3, c0, c1, c2, c3⟩, f0, f1, f2, f3⟩ := HR2.out.at hlt
      go_wp2
      go_roundw
      case rel => exact ⟨k + 1, by omega, by go_num, by rw [HT.out]; exact HR2.out.set HK.out hlt (by omega) (by omega) (by omega) HCp.out.t1 HCp.out.t2 HCp.out.t3, (((B2.out.setCell (Nat.le_refl _) _).setCell (Nat.le_refl _) _).setCell (Nat.le_refl _) _).setCell (Nat.le_refl _) _⟩
      case measure => simp [intOf]; omega
    · have e : d.take k = d := List.take_of_length_le (by omega)
      rw [e] at HR
      clear e
      go_wp2
      go_ret
      exact ⟨_, rfl, w.heap.size, rfl, Nat.le_refl _, HR.out, hbel⟩
end Go.Proofs.Ytmimobniihekiaa
/- Small helpers of the walks over entries. -/
namespace Go.Proofs.Ytmimobniihekiaa
open Go.RowKit

theorem then_world {K : Act → World → Prop} {Q : Exit → Act → World → Prop} {x : Exit} {a : Act} {w : World} (R : World → Prop) (h : R w) (k : ∀ W, R W → Exit.then K Q x a W) : Exit.then K Q x a w := k w h
theorem two_drew {w : World} {g : Nat} {T : TypeId} {a b : Value} (h : Two w g T a b) : Two w.drew g T a b := h
theorem twoNext (w : World) (o : Obj) (T : TypeId) (a b : Value) : Two ((w.alloc o).alloc (.cells #[a, b] T)) (w.heap.size + 1) T a b := by
  have := twoNew (w.alloc o) T a b; simpa using this
end Go.Proofs.Ytmimobniihekiaa
/- Arguments that are names: where they lie. -/
namespace Go.Proofs.Ytmimobniihekiaa
open Go.RowKit Go.ChangeShapes Go.WideShapes Go.Deep

end Go.Proofs.Ytmimobniihekiaa
/- The helpers of the laws: marks. -/
namespace Go.Proofs.Ytmimobniihekiaa
open Go.RowKit
attribute [local go_sem ↓] Go.wp_at_zero Go.wp_at_succ

def toS (l : List UInt8) : ByteArray := ⟨l.toArray⟩
theorem toS_list (l : List UInt8) : (toS l).data.toList = l := by simp [toS]
theorem toS_size (l : List UInt8) : (toS l).size = l.length := by rw [← size_len, toS_list]
theorem cat (a b : ByteArray) (h : a.size + b.size ≤ 1000000000) (W : World) : (Op.stringOp .add a b).run Try.prog W = .ok (.string (a ++ b)) W := run_string_add_sum W a b (by omega)
theorem sz1 (c : UInt8) : (⟨#[c]⟩ : ByteArray).size = 1 := rfl
/-- the digits of a number, ahead of others -/
def digs : Nat → Nat → List UInt8 → List UInt8
  | 0, _, o => o
  | f + 1, n, o => if n = 0 then o else digs f (n / 10) (UInt8.ofNat (48 + n % 10) :: o)
def mkL (n : Nat) : List UInt8 := 109 :: digs 20 n []
def mkT (n : Nat) : ByteArray := toS (mkL n)
theorem one_str (W : World) (n : Nat) (hn : n < 256) :
    (convert 79 9 (.slice (some ⟨W.heap.size, 0, none⟩) 1 1)).run Try.prog (W.alloc (.cells #[.int .u8 (n : Int)] 5)) = .ok (.string ⟨#[UInt8.ofNat n]⟩) (W.alloc (.cells #[.int .u8 (n : Int)] 5)) := by
  refine str22 _ ⟨W.heap.size, 0, none⟩ 1 [UInt8.ofNat n] 1 rfl fun j hj => ?_
  match j, hj with
  | 0, _ =>
    rw [add_plain, World.cell?_alloc_mark]
    simp; omega
set_option maxRecDepth 100000 in
set_option maxHeartbeats 1000000 in
theorem markText_any (n : Nat) (w : World) (h0 : 0 < n) (hn : n ≤ 1000000000) :
    Calls Try.prog 42 #[.int .i64 n] w fun e w' => e = .returned (.string (mkT n)) ∧ Below w.heap.size w w' := by
  go_enter Try.func42, Try.ntmps42
  go_wp2
  go_loopw [0, 3] (fun t u wr => ∃ (f k : Nat) (o : List UInt8), k ≤ n ∧ t = .int .i64 k ∧ u = .string (toS o) ∧ digs 20 n [] = digs f k o ∧ k < 10 ^ f ∧ f ≤ 20 ∧ o.length + f ≤ 20 ∧ Below w.heap.size w wr) (fun t _ _ => (intOf t).toNat)
  case atStart => exact ⟨20, n, [], Nat.le_refl _, rfl, rfl, rfl, by omega, by omega, by simp, Below.refl _ _⟩
  case round =>
    obtain ⟨f, k, o, hk, rfl, rfl, hD, hf, hf2, ho, hbel⟩ := hrel
    have HD := Lib.hid hD; clear hD
    have hsz := hbel.size
    by_cases hk0 : 0 < k
    · obtain ⟨g, rfl⟩ : ∃ g, f = g + 1 := ⟨f - 1, by
        rcases f with _ | f
        · simp at hf; omega
        · simp⟩
      have HN : Hid (digs 20 n [] = digs g (k / 10) (UInt8.ofNat (48 + k % 10) :: o)) := Lib.hid (by rw [HD.out, digs, if_neg (by omega)])
      have HF : Hid (k / 10 < 10 ^ g) := Lib.hid (by rw [Nat.pow_succ] at hf; omega)
      have HC : Hid ((⟨#[UInt8.ofNat (48 + k % 10)]⟩ : ByteArray) ++ toS o = toS (UInt8.ofNat (48 + k % 10) :: o)) := Lib.hid (by apply ByteArray.ext; simp [toS])
      clear hf
      have hos : (toS o).size ≤ 20 := by rw [toS_size]; omega
      have hcv := one_str wr (48 + k % 10) (by omega)
      have hca := cat ⟨#[UInt8.ofNat (48 + k % 10)]⟩ (toS o) (by rw [sz1]; omega)
      have e1 : ((48 + k % 10 : Nat) : Int) = 48 + (k : Int) % 10 := by omega
      rw [e1] at hcv
      clear e1
      generalize UInt8.ofNat (48 + k % 10) = c at *
      go_wp2
      refine ⟨⟨g, k / 10, c :: o, by omega, by go_num, by rw [HC.out], HN.out, HF.out, by omega, by simp only [List.length_cons]; omega, more hbel _⟩, ?_⟩
      simp [intOf]; omega
    · have HE : Hid (⟨#[109]⟩ ++ toS o = mkT n) := Lib.hid (by
        have e : k = 0 := by omega
        subst e
        have : digs f 0 o = o := by cases f <;> simp [digs]
        unfold mkT mkL
        rw [HD.out, this]
        apply ByteArray.ext; simp [toS])
      have hos : (toS o).size ≤ 20 := by rw [toS_size]; omega
      have hca := cat ⟨#[109]⟩ (toS o) (by rw [sz1]; omega)
      go_wp2
      go_ret
      exact ⟨ret_str HE.out, hbel⟩
/-- n pairs of marks, from k on -/
def marks : Nat → Nat → RdnL
  | _, 0 => []
  | k, n + 1 => marks k n ++ [(mkT (k + 2 * n), mkT (k + 2 * n + 1))]
theorem marks_len (k n : Nat) : (marks k n).length = n := by
  induction n with
  | zero => rfl
  | succ n ih => rw [marks, List.length_append, ih]; rfl
theorem marks_get (k n i : Nat) (h : i < n) (h' : i < (marks k n).length) : (marks k n)[i] = (mkT (k + 2 * i), mkT (k + 2 * i + 1)) := by
  induction n with
  | zero => omega
  | succ n ih =>
    have hl := marks_len k n
    simp only [marks]
    by_cases e : i < n
    · rw [List.getElem_append_left (by omega)]; exact ih e (by omega)
    · have : i = n := by omega
      subst this
      rw [List.getElem_append_right (by omega)]
      simp [hl]
end Go.Proofs.Ytmimobniihekiaa
/- The helpers of the laws: marks laid into a name, and found there again. -/
namespace Go.Proofs.Ytmimobniihekiaa
open Go.RowKit
attribute [local go_sem ↓] Go.wp_at_zero Go.wp_at_succ

theorem grown_of {a b : World} (h : Below a.heap.size a b) (row : Option Nat) : a.grownBy b row := ⟨h.os, h.tape, h.output, h.size, fun k hk _ => h.block k hk⟩
theorem grown_tr {a b c : World} {r : Option Nat} (h : a.grownBy b r) (g : b.grownBy c r) : a.grownBy c r :=
  ⟨g.os.trans h.os, g.tape.trans h.tape, g.output.trans h.output, Nat.le_trans h.size g.size, fun k hk hne => (g.block k (Nat.lt_of_lt_of_le hk h.size) hne).trans (h.block k hk hne)⟩
theorem markText_from (w0 : World) (n : Nat) (w : World) (h0 : 0 < n) (hn : n ≤ 1000000000) (hB : Below w0.heap.size w0 w) :
    Calls Try.prog 42 #[.int .i64 n] w fun e w' => e = .returned (.string (mkT n)) ∧ Below w0.heap.size w0 w' :=
  (markText_any n w h0 hn).mono fun _ _ ⟨he, hb⟩ => ⟨he, hB.trans (hb.mono hB.size)⟩
end Go.Proofs.Ytmimobniihekiaa
/- Copies of entries, in blocks of their own. -/
namespace Go.Proofs.Ytmimobniihekiaa
open Go.RowKit
attribute [local go_sem ↓] Go.wp_at_zero Go.wp_at_succ

theorem RowS.below {w w' : World} {g n : Nat} {l : List ByteArray} (h : RowS w g n l) (hb : Below w.heap.size w w') : RowS w' g n l := by
  obtain ⟨C, h1, h2⟩ := h
  exact ⟨C, (hb.block g (Array.getElem?_eq_some_iff.1 h1).1).trans h1, h2⟩
theorem RowS.far {w : World} {g n R j : Nat} {l : List ByteArray} (h : RowS w g n l) (hne : g ≠ R) (v : Value) : RowS (w.setCell ⟨R, j, none⟩ v) g n l := by
  obtain ⟨C, h1, h2⟩ := h
  exact ⟨C, (Below.heap_setCell _ _ _ _ hne).trans h1, h2⟩
/-- a copy of texts, in a new block -/
def CopyR (w : World) (l : List ByteArray) (v : Value) (w' : World) : Prop := ∃ g, v = .slice (some ⟨g, 0, none⟩) l.length l.length ∧ w.heap.size ≤ g ∧ g < w'.heap.size ∧ RowS w' g l.length l ∧ Below w.heap.size w w'
set_option maxRecDepth 100000 in
set_option maxHeartbeats 1000000 in
theorem toStringS_row (ao : Option Addr) (d : List ByteArray) (cap : Nat) (w : World) (hd : StrsAt w ao d) (hl : d.length ≤ 1048576) :
    Calls Try.prog 65 #[.slice ao d.length cap] w fun e w' => ∃ v, e = .returned v ∧ CopyR w d v w' := by
  have HD := Lib.hid hd; clear hd
  obtain ⟨C, hC, hmk⟩ := make47 d.length hl w
  have HC := Lib.hid hC; clear hC
  go_enter Try.func65, Try.ntmps65
  go_wp2
  clear hmk
  go_loopw [4] (fun i wr => ∃ k : Nat, k ≤ d.length ∧ i = .int .i64 k ∧ RowS wr w.heap.size d.length (d.take k) ∧ Below w.heap.size w wr) (fun i _ => d.length - (intOf i).toNat)
  case atStart => exact ⟨0, Nat.zero_le _, rfl, ⟨C, heap_alloc_new w _, HC.out, fun i h => by simp at h⟩, (Below.refl _ _).alloc (Nat.le_refl _) _⟩
  case round =>
    obtain ⟨k, hk, rfl, hR, hbel⟩ := hrel
    have HR := Lib.hid hR; clear hR
    have hsz := hbel.size
    by_cases hlt : k < d.length
    · obtain ⟨b, off, rfl, hb0, hd1⟩ := HD.out.at hlt
      have hc1 := (hbel.cell (p := ⟨b, off + k, none⟩) hb0).trans hd1
      have HT : Hid (d.take (k + 1) = d.take k ++ [d[k]]) := Lib.hid (List.take_succ_eq_append_getElem hlt)
      have HK : Hid ((d.take k).length = k) := Lib.hid (by rw [List.length_take]; omega)
      clear hd1
      generalize d[k] = A at *
      obtain ⟨⟨x, c0⟩, f0⟩ := HR.out.at hlt
      go_wp2
      go_roundw
      case rel => exact ⟨k + 1, by omega, by go_num, by rw [HT.out]; exact HR.out.set HK.out hlt A, hbel.setCell (Nat.le_refl _) _⟩
      case measure => simp [intOf]; omega
    · have e : d.take k = d := List.take_of_length_le (by omega)
      rw [e] at HR
      clear e
      go_wp2
      go_ret
      exact ⟨_, rfl, w.heap.size, rfl, Nat.le_refl _, (by obtain ⟨C, h1, _⟩ := HR.out; exact (Array.getElem?_eq_some_iff.1 h1).1), HR.out, hbel⟩
theorem CopyR.low {w w0 w' : World} {l : List ByteArray} {v : Value} (h : CopyR w l v w') (hb : Below w0.heap.size w0 w) : CopyR w0 l v w' := by
  obtain ⟨g, h1, h2, h3, h4, h5⟩ := h
  exact ⟨g, h1, Nat.le_trans hb.size h2, h3, h4, hb.trans (h5.mono hb.size)⟩
end Go.Proofs.Ytmimobniihekiaa
/- The helpers of the laws over classes: copies. -/
namespace Go.Proofs.Ytmimobniihekiaa
open Go.RowKit
attribute [local go_sem ↓] Go.wp_at_zero Go.wp_at_succ

/-- a copy of a class: its three rows in new blocks, lo to hi -/
structure CopyD1 (lo : Nat) (c : ClassV) (g1 g2 g3 : Nat) (w' : World) : Prop where
  l1 : lo ≤ g1
  l2 : g1 < g2
  l3 : g2 < g3
  l4 : g3 < w'.heap.size
  t1 : RowS w' g1 c.must.length c.must
  t2 : RowS w' g2 c.may.length c.may
  t3 : RowS w' g3 c.one.length c.one
set_option maxRecDepth 100000 in
set_option maxHeartbeats 2000000 in
theorem toClass_row (c : ClassV) (v1 v2 v3 : Value) (w : World) (h1 : SlV w v1 c.must) (h2 : SlV w v2 c.may) (h3 : SlV w v3 c.one) (f : FitsC1 c) :
    Calls Try.prog 45 #[.agg #[.string c.nm, v1, v2, v3]] w fun e w' => ∃ g1 g2 g3, e = .returned (.agg #[.string c.nm, .slice (some ⟨g1, 0, none⟩) c.must.length c.must.length, .slice (some ⟨g2, 0, none⟩) c.may.length c.may.length, .slice (some ⟨g3, 0, none⟩) c.one.length c.one.length]) ∧ CopyD1 w.heap.size c g1 g2 g3 w' ∧ Below w.heap.size w w' := by
  have C1 : Hid (∀ W : World, Below w.heap.size w W → Calls Try.prog 65 #[v1] W fun e w' => ∃ v, e = .returned v ∧ CopyR W c.must v w') := Lib.hid (fun W b => by obtain ⟨vo, vc, rfl, h⟩ := h1; exact toStringS_row vo c.must vc W (h.1.below b) f.must.1)
  have C2 : Hid (∀ W : World, Below w.heap.size w W → Calls Try.prog 65 #[v2] W fun e w' => ∃ v, e = .returned v ∧ CopyR W c.may v w') := Lib.hid (fun W b => by obtain ⟨vo, vc, rfl, h⟩ := h2; exact toStringS_row vo c.may vc W (h.1.below b) f.may.1)
  have C3 : Hid (∀ W : World, Below w.heap.size w W → Calls Try.prog 65 #[v3] W fun e w' => ∃ v, e = .returned v ∧ CopyR W c.one v w') := Lib.hid (fun W b => by obtain ⟨vo, vc, rfl, h⟩ := h3; exact toStringS_row vo c.one vc W (h.1.below b) f.one.1)
  obtain ⟨o1, k1, rfl, _⟩ := h1
  obtain ⟨o2, k2, rfl, _⟩ := h2
  obtain ⟨o3, k3, rfl, _⟩ := h3
  clear f
  go_enter Try.func45, Try.ntmps45
  go_wp2_with fail
  refine calls_any' (fun W => Below w.heap.size w W ∧ Quad W w.heap.size 66 (.string c.nm) (.slice o1 c.must.length k1) (.slice o2 c.may.length k2) (.slice o3 c.one.length k3) ∧ Quad W (w.heap.size + 1) 42 (.string ⟨#[]⟩) (.slice none 0 0) (.slice none 0 0) (.slice none 0 0) ∧ Quad W (w.heap.size + 1 + 1) 42 (.string c.nm) (.slice none 0 0) (.slice none 0 0) (.slice none 0 0)) ⟨more (more (more (Below.refl _ _) _) _) _, ?_, ?_, ?_⟩ ?_
  · exact ((quadNew _ _ _ _ _ _).alloc _).alloc _
  · exact Quad.alloc (by have := quadNew (w.alloc (Obj.cells #[.string c.nm, .slice o1 c.must.length k1, .slice o2 c.may.length k2, .slice o3 c.one.length k3] 66)) 42 (.string ⟨#[]⟩) (.slice none 0 0) (.slice none 0 0) (.slice none 0 0); simpa using this) _
  · have := quadNew ((w.alloc (Obj.cells #[.string c.nm, .slice o1 c.must.length k1, .slice o2 c.may.length k2, .slice o3 c.one.length k3] 66)).alloc (Obj.cells #[.string ⟨#[]⟩, .slice none 0 0, .slice none 0 0, .slice none 0 0] 42)) 42 (.string c.nm) (.slice none 0 0) (.slice none 0 0) (.slice none 0 0); simpa using this
  rintro W1 ⟨b1, a1, r1, u1⟩
  have hz := u1.lt
  refine (C1.out W1 b1).mono ?_
  rintro e w2 ⟨v, rfl, g1, rfl, hg1, hg1', st1, hb2⟩
  have A2 := Lib.hid (a1.below hb2); have R2 := Lib.hid (r1.below hb2); have U2 := Lib.hid (u1.below hb2); have S1 := Lib.hid st1; have B2 := Lib.hid (b1.trans (hb2.mono b1.size))
  clear a1 r1 u1 st1 hb2 b1 C1
  obtain ⟨p0, p1, p2, p3⟩ := A2.out.cells
  obtain ⟨q0, q1, q2, q3⟩ := U2.out.cells
  obtain ⟨s0, s1, s2, s3⟩ := U2.out.soft
  go_wp2_with fail
  refine calls_any' (fun W => Below w.heap.size w W ∧ Quad W w.heap.size 66 (.string c.nm) (.slice o1 c.must.length k1) (.slice o2 c.may.length k2) (.slice o3 c.one.length k3) ∧ Quad W (w.heap.size + 1) 42 (.string ⟨#[]⟩) (.slice none 0 0) (.slice none 0 0) (.slice none 0 0) ∧ Quad W (w.heap.size + 1 + 1) 42 (.string c.nm) (.slice (some ⟨g1, 0, none⟩) c.must.length c.must.length) (.slice none 0 0) (.slice none 0 0) ∧ RowS W g1 c.must.length c.must ∧ g1 < W.heap.size) ⟨B2.out.setCell (p := ⟨w.heap.size + 1 + 1, 1, none⟩) (by show w.heap.size ≤ w.heap.size + 1 + 1; omega) _, A2.out.far (by omega) _, R2.out.far (by omega) _, U2.out.set1 _, S1.out.far (by omega) _, (by simpa [World.setCell] using hg1')⟩ ?_
  clear A2 R2 U2 S1 B2 p0 p1 p2 p3 q0 q1 q2 q3 s0 s1 s2 s3 hg1'
  rintro W3 ⟨b1, a1, r1, u1, st1, hg1'⟩
  refine (C2.out W3 b1).mono ?_
  rintro e w4 ⟨v, rfl, g2, rfl, hg2, hg2', st2, hb2⟩
  have A2 := Lib.hid (a1.below hb2); have R2 := Lib.hid (r1.below hb2); have U2 := Lib.hid (u1.below hb2); have S1 := Lib.hid (st1.below hb2); have S2 := Lib.hid st2; have B2 := Lib.hid (b1.trans (hb2.mono b1.size))
  clear a1 r1 u1 st1 st2 hb2 b1 C2
  obtain ⟨p0, p1, p2, p3⟩ := A2.out.cells
  obtain ⟨q0, q1, q2, q3⟩ := U2.out.cells
  obtain ⟨s0, s1, s2, s3⟩ := U2.out.soft
  go_wp2_with fail
  refine calls_any' (fun W => Below w.heap.size w W ∧ Quad W w.heap.size 66 (.string c.nm) (.slice o1 c.must.length k1) (.slice o2 c.may.length k2) (.slice o3 c.one.length k3) ∧ Quad W (w.heap.size + 1) 42 (.string ⟨#[]⟩) (.slice none 0 0) (.slice none 0 0) (.slice none 0 0) ∧ Quad W (w.heap.size + 1 + 1) 42 (.string c.nm) (.slice (some ⟨g1, 0, none⟩) c.must.length c.must.length) (.slice (some ⟨g2, 0, none⟩) c.may.length c.may.length) (.slice none 0 0) ∧ RowS W g1 c.must.length c.must ∧ RowS W g2 c.may.length c.may ∧ g2 < W.heap.size) ⟨B2.out.setCell (p := ⟨w.heap.size + 1 + 1, 2, none⟩) (by show w.heap.size ≤ w.heap.size + 1 + 1; omega) _, A2.out.far (by omega) _, R2.out.far (by omega) _, U2.out.set2 _, S1.out.far (by omega) _, S2.out.far (by omega) _, (by simpa [World.setCell] using hg2')⟩ ?_
  clear A2 R2 U2 S1 S2 B2 p0 p1 p2 p3 q0 q1 q2 q3 s0 s1 s2 s3 hg2'
  rintro W5 ⟨b1, a1, r1, u1, st1, st2, hg2'⟩
  refine (C3.out W5 b1).mono ?_
  rintro e w6 ⟨v, rfl, g3, rfl, hg3, hg3', st3, hb2⟩
  have R2 := Lib.hid (r1.below hb2); have U2 := Lib.hid (u1.below hb2); have S1 := Lib.hid (st1.below hb2); have S2 := Lib.hid (st2.below hb2); have S3 := Lib.hid st3; have B2 := Lib.hid (b1.trans (hb2.mono b1.size))
  clear a1 r1 u1 st1 st2 st3 hb2 b1 C3
  obtain ⟨q0, q1, q2, q3⟩ := U2.out.cells
  obtain ⟨s0, s1, s2, s3⟩ := U2.out.soft
  have TE := ((((R2.out.far (R := w.heap.size + 1 + 1) (j := 3) (by omega) (.slice (some ⟨g3, 0, none⟩) c.one.length c.one.length)).set0 (.string c.nm)).set1 (.slice (some ⟨g1, 0, none⟩) c.must.length c.must.length)).set2 (.slice (some ⟨g2, 0, none⟩) c.may.length c.may.length)).set3 (.slice (some ⟨g3, 0, none⟩) c.one.length c.one.length)
  obtain ⟨j0, j1, j2, j3⟩ := TE.cells
  obtain ⟨d0, d1, d2, d3⟩ := R2.out.cells
  obtain ⟨e0, e1, e2, e3⟩ := R2.out.soft
  clear TE
  go_wp2_with fail
  refine bodyPost_ret (v := .agg #[.string c.nm, .slice (some ⟨g1, 0, none⟩) c.must.length c.must.length, .slice (some ⟨g2, 0, none⟩) c.may.length c.may.length, .slice (some ⟨g3, 0, none⟩) c.one.length c.one.length]) (by simp [results, Try.results45, go_sem, j0, j1, j2, j3]) rfl ⟨g1, g2, g3, rfl, ⟨by omega, by omega, by omega, ?_, ?_, ?_, ?_⟩, ?_⟩
  · simpa [World.setCell] using hg3'
  · exact ((((S1.out.far (by omega) _).far (by omega) _).far (by omega) _).far (by omega) _).far (by omega) _
  · exact ((((S2.out.far (by omega) _).far (by omega) _).far (by omega) _).far (by omega) _).far (by omega) _
  · exact ((((S3.out.far (by omega) _).far (by omega) _).far (by omega) _).far (by omega) _).far (by omega) _
  · exact ((((B2.out.setCell (p := ⟨w.heap.size + 1 + 1, 3, none⟩) (by show w.heap.size ≤ w.heap.size + 1 + 1; omega) _).setCell (p := ⟨w.heap.size + 1, 0, none⟩) (by show w.heap.size ≤ w.heap.size + 1; omega) _).setCell (p := ⟨w.heap.size + 1, 1, none⟩) (by show w.heap.size ≤ w.heap.size + 1; omega) _).setCell (p := ⟨w.heap.size + 1, 2, none⟩) (by show w.heap.size ≤ w.heap.size + 1; omega) _).setCell (p := ⟨w.heap.size + 1, 3, none⟩) (by show w.heap.size ≤ w.heap.size + 1; omega) _
/-- a block of classes, the first of them known; their rows lie in later blocks -/
def RowD (w : World) (g n : Nat) (l : List ClassV) : Prop := ∃ C : Array Value, w.heap[g]? = some (.cells C 42 (0, 0)) ∧ C.size = n * 4 ∧
  ∀ i (h : i < l.length), ∃ b1 b2 b3, C[i * 4]? = some (.string l[i].nm) ∧ C[i * 4 + 1]? = some (.slice (some ⟨b1, 0, none⟩) l[i].must.length l[i].must.length) ∧ C[i * 4 + 2]? = some (.slice (some ⟨b2, 0, none⟩) l[i].may.length l[i].may.length) ∧ C[i * 4 + 3]? = some (.slice (some ⟨b3, 0, none⟩) l[i].one.length l[i].one.length) ∧ g < b1 ∧ g < b2 ∧ g < b3 ∧ RowS w b1 l[i].must.length l[i].must ∧ RowS w b2 l[i].may.length l[i].may ∧ RowS w b3 l[i].one.length l[i].one
theorem RowD.lt {w : World} {g n : Nat} {l : List ClassV} (h : RowD w g n l) : g < w.heap.size := by obtain ⟨C, h1, _⟩ := h; exact (Array.getElem?_eq_some_iff.1 h1).1
theorem RowD.below {w w' : World} {g n : Nat} {l : List ClassV} (h : RowD w g n l) (hb : Below w.heap.size w w') : RowD w' g n l := by
  obtain ⟨C, h1, h2, h3⟩ := h
  refine ⟨C, (hb.block g (Array.getElem?_eq_some_iff.1 h1).1).trans h1, h2, fun i hi => ?_⟩
  obtain ⟨b1, b2, b3, c0, c1, c2, c3, l1, l2, l3, s1, s2, s3⟩ := h3 i hi
  exact ⟨b1, b2, b3, c0, c1, c2, c3, l1, l2, l3, s1.below hb, s2.below hb, s3.below hb⟩
theorem RowD.at {w : World} {g n k : Nat} {l : List ClassV} (h : RowD w g n l) (hk : k < n) :
    (∃ x0 x1 x2 x3, w.cell? ⟨g, k * 4, none⟩ = some x0 ∧ w.cell? ⟨g, k * 4 + 1, none⟩ = some x1 ∧ w.cell? ⟨g, k * 4 + 2, none⟩ = some x2 ∧ w.cell? ⟨g, k * 4 + 3, none⟩ = some x3) ∧ w.frozen? ⟨g, k * 4, none⟩ = false ∧ w.frozen? ⟨g, k * 4 + 1, none⟩ = false ∧ w.frozen? ⟨g, k * 4 + 2, none⟩ = false ∧ w.frozen? ⟨g, k * 4 + 3, none⟩ = false := by
  obtain ⟨C, h1, h2, _⟩ := h
  refine ⟨⟨C[k * 4]'(by omega), C[k * 4 + 1]'(by omega), C[k * 4 + 2]'(by omega), C[k * 4 + 3]'(by omega), ?_, ?_, ?_, ?_⟩, ?_, ?_, ?_, ?_⟩
  iterate 4
    · rw [cell_of_row w g _ C 42 (0, 0) h1]; exact Array.getElem?_eq_getElem (by omega)
  all_goals simp [World.frozen?, h1]
theorem RowD.set {w : World} {g n k b1 b2 b3 : Nat} {l : List ClassV} {A : ClassV} (h : RowD w g n l) (hl : l.length = k) (hk : k < n) (h1 : g < b1) (h2 : g < b2) (h3 : g < b3) (s1 : RowS w b1 A.must.length A.must) (s2 : RowS w b2 A.may.length A.may) (s3 : RowS w b3 A.one.length A.one) :
    RowD ((((w.setCell ⟨g, k * 4, none⟩ (.string A.nm)).setCell ⟨g, k * 4 + 1, none⟩ (.slice (some ⟨b1, 0, none⟩) A.must.length A.must.length)).setCell ⟨g, k * 4 + 2, none⟩ (.slice (some ⟨b2, 0, none⟩) A.may.length A.may.length)).setCell ⟨g, k * 4 + 3, none⟩ (.slice (some ⟨b3, 0, none⟩) A.one.length A.one.length)) g n (l ++ [A]) := by
  obtain ⟨C, e1, e2, e3⟩ := h
  refine ⟨_, heap_set _ (heap_set _ (heap_set _ (heap_set _ e1))), by simp [e2], fun i hi => ?_⟩
  simp only [Array.getElem?_setIfInBounds, Array.size_setIfInBounds]
  by_cases e : i = k
  · subst e
    have hL : (l ++ [A])[i] = A := by rw [List.getElem_append_right (by omega)]; simp
    rw [hL]
    refine ⟨b1, b2, b3, ?_, ?_, ?_, ?_, h1, h2, h3, (((s1.far (by omega) _).far (by omega) _).far (by omega) _).far (by omega) _, (((s2.far (by omega) _).far (by omega) _).far (by omega) _).far (by omega) _, (((s3.far (by omega) _).far (by omega) _).far (by omega) _).far (by omega) _⟩
    · rw [if_neg (by omega), if_neg (by omega), if_neg (by omega), if_pos rfl, if_pos (by omega)]
    · rw [if_neg (by omega), if_neg (by omega), if_pos rfl, if_pos (by omega)]
    · rw [if_neg (by omega), if_pos rfl, if_pos (by omega)]
    · rw [if_pos rfl, if_pos (by omega)]
  · have hi' : i < l.length := by simp at hi; omega
    rw [List.getElem_append_left hi']
    obtain ⟨b1, b2, b3, c0, c1, c2, c3, l1, l2, l3, s1, s2, s3⟩ := e3 i hi'
    refine ⟨b1, b2, b3, ?_, ?_, ?_, ?_, l1, l2, l3, (((s1.far (by omega) _).far (by omega) _).far (by omega) _).far (by omega) _, (((s2.far (by omega) _).far (by omega) _).far (by omega) _).far (by omega) _, (((s3.far (by omega) _).far (by omega) _).far (by omega) _).far (by omega) _⟩
    iterate 4
      · rw [if_neg (by omega), if_neg (by omega), if_neg (by omega), if_neg (by omega)]; assumption
theorem RowD.classes {w : World} {g n : Nat} {l : List ClassV} (h : RowD w g n l) : ClassesAt w (some ⟨g, 0, none⟩) l := by
  obtain ⟨C, h1, h2, h3⟩ := h
  refine .inr ⟨g, 0, rfl, (Array.getElem?_eq_some_iff.1 h1).1, fun i hi => ?_⟩
  obtain ⟨b1, b2, b3, c0, c1, c2, c3, l1, l2, l3, s1, s2, s3⟩ := h3 i hi
  refine ⟨_, _, _, ?_, ?_, ?_, ?_, ⟨_, _, rfl, s1.strs, Nat.le_refl _, fun e => by cases e⟩, ⟨_, _, rfl, s2.strs, Nat.le_refl _, fun e => by cases e⟩, ⟨_, _, rfl, s3.strs, Nat.le_refl _, fun e => by cases e⟩⟩
  all_goals (rw [cell_of_row w g _ C 42 (0, 0) h1, Nat.zero_add]; assumption)
/-- a copy of classes, in new blocks -/
def CopyDs (w : World) (l : List ClassV) (v : Value) (w' : World) : Prop := ∃ g, v = .slice (some ⟨g, 0, none⟩) l.length l.length ∧ w.heap.size ≤ g ∧ RowD w' g l.length l ∧ Below w.heap.size w w'
set_option maxRecDepth 100000 in
set_option maxHeartbeats 1000000 in
theorem toClassS_row (ao : Option Addr) (d : List ClassV) (cap : Nat) (w : World) (hd : ClassesAt w ao d) (hf : FitsC d) :
    Calls Try.prog 21 #[.slice ao d.length cap] w fun e w' => ∃ v, e = .returned v ∧ CopyDs w d v w' := by
  have hl := hf.1
  have HD := Lib.hid hd; have HF := Lib.hid hf; clear hd hf
  obtain ⟨C, hC, hmk⟩ := makeCls d.length hl w
  have HC := Lib.hid hC; clear hC
  go_enter Try.func21, Try.ntmps21
  go_wp2
  clear hmk
  go_loopw [4] (fun i wr => ∃ k : Nat, k ≤ d.length ∧ i = .int .i64 k ∧ RowD wr w.heap.size d.length (d.take k) ∧ Below w.heap.size w wr) (fun i _ => d.length - (intOf i).toNat)
  case atStart => exact ⟨0, Nat.zero_le _, rfl, ⟨C, heap_alloc_new w _, HC.out, fun i h => by simp at h⟩, (Below.refl _ _).alloc (Nat.le_refl _) _⟩
  case round =>
    obtain ⟨k, hk, rfl, hR, hbel⟩ := hrel
    have HR := Lib.hid hR; clear hR
    have hsz := hbel.size
    by_cases hlt : k < d.length
    · obtain ⟨b, off, v1, v2, v3, rfl, hb0, hc⟩ := (HD.out.below hbel).at hlt
      obtain ⟨hc0, hc1, hc2, hc3, s1, s2, s3⟩ := hc
      have HV := Lib.hid (And.intro s1 (And.intro s2 s3)); clear s1 s2 s3
      have HZ := Lib.hid (HF.out.at hlt)
      have HT : Hid (d.take (k + 1) = d.take k ++ [d[k]]) := Lib.hid (List.take_succ_eq_append_getElem hlt)
      have HK : Hid ((d.take k).length = k) := Lib.hid (by rw [List.length_take]; omega)
      have hgw : w.heap.size < wr.heap.size := HR.out.lt
      generalize d[k] = A at *
      go_wp2_with fail
      refine (toClass_row A v1 v2 v3 wr HV.out.1 HV.out.2.1 HV.out.2.2 HZ.out).mono ?_
      rintro e w2 ⟨g1, g2, g3, rfl, hcp, hb2⟩
      have HR2 := Lib.hid (HR.out.below hb2)
      have B2 := Lib.hid (hbel.trans (hb2.mono hsz))
      have HCp := Lib.hid hcp
      have i1 := hcp.l1; have i2 := hcp.l2; have i3 := hcp.l3
      clear hb2 hc0 hc1 hc2 hc3 hcp HR
      obtain ⟨⟨x0, x1, x2, x3, c0, c1, c2, c3⟩, f0, f1, f2, f3⟩ := HR2.out.at hlt
      go_wp2
      go_roundw
      case rel => exact ⟨k + 1, by omega, by go_num, by rw [HT.out]; exact HR2.out.set HK.out hlt (by omega) (by omega) (by omega) HCp.out.t1 HCp.out.t2 HCp.out.t3, (((B2.out.setCell (Nat.le_refl _) _).setCell (Nat.le_refl _) _).setCell (Nat.le_refl _) _).setCell (Nat.le_refl _) _⟩
      case measure => simp [intOf]; omega
    · have e : d.take k = d := List.take_of_length_le (by omega)
      rw [e] at HR
      clear e
      go_wp2
      go_ret
      exact ⟨_, rfl, w.heap.size, rfl, Nat.le_refl _, HR.out, hbel⟩
end Go.Proofs.Ytmimobniihekiaa
/- The helpers of the laws: marks laid into texts, and found there again. -/
namespace Go.Proofs.Ytmimobniihekiaa
open Go.RowKit
attribute [local go_sem ↓] Go.wp_at_zero Go.wp_at_succ

theorem grown_setM (w : World) (q j : Nat) (v : Value) : w.grownBy (w.setCell ⟨q, j, none⟩ v) (some q) :=
  ⟨rfl, rfl, rfl, by simp [World.setCell], fun k _ hk => Below.heap_setCell _ _ _ _ (fun e => hk (by simp [e]))⟩
/-- n marks, from k on -/
def marksS (k n : Nat) : List ByteArray := (List.range n).map fun i => mkT (k + i)
theorem marksS_len (k n : Nat) : (marksS k n).length = n := by simp [marksS]
theorem marksS_succ (k n : Nat) : marksS k (n + 1) = marksS k n ++ [mkT (k + n)] := by simp [marksS, List.range_succ]
theorem marksS_get (k n i : Nat) (h : i < (marksS k n).length) : (marksS k n)[i] = mkT (k + i) := by simp [marksS]
/-- a block of n texts -/
def StrSh (w : World) (b n : Nat) : Prop := ∃ C : Array Value, w.heap[b]? = some (.cells C 9 (0, 0)) ∧ C.size = n
theorem RowS.sh {w : World} {g n : Nat} {l : List ByteArray} (h : RowS w g n l) : StrSh w g n := by obtain ⟨C, h1, h2, _⟩ := h; exact ⟨C, h1, h2⟩
theorem StrSh.lt {w : World} {b n : Nat} (h : StrSh w b n) : b < w.heap.size := by obtain ⟨C, h1, _⟩ := h; exact (Array.getElem?_eq_some_iff.1 h1).1
theorem StrSh.below {w w' : World} {b n : Nat} (h : StrSh w b n) (hb : Below w.heap.size w w') : StrSh w' b n := by
  obtain ⟨C, h1, h2⟩ := h
  exact ⟨C, (hb.block b (Array.getElem?_eq_some_iff.1 h1).1).trans h1, h2⟩
set_option maxRecDepth 100000 in
set_option maxHeartbeats 2000000 in
theorem markStringS_some (g n cap k : Nat) (w : World) (hn : n ≤ cap) (hm : n ≤ 1048576) (hk1 : 0 < k) (hk2 : k ≤ 10000000) (hB : StrSh w g cap) :
    Calls Try.prog 17 #[.slice (some ⟨g, 0, none⟩) n cap, .int .i64 k] w fun e w' => e = .returned (.int .i64 ((k + n : Nat) : Int)) ∧ RowS w' g cap (marksS k n) ∧ w.grownBy w' (some g) := by
  have hg := hB.lt
  have HB := Lib.hid hB; clear hB
  go_enter Try.func17, Try.ntmps17
  go_wp2
  go_loopw [1, 5] (fun t i wr => ∃ j : Nat, j ≤ n ∧ i = .int .i64 j ∧ t = .int .i64 ((k + j : Nat) : Int) ∧ RowS wr g cap (marksS k j) ∧ w.grownBy wr (some g)) (fun _ i _ => n - (intOf i).toNat)
  case atStart =>
    obtain ⟨C, h1, h2⟩ := HB.out
    exact ⟨0, Nat.zero_le _, rfl, rfl, ⟨C, h1, h2, fun i h => by simp [marksS] at h⟩, ⟨rfl, rfl, rfl, Nat.le_refl _, fun _ _ _ => rfl⟩⟩
  case round =>
    obtain ⟨j, hj, rfl, rfl, hR, hG⟩ := hrel
    have HR := Lib.hid hR; have HG := Lib.hid hG; clear hR hG
    by_cases hlt : j < n
    · have HMk := Lib.hid (marksS_succ k j)
      have HLn := Lib.hid (marksS_len k j)
      have g1 : (0 : Int) ≤ (j : Int) := by omega
      have g2 : (j : Int) < (n : Int) := by omega
      go_wp2_with fail
      refine (markText_any (k + j) wr (by omega) (by omega)).mono ?_
      rintro e w2 ⟨rfl, hb2⟩
      have HR2 := Lib.hid (HR.out.below hb2)
      have HG2 := Lib.hid (grown_tr HG.out (grown_of hb2 _))
      clear hb2
      obtain ⟨⟨x0, c0⟩, f0⟩ := HR2.out.at (k := j) (by omega)
      generalize mkT (k + j) = A at *
      go_wp2
      go_roundw
      case rel =>
        refine ⟨j + 1, by omega, by go_num, ?_, ?_, grown_tr HG2.out (grown_setM _ _ _ _)⟩
        · rw [show ((k + (j + 1) : Nat) : Int) = (k : Int) + (j : Int) + 1 by omega]
        · rw [HMk.out]; exact HR2.out.set HLn.out (by omega) A
      case measure => simp [intOf]; omega
    · have e : j = n := by omega
      subst e
      go_wp2
      go_ret
      exact ⟨ret_int' (by omega), HR.out, HG.out⟩
set_option maxHeartbeats 400000 in
theorem markStringS_none (ao : Option Addr) (cap k : Nat) (w : World) :
    Calls Try.prog 17 #[.slice ao 0 cap, .int .i64 k] w fun e w' => e = .returned (.int .i64 (k : Int)) ∧ w = w' := by
  go_enter Try.func17, Try.ntmps17
  go_wp2
  go_loop [1, 5] (fun t i => t = .int .i64 k ∧ i = .int .i64 0) (fun _ _ => 0)
  case atStart => exact ⟨rfl, rfl⟩
  case round =>
    obtain ⟨rfl, rfl⟩ := hrel
    go_wp2
    go_ret
    exact ⟨rfl, rfl⟩
/-- texts of the law's own are marked -/
theorem markStringS_any (v : Value) (V : List ByteArray) (B k : Nat) (w : World) (hown : w.ownsRow B 9 1 v V.length (ss V)) (hm : V.length ≤ 1048576) (hk1 : 0 < k) (hk2 : k ≤ 1000) :
    Calls Try.prog 17 #[v, .int .i64 k] w fun e w' => e = .returned (.int .i64 ((k + V.length : Nat) : Int)) ∧ w'.ownsRow B 9 1 v (marksS k V.length).length (ss (marksS k V.length)) ∧ w.grownBy w' v.ownBlock := by
  by_cases h0 : V.length = 0
  · obtain ⟨ao, cap, rfl⟩ := own_slice hown
    have hd0 : V = [] := List.length_eq_zero_iff.1 h0
    subst hd0
    exact (markStringS_none ao cap k w).mono fun e w' ⟨he, hw⟩ => by
      subst hw
      exact ⟨he, hown, ⟨rfl, rfl, rfl, Nat.le_refl _, fun _ _ _ => rfl⟩⟩
  · rcases hown.2 with ⟨rfl, hh⟩ | ⟨g, cap, cur, rfl, hb, hh, hc1, hc2, hc3, _⟩
    · omega
    · refine (markStringS_some g V.length cap k w hc1 hm hk1 (by omega) ⟨cur, hh, by omega⟩).mono fun e w' ⟨he, ⟨C, r1, r2, r3⟩, hg⟩ => ⟨he, ?_, hg⟩
      have hl := marksS_len k V.length
      refine ⟨by rw [ss_length]; omega, .inr ⟨g, cap, C, by rw [hl], hb, r1, by omega, hc2, by omega, ?_⟩⟩
      apply List.ext_getElem?
      intro i
      rw [Nat.mul_one]
      by_cases hi : i < (marksS k V.length).length
      · rw [List.getElem?_take_of_lt hi, Array.getElem?_toList, r3 i hi]
        unfold ss; rw [List.getElem?_map, List.getElem?_eq_getElem hi]; rfl
      · rw [List.getElem?_eq_none (by rw [List.length_take]; omega), List.getElem?_eq_none (by rw [ss_length]; omega)]
set_option maxRecDepth 100000 in
set_option maxHeartbeats 2000000 in
theorem heldStringS_any (ao : Option Addr) (n cap k : Nat) (w : World) (hd : StrsAt w ao (marksS k n)) (hm : n ≤ 1048576) (hk1 : 0 < k) (hk2 : k ≤ 1000) :
    Calls Try.prog 18 #[.slice ao n cap, .int .i64 k] w fun e w' => e = .returned (.int .i64 ((k + n : Nat) : Int)) ∧ Below w.heap.size w w' := by
  have HD := Lib.hid hd; clear hd
  go_enter Try.func18, Try.ntmps18
  go_wp2
  go_loopw [1, 5] (fun t i wr => ∃ j : Nat, j ≤ n ∧ i = .int .i64 j ∧ t = .int .i64 ((k + j : Nat) : Int) ∧ Below w.heap.size w wr) (fun _ i _ => n - (intOf i).toNat)
  case atStart => exact ⟨0, Nat.zero_le _, rfl, rfl, Below.refl _ _⟩
  case round =>
    obtain ⟨j, hj, rfl, rfl, hbel⟩ := hrel
    by_cases hlt : j < n
    · have hl := marksS_len k n
      obtain ⟨b, off, rfl, hb0, hd1⟩ := HD.out.at (k := j) (by omega)
      rw [marksS_get k n j] at hd1
      clear hl
      have HM1 := Lib.hid (fun W h => markText_from w (k + j) W (by omega) (by omega) h)
      rw [show ((k + j : Nat) : Int) = (k : Int) + (j : Int) by omega] at HM1 ⊢
      generalize mkT (k + j) = A at *
      have SK : Hid (∀ W : World, Below w.heap.size w W → (Below w.heap.size w W ∧ W.cell? ⟨b, off + j, none⟩ = some (.string A))) :=
        Lib.hid (fun W h => ⟨h, (h.cell (p := ⟨b, _, none⟩) hb0).trans hd1⟩)
      clear hd1
      have g1 : (0 : Int) ≤ (j : Int) := by omega
      have g2 : (j : Int) < (n : Int) := by omega
      have hbd := hbel.drew
      go_wp2_with fail
      go_region_held3 (fun W => Below w.heap.size w W ∧ W.cell? ⟨b, off + j, none⟩ = some (.string A))
        (exact SK.out _ (by assumption))
        (first | (go_at_call 42; refine (HM1.out _ (by assumption)).mono ?_; rintro e w2 ⟨rfl, hb2⟩) | (fail "none"))
      go_wp2
      go_roundw
      case rel => exact ⟨j + 1, by omega, by go_num, by rw [show ((k + (j + 1) : Nat) : Int) = (k : Int) + (j : Int) + 1 by omega], hb2⟩
      case measure => simp [intOf]; omega
    · have e : j = n := by omega
      subst e
      go_wp2
      go_ret
      exact ⟨ret_int' (by omega), hbel⟩
end Go.Proofs.Ytmimobniihekiaa
/- The helpers of the laws: an entry of the law's own is marked. -/
namespace Go.Proofs.Ytmimobniihekiaa
open Go.RowKit
attribute [local go_sem ↓] Go.wp_at_zero Go.wp_at_succ

/-- what stands outside the blocks from lo to below hi is as it was -/
def Mid (lo hi : Nat) (w w' : World) : Prop := w'.os = w.os ∧ w'.tape = w.tape ∧ w'.output = w.output ∧ w.heap.size ≤ w'.heap.size ∧ ∀ k, k < w.heap.size → (k < lo ∨ hi ≤ k) → w'.heap[k]? = w.heap[k]?
theorem Mid.refl (lo hi : Nat) (w : World) : Mid lo hi w w := ⟨rfl, rfl, rfl, Nat.le_refl _, fun _ _ _ => rfl⟩
theorem Mid.trans {lo hi : Nat} {a b c : World} (h : Mid lo hi a b) (g : Mid lo hi b c) : Mid lo hi a c :=
  ⟨g.1.trans h.1, g.2.1.trans h.2.1, g.2.2.1.trans h.2.2.1, Nat.le_trans h.2.2.2.1 g.2.2.2.1, fun k hk hx => (g.2.2.2.2 k (Nat.lt_of_lt_of_le hk h.2.2.2.1) hx).trans (h.2.2.2.2 k hk hx)⟩
theorem Mid.of_below {lo hi : Nat} {a b : World} (h : Below a.heap.size a b) : Mid lo hi a b := ⟨h.os, h.tape, h.output, h.size, fun k hk _ => h.block k hk⟩
theorem Mid.of_grown {lo hi r : Nat} {a b : World} (h : a.grownBy b (some r)) (h1 : lo ≤ r) (h2 : r < hi) : Mid lo hi a b :=
  ⟨h.os, h.tape, h.output, h.size, fun k hk hx => h.block k hk (by intro e; injection e with e; omega)⟩
theorem Mid.below {lo hi : Nat} {w a b : World} (h : Mid lo hi a b) (hb : Below w.heap.size w a) (hlo : w.heap.size ≤ lo) : Below w.heap.size w b :=
  hb.trans ⟨h.1, h.2.1, h.2.2.1, h.2.2.2.1, fun k hk => h.2.2.2.2 k (Nat.lt_of_lt_of_le hk hb.size) (.inl (by omega))⟩
/-- how many marks the first j take -/
def cntA (l : List AttrV) (j : Nat) : Nat := ((l.take j).map fun a => 1 + a.2.length).sum
theorem cntA_succ (l : List AttrV) (j : Nat) (h : j < l.length) : cntA l (j + 1) = cntA l j + (1 + l[j].2.length) := by
  unfold cntA; rw [List.take_succ_eq_append_getElem h, List.map_append, List.sum_append]; simp
theorem cntA_le (l : List AttrV) (j : Nat) : cntA l j ≤ cntA l l.length := by
  unfold cntA
  rw [List.take_length]
  have h := List.take_append_drop j l
  have : (l.map fun a => 1 + a.2.length).sum = ((l.take j).map fun a => 1 + a.2.length).sum + ((l.drop j).map fun a => 1 + a.2.length).sum := by
    rw [← List.sum_append, ← List.map_append, h]
  omega
theorem cntA_size (l : List AttrV) : cntA l l.length ≤ l.length + sizeAs l := by
  unfold cntA sizeAs
  rw [List.take_length]
  induction l with
  | nil => simp
  | cons a l ih =>
    simp only [List.map_cons, List.sum_cons, List.length_cons]
    unfold sizeA at *
    omega
end Go.Proofs.Ytmimobniihekiaa
/- EntryRight: the order of texts; the values of an attribute. -/
namespace Go.Proofs
open Go.Shelf
def Try.lays106_ren : Go.Shelf.Ren := ⟨fun | 106 => 41 | 213 => 60 | 265 => 78 | n => n, fun | 9 => 9 | 3 => 3 | n => n, fun | n => n⟩
theorem Try.lays106 : Go.Proofs.Lays.n106 Try.prog Try.lays106_ren := {
  mixed := by kernel_rfl
  f106 := Try.func41.trans (congrArg some (by kernel_rfl))
  f213 := Try.func60.trans (congrArg some (by kernel_rfl))
  f265 := Try.func78.trans (congrArg some (by kernel_rfl))
  t3 := Try.underlying3
  a3 := Try.isAgg3
  z3 := Try.sizeOf3
  v3 := Try.zeroValue3
  t9 := Try.underlying9
  a9 := Try.isAgg9
  z9 := Try.sizeOf9
  v9 := Try.zeroValue9 }
open Go.RowKit in
theorem Try.strings_Compare (a b : ByteArray) (w : World) :
    Calls Try.prog 41 #[.string a, .string b] w fun e w' => e = .returned (.int .i64 (Lib.compareBytes a.data.toList b.data.toList)) ∧ w' = w := Any.strings_Compare Try.lays106 a b w
namespace Ytmimobniihekiaa
open Go.RowKit
attribute [local go_sem ↓] Go.wp_at_zero Go.wp_at_succ

theorem compare_less : ∀ (a b : List UInt8), decide (0 ≤ Lib.compareBytes a b) = !(Op.bytesLess a b)
  | [], [] => rfl
  | [], _ :: _ => rfl
  | _ :: _, [] => rfl
  | a :: xs, b :: ys => by
    unfold Lib.compareBytes Op.bytesLess
    have ih := compare_less xs ys
    by_cases h1 : a < b
    · simp [h1]
    · by_cases h2 : b < a
      · have h3 : a ≠ b := by rintro rfl; exact h1 h2
        simp [h1, h2, h3]
      · have h3 : a = b := UInt8.le_antisymm (UInt8.not_lt.1 h2) (UInt8.not_lt.1 h1)
        subst h3
        simp [h1, ih]
/-- a list each of whose elements is less than the next -/
noncomputable def incB {α : Type} (lt : α → α → Bool) (l : List α) : Bool := @decide (∀ i (h : i + 1 < l.length), lt l[i] l[i + 1] = true) (Classical.propDecidable _)
theorem incB_yes {α : Type} {lt : α → α → Bool} {l : List α} (h : ∀ i (h : i + 1 < l.length), lt l[i] l[i + 1] = true) : incB lt l = true := @decide_eq_true _ (Classical.propDecidable _) h
theorem incB_no {α : Type} {lt : α → α → Bool} {l : List α} {k : Nat} (hk : k + 1 < l.length) (h : lt l[k] l[k + 1] = false) : incB lt l = false :=
  @decide_eq_false _ (Classical.propDecidable _) (fun g => by have := g k hk; rw [h] at this; cases this)
def normLt (x y : ByteArray) : Bool := Op.bytesLess (normS x).toList (normS y).toList
def nameLt (a b : AttrV) : Bool := Op.bytesLess a.1.toList b.1.toList
noncomputable def valsB (l : List ByteArray) : Bool := decide (1 ≤ l.length) && decide (l.length ≤ 4) && l.all valB && incB normLt l
noncomputable def attrB (a : AttrV) : Bool := nmL a.1 && valsB a.2
noncomputable def attrsB (l : List AttrV) : Bool := decide (l.length ≤ 8) && l.all attrB && incB nameLt l
noncomputable def rightB (d : RdnL) (l : List AttrV) : Bool := dnB d && decide (0 < d.length) && attrsB l
theorem FitsV.max {l : List ByteArray} (h : FitsV l) {k : Nat} (hk : k < l.length) : l[k].size ≤ maxLen := by have := h.at hk; unfold maxLen; omega
end Ytmimobniihekiaa
end Go.Proofs
/- SchemaRight: names in order. -/
namespace Go.Proofs.Ytmimobniihekiaa
open Go.RowKit
attribute [local go_sem ↓] Go.wp_at_zero Go.wp_at_succ

def strLt (x y : ByteArray) : Bool := Op.bytesLess x.toList y.toList
noncomputable def namesB (l : List ByteArray) : Bool := l.all nmL && incB strLt l
theorem compare_any (w0 : World) (a b : ByteArray) (w : World) (hB : Below w0.heap.size w0 w) :
    Calls Try.prog 41 #[.string a, .string b] w fun e w' => (∃ c : Int, e = .returned (.int .i64 c) ∧ decide (0 ≤ c) = !(strLt a b)) ∧ Below w0.heap.size w0 w' := by
  refine (Try.strings_Compare a b w).mono ?_
  rintro e w' ⟨rfl, rfl⟩
  exact ⟨⟨_, rfl, by rw [compare_less]; unfold strLt; rw [Lib.toList_data, Lib.toList_data]⟩, hB⟩
set_option maxRecDepth 100000 in
set_option maxHeartbeats 1000000 in
theorem incName_any (ao : Option Addr) (l : List ByteArray) (cap : Nat) (w : World) (hd : StrsAt w ao l) (hf : FitsV l) :
    Calls Try.prog 96 #[.slice ao l.length cap, .func (.func 41) #[] #[]] w fun e w' => e = .returned (.bool (incB strLt l)) ∧ Below w.heap.size w w' := by
  have hl := hf.1
  have HD := Lib.hid hd; have HF := Lib.hid hf; clear hd hf
  go_enter Try.func96, Try.ntmps96
  go_wp2
  go_loopw [5] (fun i wr => ∃ m : Nat, m ≤ l.length ∧ i = .int .i64 ((m : Int) + 1) ∧ (∀ j (h : j + 1 < l.length), j < m → strLt l[j] l[j + 1] = true) ∧ Below w.heap.size w wr) (fun i _ => l.length + 1 - (intOf i).toNat)
  case atStart => exact ⟨0, Nat.zero_le _, rfl, fun j _ h => absurd h (Nat.not_lt_zero _), Below.refl _ _⟩
  case round =>
    obtain ⟨m, hm, rfl, ha, hbel⟩ := hrel
    have Ha := Lib.hid ha; clear ha
    have hsz := hbel.size
    by_cases hlt : m + 1 < l.length
    · have hm0 : m < l.length := by omega
      obtain ⟨b, off, rfl, hw0, hd1⟩ := HD.out.at hm0
      obtain ⟨b', off', e, _, hd2⟩ := HD.out.at hlt
      cases e
      have hc1 := (hbel.cell (p := ⟨b, off + m, none⟩) hw0).trans hd1
      have hc2 := (hbel.cell (p := ⟨b, off + (m + 1), none⟩) hw0).trans hd2
      have hz1 := HF.out.max hm0
      have hz2 := HF.out.max hlt
      have g1 : (m : Int) + 1 < (l.length : Int) := by omega
      have g2 : (0 : Int) ≤ (m : Int) := by omega
      have g3 : (m : Int) < (l.length : Int) := by omega
      have g4 : (0 : Int) ≤ (m : Int) + 1 := by omega
      have HN : Hid (∀ j (h : j + 1 < l.length), j < m + 1 → strLt l[m] l[m + 1] = true → strLt l[j] l[j + 1] = true) := Lib.hid (fun j h hj hn => by
        by_cases e : j = m
        · subst e; exact hn
        · exact Ha.out j h (by omega))
      have HX : Hid (strLt l[m] l[m + 1] = false → incB strLt l = false) := Lib.hid (fun h => incB_no hlt h)
      generalize hx : l[m] = X at *
      generalize hy : l[m + 1] = Y at *
      clear hx hy
      have SK : Hid (∀ W : World, Below w.heap.size w W → (Below w.heap.size w W ∧ W.cell? ⟨b, off + m, none⟩ = some (.string X) ∧ W.cell? ⟨b, off + (m + 1), none⟩ = some (.string Y))) :=
        Lib.hid (fun W h => ⟨h, (h.cell (p := ⟨b, _, none⟩) hw0).trans hd1, (h.cell (p := ⟨b, _, none⟩) hw0).trans hd2⟩)
      have hbd := hbel.drew
      have hwr : IntKind.i64.wrap (m : Int) = (m : Int) := IntWalk.i64_in _ (by omega)
      have hwr2 : IntKind.i64.wrap ((m : Int) + 1 - 1) = (m : Int) := by rw [Int.add_sub_cancel]; exact hwr
      clear hc1 hc2 hd1 hd2
      cases hn : strLt X Y
      · have HX' := Lib.hid (HX.out hn)
        go_wp2_with fail
        go_region_held3 (fun W => Below w.heap.size w W ∧ W.cell? ⟨b, off + m, none⟩ = some (.string X) ∧ W.cell? ⟨b, off + (m + 1), none⟩ = some (.string Y))
          (exact SK.out _ (by assumption))
          (first | (go_at_call 41; refine (compare_any w X Y _ (by assumption)).mono ?_; rintro e w1 ⟨⟨c, rfl, hc⟩, hb1⟩; rw [hn] at hc; have hc0 : 0 ≤ c := (by simpa using hc); clear hc) | (fail "none"))
        all_goals
          go_wp2
          go_ret
          exact ⟨ret_bool (by rw [HX'.out]), hb1⟩
      · go_wp2_with fail
        go_region_held3 (fun W => Below w.heap.size w W ∧ W.cell? ⟨b, off + m, none⟩ = some (.string X) ∧ W.cell? ⟨b, off + (m + 1), none⟩ = some (.string Y))
          (exact SK.out _ (by assumption))
          (first | (go_at_call 41; refine (compare_any w X Y _ (by assumption)).mono ?_; rintro e w1 ⟨⟨c, rfl, hc⟩, hb1⟩; rw [hn] at hc; have hc0 : ¬ 0 ≤ c := (by simpa using hc); clear hc) | (fail "none"))
        all_goals
          go_wp2
          go_roundw
          case rel => exact ⟨m + 1, by omega, by go_num, fun j h hj => HN.out j h hj hn, hb1⟩
          case measure => simp [intOf]; omega
    · have HT : Hid (incB strLt l = true) := Lib.hid (incB_yes fun j h => Ha.out j h (by omega))
      have g1 : ¬ (m : Int) + 1 < (l.length : Int) := by omega
      go_wp2
      go_ret
      exact ⟨ret_bool (by rw [HT.out]), hbel⟩
set_option maxRecDepth 100000 in
set_option maxHeartbeats 1000000 in
theorem areNames_any (ao : Option Addr) (l : List ByteArray) (cap : Nat) (w : World) (hd : StrsAt w ao l) (hf : FitsV l) :
    Calls Try.prog 81 #[.slice ao l.length cap] w fun e w' => e = .returned (.bool (namesB l)) ∧ Below w.heap.size w w' := by
  have hl := hf.1
  have HD := Lib.hid hd; have HF := Lib.hid hf; clear hd hf
  go_enter Try.func81, Try.ntmps81
  go_wp2
  go_loopw [7] (fun i wr => ∃ k : Nat, k ≤ l.length ∧ i = .int .i64 k ∧ (l.take k).all nmL = true ∧ Below w.heap.size w wr) (fun i _ => l.length - (intOf i).toNat)
  case atStart => exact ⟨0, Nat.zero_le _, rfl, rfl, Below.refl _ _⟩
  case round =>
    obtain ⟨k, hk, rfl, ha, hbel⟩ := hrel
    have Ha := Lib.hid ha; clear ha
    have hsz := hbel.size
    by_cases hlt : k < l.length
    · obtain ⟨b, off, rfl, hb0, hc1⟩ := (HD.out.below hbel).at hlt
      have hz := HF.out.max hlt
      generalize hr : nmL l[k] = r at *
      have HR := Lib.hid hr; clear hr
      cases r
      · have HX : Hid (namesB l = false) := Lib.hid (by unfold namesB; rw [all_bad nmL l k hlt HR.out]; rfl)
        go_wp2_with (first | (go_at_call 66; refine (NameRight_any _ _ hz).mono ?_; rintro e w1 ⟨rfl, rfl⟩; rw [HR.out]) | (fail "none"))
        go_ret
        exact ⟨ret_bool (by rw [HX.out]), hbel⟩
      · have HT : Hid ((l.take (k + 1)).all nmL = true) := Lib.hid (by rw [all_take nmL l k hlt, Ha.out, HR.out]; rfl)
        go_wp2_with (first | (go_at_call 66; refine (NameRight_any _ _ hz).mono ?_; rintro e w1 ⟨rfl, rfl⟩; rw [HR.out]) | (fail "none"))
        go_roundw
        case rel => exact ⟨k + 1, by omega, by go_num, HT.out, hbel⟩
        case measure => simp [intOf]; omega
    · have e : l.take k = l := List.take_of_length_le (by omega)
      have HT : Hid (namesB l = incB strLt l) := Lib.hid (by unfold namesB; rw [← e, Ha.out, e]; rfl)
      clear e
      go_wp2_with fail
      refine (incName_any ao l cap wr (HD.out.below hbel) HF.out).mono ?_
      rintro e w1 ⟨rfl, hb1⟩
      have B1 := Lib.hid (hbel.trans (hb1.mono hsz))
      generalize incB strLt l = r at *
      go_wp2
      go_ret
      exact ⟨ret_bool (by rw [HT.out]), B1.out⟩
noncomputable def names10 (l : List ByteArray) : Bool := decide (l.length ≤ 10) && namesB l
set_option maxHeartbeats 1000000 in
theorem classNames_any (w0 : World) (v : Value) (l : List ByteArray) (w : World) (hB : Below w0.heap.size w0 w) (hd : SlV w0 v l) (hf : FitsV l) :
    Calls Try.prog 67 #[v] w fun e w' => e = .returned (.bool (names10 l)) ∧ Below w.heap.size w w' := by
  obtain ⟨ao, cap, rfl, hd⟩ := hd
  have HD := Lib.hid (hd.1.below hB); have HF := Lib.hid hf
  have hl := hf.1
  clear hd hf hB
  have HE : Hid (names10 l = (decide (l.length ≤ 10) && namesB l)) := Lib.hid rfl
  by_cases h : l.length ≤ 10
  · have g : (l.length : Int) ≤ 10 := by omega
    rw [decide_eq_true h] at HE
    go_enter Try.func67, Try.ntmps67
    go_wp2_with (first | (go_at_call 81; refine (areNames_any ao l cap _ HD.out HF.out).mono ?_; rintro e w1 ⟨rfl, hb1⟩; generalize namesB l = r at *) | (fail "none"))
    go_ret
    exact ⟨ret_bool (by rw [HE.out]; simp), hb1⟩
  · have g : ¬ (l.length : Int) ≤ 10 := by omega
    rw [decide_eq_false h] at HE
    go_enter Try.func67, Try.ntmps67
    go_wp2_with (fail "none")
    go_ret
    exact ⟨ret_bool (by rw [HE.out]; simp), Below.refl _ _⟩
end Go.Proofs.Ytmimobniihekiaa
