/- The draw of a text to be normalized; a number out of a code. -/
import Derived.Test.YtjajpdghamecoaaDraw1
import Derived.Test.YtjajpdghamecoaaText
namespace Go.Proofs.Ytjajpdghamecoaa
open Go.RowKit

theorem grown_fresh {w w1 w2 : World} {q : Nat} (h : w.grownBy w1 none) (g : w1.grownBy w2 (some q)) (hq : w.heap.size ≤ q) : w.grownBy w2 none :=
  ⟨g.os.trans h.os, g.tape.trans h.tape, g.output.trans h.output, Nat.le_trans h.size g.size, fun k hk _ => (g.block k (Nat.lt_of_lt_of_le hk h.size) (fun e => by have := Option.some.inj e; omega)).trans (h.block k hk (by simp))⟩
theorem grown_of_below {w w' : World} (h : Below w.heap.size w w') : w.grownBy w' none := ⟨h.os, h.tape, h.output, h.size, fun k hk _ => h.block k hk⟩
theorem below_of_grown {w w' : World} (h : w.grownBy w' none) : Below w.heap.size w w' := ⟨h.os, h.tape, h.output, h.size, fun k hk => h.block k hk (by simp)⟩
theorem Row.on {w w' : World} {ao : Option Addr} {len : Nat} (h : Row w w.heap.size ao len) (hg : w.grownBy w' none) : Row w' w'.heap.size ao len := by
  rcases h with h | ⟨b, off, h1, h2, h4⟩
  · exact .inl h
  · exact .inr ⟨b, off, h1, Nat.lt_of_lt_of_le h2 hg.size, fun j hj => by
      obtain ⟨v, hv, hv1⟩ := h4 j hj
      exact ⟨v, hg.cell hv (by simp), hv1⟩⟩
theorem Still.alloc {q : Nat} {w wr : World} (h : Still q w wr) (hq : q < w.heap.size) (C : Array Value) (T : TypeId) : Still q w (wr.alloc (.cells C T)) := h.later (g := none) (World.grownBy_alloc _ _ _) hq (fun k e => by cases e)

theorem zero_make (n : Nat) (hj : n ≤ 1000000) (W : World) :
    (Instr.makeSlice 22 (.int .i64 (n : Int)) (.int .i64 (n : Int))).run Try.prog W = .ok (.slice (some ⟨W.heap.size, 0, none⟩) n n) (W.alloc (.cells (madeCells #[.int .u8 0] n) 5)) :=
  run_make_row' (P := Try.prog) 22 5 (.int .u8 0) 1 Try.underlying22 Try.info5 rfl .i64 .i64 n (by omega) (by omega) W
theorem zero_at {W : World} {g n : Nat} (hh : W.heap[g]? = some (.cells (madeCells #[.int .u8 0] n) 5)) :
    (convert 22 9 (.slice (some ⟨g, 0, none⟩) n n)).run Try.prog W = .ok (.string ⟨(List.replicate n (0 : UInt8)).toArray⟩) W := by
  refine str22 _ ⟨g, 0, none⟩ n (List.replicate n 0) n (by simp) fun j hj => ?_
  rw [add_plain]
  unfold World.cell?
  rw [hh]
  simp at hj
  simp [madeCells, hj]
  rw [Nat.mod_one]; rfl
theorem zero_conv (n : Nat) (W : World) :
    (convert 22 9 (.slice (some ⟨W.heap.size, 0, none⟩) n n)).run Try.prog (W.alloc (.cells (madeCells #[.int .u8 0] n) 5)) = .ok (.string ⟨(List.replicate n (0 : UInt8)).toArray⟩) (W.alloc (.cells (madeCells #[.int .u8 0] n) 5)) := zero_at (heap_alloc_new W _)
theorem zero_conv_d (n : Nat) (W : World) :
    (convert 22 9 (.slice (some ⟨W.heap.size, 0, none⟩) n n)).run Try.prog (W.alloc (.cells (madeCells #[.int .u8 0] n) 5)).drew = .ok (.string ⟨(List.replicate n (0 : UInt8)).toArray⟩) (W.alloc (.cells (madeCells #[.int .u8 0] n) 5)).drew := by
  refine str22 _ ⟨W.heap.size, 0, none⟩ n (List.replicate n 0) n (by simp) fun j hj => ?_
  rw [add_plain]
  show (W.alloc (.cells (madeCells #[.int .u8 0] n) 5)).cell? _ = _
  rw [World.cell?_alloc_mark]
  simp at hj
  simp [madeCells, hj]
  rw [Nat.mod_one]; rfl
theorem zero_conv_o (n : Nat) (W : World) (C : Array Value) :
    (convert 22 9 (.slice (some ⟨W.heap.size, 0, none⟩) n n)).run Try.prog ((W.alloc (.cells (madeCells #[.int .u8 0] n) 5)).alloc (.cells C 9)) = .ok (.string ⟨(List.replicate n (0 : UInt8)).toArray⟩) ((W.alloc (.cells (madeCells #[.int .u8 0] n) 5)).alloc (.cells C 9)) := zero_at ((heap_alloc_old _ _ (r := W.heap.size) (by simp)).trans (heap_alloc_new W _))
theorem zero_conv_od (n : Nat) (W : World) (C : Array Value) :
    (convert 22 9 (.slice (some ⟨W.heap.size, 0, none⟩) n n)).run Try.prog ((W.alloc (.cells (madeCells #[.int .u8 0] n) 5)).alloc (.cells C 9)).drew = .ok (.string ⟨(List.replicate n (0 : UInt8)).toArray⟩) ((W.alloc (.cells (madeCells #[.int .u8 0] n) 5)).alloc (.cells C 9)).drew := zero_at (W := ((W.alloc (.cells (madeCells #[.int .u8 0] n) 5)).alloc (.cells C 9)).drew) ((heap_alloc_old _ _ (r := W.heap.size) (by simp)).trans (heap_alloc_new W _))
/-- behind a draw the zeros are as they were -/
theorem zero_after {q g n : Nat} {W W' : World} (hs : Still q W W') (hg : g ≠ q) (hh : W.heap[g]? = some (.cells (madeCells #[.int .u8 0] n) 5)) :
    (convert 22 9 (.slice (some ⟨g, 0, none⟩) n n)).run Try.prog W' = .ok (.string ⟨(List.replicate n (0 : UInt8)).toArray⟩) W' ∧ (convert 22 9 (.slice (some ⟨g, 0, none⟩) n n)).run Try.prog W'.drew = .ok (.string ⟨(List.replicate n (0 : UInt8)).toArray⟩) W'.drew :=
  have h : W'.heap[g]? = some (.cells (madeCells #[.int .u8 0] n) 5) := (hs.2.block g (Array.getElem?_eq_some_iff.1 hh).1 (fun e => hg (Option.some.inj e))).trans hh
  ⟨zero_at h, zero_at (W := W'.drew) h⟩
theorem Still.drew {q : Nat} {w wr : World} (h : Still q w wr) : Still q w wr.drew := ⟨h.1.same fun _ _ => rfl, grown_drew h.2⟩
theorem pick_from (q b n : Nat) (l : List ByteArray) (C : Array Value) (T : TypeId) (fr : Nat × Nat) (w0 W : World) (hs : Still q w0 W) (hb : b ≠ q) (hh : W.heap[b]? = some (.cells C T fr)) (hC : C = (l.map Value.string).toArray) (hl : l.length = n) (hn : 1 < n) (hn2 : n ≤ 100) :
    Calls Try.prog 55 #[.pointer (some ⟨q, 0, none⟩), .slice (some ⟨b, 0, none⟩) n n] W fun e w' => OneOf l e ∧ Still q w0 w' :=
  (pick_any q b n l C T fr W hs.1 hb hh hC hl hn hn2).mono fun _ _ h => ⟨h.1, hs.trans h.2⟩
theorem pick_both (q b n : Nat) (l : List ByteArray) (C : Array Value) (T : TypeId) (fr : Nat × Nat) (w0 W : World) (hs : Still q w0 W) (hb : b ≠ q) (hh : W.heap[b]? = some (.cells C T fr)) (hC : C = (l.map Value.string).toArray) (hl : l.length = n) (hn : 1 < n) (hn2 : n ≤ 100) :
    Calls Try.prog 55 #[.pointer (some ⟨q, 0, none⟩), .slice (some ⟨b, 0, none⟩) n n] W fun e w' => OneOf l e ∧ Still q w0 w' ∧ Still q W w' :=
  (pick_any q b n l C T fr W hs.1 hb hh hC hl hn hn2).mono fun _ _ h => ⟨h.1, hs.trans h.2, h.2⟩
theorem size_up (W : World) (o : Obj) : (W.alloc o).heap.size = W.heap.size + 1 := Array.size_push ..
theorem look_new (W : World) (o : Obj) (b : Nat) (hb : b = W.heap.size) : (W.alloc o).heap[b]? = some o := by subst hb; exact heap_alloc_new W o
theorem look_old (W : World) (o : Obj) (b : Nat) (x : Obj) (h : W.heap[b]? = some x) : (W.alloc o).heap[b]? = some x := (heap_alloc_old W o (r := b) (Array.getElem?_eq_some_iff.1 h).1).trans h
theorem zero_next {q g n : Nat} {W W' : World} (hs : Still q W W') (hg : g ≠ q) (hh : W.heap[g]? = some (.cells (madeCells #[.int .u8 0] n) 5)) :
    (convert 22 9 (.slice (some ⟨g, 0, none⟩) n n)).run Try.prog W' = .ok (.string ⟨(List.replicate n (0 : UInt8)).toArray⟩) W' := (zero_after hs hg hh).1
theorem drew_heap (W : World) : W.drew.heap = W.heap := rfl
theorem look_z1 (W : World) (o : Obj) : (W.alloc o).heap[W.heap.size]? = some o := heap_alloc_new W o
theorem look_z2 (W : World) (o x : Obj) : ((W.alloc o).alloc x).heap[W.heap.size]? = some o := look_old _ x _ o (heap_alloc_new W o)
theorem look_z3 (W : World) (o x : Obj) : ((W.alloc x).alloc o).heap[W.heap.size + 1]? = some o := look_new _ o _ (size_up W x).symm
/-- some string of at most n bytes -/
def TextTo (n : Nat) (e : Ending) : Prop := ∃ t : ByteArray, e = .returned (.string t) ∧ t.size ≤ n


end Go.Proofs.Ytjajpdghamecoaa
