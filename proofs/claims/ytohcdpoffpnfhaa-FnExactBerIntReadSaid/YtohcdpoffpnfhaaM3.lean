/- Merged texts: Sh. -/
import Derived.Test.YtohcdpoffpnfhaaM2
import Derived.Test.YtohcdpoffpnfhaaM1
/- Shapes of data: where they lie, and who owns them. -/
namespace Go.Proofs.Ytohcdpoffpnfhaa
open Go.RowKit

/-- sets of blocks -/
abbrev Bs := Nat → Prop
/-- the blocks of S are as they were -/
def Same (S : Bs) (w w' : World) : Prop := ∀ b, S b → b < w.heap.size → w'.heap[b]? = w.heap[b]?
/-- nothing but blocks of S is turned, and new ones come -/
structure Turn (S : Bs) (w w' : World) : Prop where
  os : w'.os = w.os
  tape : w'.tape = w.tape
  output : w'.output = w.output
  size : w.heap.size ≤ w'.heap.size
  block : ∀ k, k < w.heap.size → ¬ S k → w'.heap[k]? = w.heap[k]?
theorem Turn.refl (S : Bs) (w : World) : Turn S w w := ⟨rfl, rfl, rfl, Nat.le_refl _, fun _ _ _ => rfl⟩
theorem Turn.trans {S : Bs} {a b c : World} (h : Turn S a b) (g : Turn S b c) : Turn S a c :=
  ⟨g.os.trans h.os, g.tape.trans h.tape, g.output.trans h.output, Nat.le_trans h.size g.size, fun k hk hs => (g.block k (Nat.lt_of_lt_of_le hk h.size) hs).trans (h.block k hk hs)⟩
theorem Turn.wide {S S' : Bs} {a b : World} (h : Turn S a b) (hs : ∀ k, S k → S' k) : Turn S' a b :=
  ⟨h.os, h.tape, h.output, h.size, fun k hk hn => h.block k hk (fun x => hn (hs k x))⟩
theorem Turn.of_below {S : Bs} {a b : World} (h : Below a.heap.size a b) : Turn S a b := ⟨h.os, h.tape, h.output, h.size, fun k hk _ => h.block k hk⟩
theorem Turn.below {S : Bs} {w a b : World} (h : Turn S a b) (hb : Below w.heap.size w a) (hs : ∀ k, S k → w.heap.size ≤ k) : Below w.heap.size w b :=
  hb.trans ⟨h.os, h.tape, h.output, h.size, fun k hk => h.block k (Nat.lt_of_lt_of_le hk hb.size) (fun x => by have := hs k x; omega)⟩
theorem Turn.same {S S' : Bs} {a b : World} (h : Turn S a b) (hd : ∀ k, S' k → ¬ S k) : Same S' a b := fun k hk hl => h.block k hl (hd k hk)
theorem Turn.store {S : Bs} (w : World) {g : Nat} (j : Nat) (v : Value) (hg : S g) : Turn S w (w.setCell ⟨g, j, none⟩ v) :=
  ⟨rfl, rfl, rfl, by simp [World.setCell], fun k _ hk => Below.heap_setCell _ _ _ _ (fun e => hk (by rw [show k = g from e]; exact hg))⟩
theorem Same.of_below {S : Bs} {B : Nat} {a b : World} (h : Below B a b) (hs : ∀ k, S k → k < B) : Same S a b := fun k hk _ => h.block k (hs k hk)
theorem Same.of_below' {S : Bs} {a b : World} (h : Below a.heap.size a b) : Same S a b := fun k _ hl => h.block k hl
theorem Same.sub {S S' : Bs} {a b : World} (h : Same S a b) (hs : ∀ k, S' k → S k) : Same S' a b := fun k hk hl => h k (hs k hk) hl
theorem Same.set {S : Bs} (w : World) {g : Nat} (j : Nat) (v : Value) (hg : ¬ S g) : Same S w (w.setCell ⟨g, j, none⟩ v) :=
  fun k hk _ => Below.heap_setCell _ _ _ _ (fun e => hg (by rw [show g = k from e.symm]; exact hk))
theorem lt_of_same {w w' : World} {b : Nat} (h : b < w.heap.size) (e : w'.heap[b]? = w.heap[b]?) : b < w'.heap.size := by
  rw [Array.getElem?_eq_getElem h] at e
  exact (Array.getElem?_eq_some_iff.1 e).1
theorem cell_same {w w' : World} {b i : Nat} {sp : Option _} (e : w'.heap[b]? = w.heap[b]?) : w'.cell? ⟨b, i, sp⟩ = w.cell? ⟨b, i, sp⟩ := by
  unfold World.cell?; rw [e]

/-- cells from o on -/
def Cells (w : World) (g o : Nat) (cs : List Value) : Prop := ∀ j (h : j < cs.length), w.cell? ⟨g, o + j, none⟩ = some cs[j]
theorem Cells.same {w w' : World} {g o : Nat} {cs : List Value} (h : Cells w g o cs) (e : w'.heap[g]? = w.heap[g]?) : Cells w' g o cs := fun j hj => (cell_same e).trans (h j hj)
/-- a block's cells from o on; the block may be written -/
def RowAt (w : World) (g o : Nat) (cs : List Value) : Prop := ∃ (C : Array Value) (T : TypeId), w.heap[g]? = some (.cells C T (0, 0)) ∧ ∀ j (h : j < cs.length), C[o + j]? = some cs[j]
theorem RowAt.cong {w : World} {g o : Nat} {cs cs' : List Value} (h : RowAt w g o cs) (e : cs = cs') : RowAt w g o cs' := e ▸ h
theorem RowAt.cells {w : World} {g o : Nat} {cs : List Value} (h : RowAt w g o cs) : Cells w g o cs := by
  obtain ⟨C, T, h1, h2⟩ := h
  intro j hj
  rw [cell_of_row w g _ C T (0, 0) h1]; exact h2 j hj
theorem RowAt.soft {w : World} {g o : Nat} {cs : List Value} (h : RowAt w g o cs) (j : Nat) : w.frozen? ⟨g, j, none⟩ = false := by
  obtain ⟨C, T, h1, _⟩ := h
  simp [World.frozen?, h1]
theorem RowAt.lt {w : World} {g o : Nat} {cs : List Value} (h : RowAt w g o cs) : g < w.heap.size := by
  obtain ⟨C, T, h1, _⟩ := h
  exact (Array.getElem?_eq_some_iff.1 h1).1
theorem RowAt.same {w w' : World} {g o : Nat} {cs : List Value} (h : RowAt w g o cs) (e : w'.heap[g]? = w.heap[g]?) : RowAt w' g o cs := by
  obtain ⟨C, T, h1, h2⟩ := h
  exact ⟨C, T, e.trans h1, h2⟩
theorem RowAt.store {w : World} {g o j : Nat} {cs : List Value} (h : RowAt w g o cs) (hj : j < cs.length) (v : Value) : RowAt (w.setCell ⟨g, o + j, none⟩ v) g o (cs.set j v) := by
  obtain ⟨C, T, h1, h2⟩ := h
  refine ⟨_, T, heap_set v h1, fun i hi => ?_⟩
  have hi' : i < cs.length := by simpa using hi
  rw [Array.getElem?_setIfInBounds, List.getElem_set]
  by_cases e : j = i
  · subst e
    have := (Array.getElem?_eq_some_iff.1 (h2 j hj)).1
    rw [if_pos rfl, if_pos this, if_pos rfl]
  · rw [if_neg (by omega), if_neg e]; exact h2 i hi'
theorem RowAt.other {w : World} {g o j : Nat} {cs : List Value} (h : RowAt w g o cs) (hj : j < o ∨ o + cs.length ≤ j) (v : Value) : RowAt (w.setCell ⟨g, j, none⟩ v) g o cs := by
  obtain ⟨C, T, h1, h2⟩ := h
  refine ⟨_, T, heap_set v h1, fun i hi => ?_⟩
  rw [Array.getElem?_setIfInBounds, if_neg (by omega)]; exact h2 i hi
theorem RowAt.far {w : World} {g o R j : Nat} {cs : List Value} (h : RowAt w g o cs) (hne : g ≠ R) (v : Value) : RowAt (w.setCell ⟨R, j, none⟩ v) g o cs := h.same (Below.heap_setCell _ _ _ _ hne)

/-- a kind of data: its cells, its size, its marks -/
structure Enc (α : Type) where
  n : Nat
  At : Bs → World → α → List Value → Prop
  Own : Bs → World → α → List Value → Prop
  sz : α → Nat
  cnt : α → Nat
  mark : Nat → α → α
  long : α → Prop
  c : Nat
  len : ∀ {S w x cs}, At S w x cs → cs.length = n
  frame : ∀ {S w w' x cs}, At S w x cs → Same S w w' → At S w' x cs
  wide : ∀ {S S' w x cs}, At S w x cs → (∀ b, S b → S' b) → At S' w x cs
  ownAt : ∀ {S w x cs}, Own S w x cs → At S w x cs
  ownFrame : ∀ {S w w' x cs}, Own S w x cs → Same S w w' → Own S w' x cs
  ownWide : ∀ {S S' w x cs}, Own S w x cs → (∀ b, S b → S' b) → Own S' w x cs
  cntMk : ∀ k x, cnt (mark k x) = cnt x
  cntLe : ∀ x, cnt x ≤ c * (sz x + 1)
theorem Enc.ownLen {α : Type} (e : Enc α) {S : Bs} {w : World} {x : α} {cs : List Value} (h : e.Own S w x cs) : cs.length = e.n := e.len (e.ownAt h)

/-- texts -/
def strE : Enc ByteArray where
  n := 1
  At := fun _ _ x cs => cs = [.string x]
  Own := fun _ _ x cs => cs = [.string x]
  sz := fun x => x.size
  cnt := fun _ => 1
  mark := fun k _ => mkT k
  long := fun x => x.size ≤ maxLen
  c := 1
  len := fun h => by rw [h]; rfl
  frame := fun h _ => h
  wide := fun h _ => h
  ownAt := fun h => h
  ownFrame := fun h _ => h
  ownWide := fun h _ => h
  cntMk := fun _ _ => rfl
  cntLe := fun _ => by omega
/-- numbers -/
def intE : Enc Int where
  n := 1
  At := fun _ _ x cs => cs = [.int .i64 x]
  Own := fun _ _ x cs => cs = [.int .i64 x]
  sz := fun _ => 0
  cnt := fun _ => 1
  mark := fun k _ => (k : Int)
  long := fun x => -9223372036854775808 ≤ x ∧ x ≤ 9223372036854775807
  c := 1
  len := fun h => by rw [h]; rfl
  frame := fun h _ => h
  wide := fun h _ => h
  ownAt := fun h => h
  ownFrame := fun h _ => h
  ownWide := fun h _ => h
  cntMk := fun _ _ => rfl
  cntLe := fun _ => by omega
def boolE : Enc Bool where
  n := 1
  At := fun _ _ x cs => cs = [.bool x]
  Own := fun _ _ x cs => cs = [.bool x]
  sz := fun _ => 0
  cnt := fun _ => 1
  mark := fun k _ => decide (k % 3 = 0)
  long := fun _ => True
  c := 1
  len := fun h => by rw [h]; rfl
  frame := fun h _ => h
  wide := fun h _ => h
  ownAt := fun h => h
  ownFrame := fun h _ => h
  ownWide := fun h _ => h
  cntMk := fun _ _ => rfl
  cntLe := fun _ => by omega
/-- the same data, bearing no marks: a field of a value -/
def stillE {α : Type} (e : Enc α) : Enc α := { e with cnt := fun _ => 0, mark := fun _ x => x, c := 0, cntMk := fun _ _ => rfl, cntLe := fun _ => by omega }
/-- one after the other -/
def pairE {α β : Type} (a : Enc α) (b : Enc β) : Enc (α × β) where
  n := a.n + b.n
  At := fun S w x cs => ∃ c d, cs = c ++ d ∧ a.At S w x.1 c ∧ b.At S w x.2 d
  Own := fun S w x cs => ∃ c d, ∃ S1 S2 : Bs, cs = c ++ d ∧ a.Own S1 w x.1 c ∧ b.Own S2 w x.2 d ∧ (∀ k, S1 k → S k) ∧ (∀ k, S2 k → S k) ∧ ∀ k, S1 k → ¬ S2 k
  sz := fun x => a.sz x.1 + b.sz x.2
  cnt := fun x => a.cnt x.1 + b.cnt x.2
  mark := fun k x => (a.mark k x.1, b.mark (k + a.cnt x.1) x.2)
  long := fun x => a.long x.1 ∧ b.long x.2
  c := a.c + b.c
  len := fun ⟨c, d, h, h1, h2⟩ => by rw [h, List.length_append, a.len h1, b.len h2]
  frame := fun ⟨c, d, h, h1, h2⟩ hs => ⟨c, d, h, a.frame h1 hs, b.frame h2 hs⟩
  wide := fun ⟨c, d, h, h1, h2⟩ hs => ⟨c, d, h, a.wide h1 hs, b.wide h2 hs⟩
  ownAt := fun ⟨c, d, _, _, h, h1, h2, g1, g2, _⟩ => ⟨c, d, h, a.wide (a.ownAt h1) g1, b.wide (b.ownAt h2) g2⟩
  ownFrame := fun ⟨c, d, S1, S2, h, h1, h2, g1, g2, g3⟩ hs => ⟨c, d, S1, S2, h, a.ownFrame h1 (hs.sub g1), b.ownFrame h2 (hs.sub g2), g1, g2, g3⟩
  ownWide := fun ⟨c, d, S1, S2, h, h1, h2, g1, g2, g3⟩ hs => ⟨c, d, S1, S2, h, h1, h2, fun k x => hs k (g1 k x), fun k x => hs k (g2 k x), g3⟩
  cntMk := fun k x => by simp only [a.cntMk, b.cntMk]
  cntLe := fun x => by
    have h1 := a.cntLe x.1; have h2 := b.cntLe x.2
    have h3 : a.c * (a.sz x.1 + 1) ≤ a.c * (a.sz x.1 + b.sz x.2 + 1) := Nat.mul_le_mul_left _ (by omega)
    have h4 : b.c * (b.sz x.2 + 1) ≤ b.c * (a.sz x.1 + b.sz x.2 + 1) := Nat.mul_le_mul_left _ (by omega)
    rw [Nat.add_mul]; omega
/-- the same data under another form -/
def isoE {α β : Type} (e : Enc α) (f : β → α) (g : α → β) (h : ∀ x, f (g x) = x) : Enc β where
  n := e.n
  At := fun S w x cs => e.At S w (f x) cs
  Own := fun S w x cs => e.Own S w (f x) cs
  sz := fun x => e.sz (f x)
  cnt := fun x => e.cnt (f x)
  mark := fun k x => g (e.mark k (f x))
  long := fun x => e.long (f x)
  c := e.c
  len := e.len
  frame := e.frame
  wide := e.wide
  ownAt := e.ownAt
  ownFrame := e.ownFrame
  ownWide := e.ownWide
  cntMk := fun k x => by simp only [h, e.cntMk]
  cntLe := fun x => e.cntLe _

section
variable {α : Type} (e : Enc α)
def cntL (l : List α) : Nat := (l.map e.cnt).sum
def szL (l : List α) : Nat := (l.map e.sz).sum
def mkAll : Nat → List α → List α
  | _, [] => []
  | k, x :: l => e.mark k x :: mkAll (k + e.cnt x) l
theorem cntL_cons (x : α) (l : List α) : cntL e (x :: l) = e.cnt x + cntL e l := by simp [cntL]
theorem szL_cons (x : α) (l : List α) : szL e (x :: l) = e.sz x + szL e l := by simp [szL]
theorem mkAll_length (k : Nat) (l : List α) : (mkAll e k l).length = l.length := by
  induction l generalizing k with
  | nil => rfl
  | cons x l ih => simp [mkAll, ih]
theorem mkAll_get (k : Nat) (l : List α) (i : Nat) (h : i < l.length) (h' : i < (mkAll e k l).length) : (mkAll e k l)[i] = e.mark (k + cntL e (l.take i)) l[i] := by
  induction l generalizing k i with
  | nil => simp at h
  | cons x l ih =>
    cases i with
    | zero => simp [mkAll, cntL]
    | succ i =>
      simp only [mkAll, List.getElem_cons_succ, List.take_succ_cons, cntL_cons]
      rw [ih (k + e.cnt x) i (by simpa using h), Nat.add_assoc]
theorem cntL_mk (k : Nat) (l : List α) : cntL e (mkAll e k l) = cntL e l := by
  induction l generalizing k with
  | nil => rfl
  | cons x l ih => simp only [mkAll, cntL_cons, ih, e.cntMk]
theorem cntL_le (l : List α) : cntL e l ≤ e.c * (l.length + szL e l) := by
  induction l with
  | nil => simp [cntL]
  | cons x l ih =>
    have h := e.cntLe x
    rw [cntL_cons, szL_cons, List.length_cons, show l.length + 1 + (e.sz x + szL e l) = (e.sz x + 1) + (l.length + szL e l) by omega, Nat.mul_add]
    omega
theorem cntL_take (l : List α) (k : Nat) (h : k < l.length) : cntL e (l.take (k + 1)) = cntL e (l.take k) + e.cnt l[k] := by
  unfold cntL; rw [List.take_succ_eq_append_getElem h, List.map_append, List.sum_append]; simp
theorem szL_take (l : List α) (k : Nat) (h : k < l.length) : szL e (l.take (k + 1)) = szL e (l.take k) + e.sz l[k] := by
  unfold szL; rw [List.take_succ_eq_append_getElem h, List.map_append, List.sum_append]; simp
theorem szL_le (l : List α) (k : Nat) : szL e (l.take k) ≤ szL e l := by
  have : szL e l = szL e (l.take k) + szL e (l.drop k) := by
    unfold szL; rw [← List.sum_append, ← List.map_append, List.take_append_drop]
  omega
theorem cntL_take_le (l : List α) (k : Nat) : cntL e (l.take k) ≤ cntL e l := by
  have : cntL e l = cntL e (l.take k) + cntL e (l.drop k) := by
    unfold cntL; rw [← List.sum_append, ← List.map_append, List.take_append_drop]
  omega
theorem szL_mem {l : List α} {x : α} (h : x ∈ l) : e.sz x ≤ szL e l := by
  induction l with
  | nil => simp at h
  | cons y l ih =>
    rw [szL_cons]
    rcases List.mem_cons.1 h with rfl | h
    · omega
    · have := ih h; omega
/-- rows behind a slice -/
def SlAt (S : Bs) (w : World) (l : List α) (v : Value) : Prop := ∃ ao cap, v = .slice ao l.length cap ∧ l.length ≤ cap ∧ (ao = none → cap = 0) ∧
  (l = [] ∨ ∃ b off, ao = some ⟨b, off, none⟩ ∧ S b ∧ b < w.heap.size ∧ ∀ i (h : i < l.length), ∃ cs, Cells w b (off + i * e.n) cs ∧ e.At S w l[i] cs)
/-- rows that are owned, each with blocks of its own -/
def SlOwn (S : Bs) (w : World) (l : List α) (v : Value) : Prop := ∃ ao cap, v = .slice ao l.length cap ∧ l.length ≤ cap ∧ (ao = none → cap = 0) ∧
  (l = [] ∨ ∃ (g : Nat) (P : Nat → Bs), ao = some ⟨g, 0, none⟩ ∧ S g ∧ (∀ i, i < l.length → ¬ P i g ∧ ∀ b, P i b → S b) ∧ (∀ i j, i < l.length → j < l.length → i ≠ j → ∀ b, P i b → ¬ P j b) ∧
    ∀ i (h : i < l.length), ∃ cs, RowAt w g (i * e.n) cs ∧ e.Own (P i) w l[i] cs)
variable {e}
theorem SlAt.frame {S : Bs} {w w' : World} {l : List α} {v : Value} (h : SlAt e S w l v) (hs : Same S w w') : SlAt e S w' l v := by
  obtain ⟨ao, cap, h1, h2, h3, h4⟩ := h
  refine ⟨ao, cap, h1, h2, h3, ?_⟩
  rcases h4 with h4 | ⟨b, off, g1, g2, g3, g4⟩
  · exact .inl h4
  · have hb := hs b g2 g3
    refine .inr ⟨b, off, g1, g2, lt_of_same g3 hb, fun i hi => ?_⟩
    obtain ⟨cs, q1, q2⟩ := g4 i hi
    exact ⟨cs, q1.same hb, e.frame q2 hs⟩
theorem SlAt.wide {S S' : Bs} {w : World} {l : List α} {v : Value} (h : SlAt e S w l v) (hs : ∀ b, S b → S' b) : SlAt e S' w l v := by
  obtain ⟨ao, cap, h1, h2, h3, h4⟩ := h
  refine ⟨ao, cap, h1, h2, h3, ?_⟩
  rcases h4 with h4 | ⟨b, off, g1, g2, g3, g4⟩
  · exact .inl h4
  · refine .inr ⟨b, off, g1, hs b g2, g3, fun i hi => ?_⟩
    obtain ⟨cs, q1, q2⟩ := g4 i hi
    exact ⟨cs, q1, e.wide q2 hs⟩
theorem SlOwn.at {S : Bs} {w : World} {l : List α} {v : Value} (h : SlOwn e S w l v) : SlAt e S w l v := by
  obtain ⟨ao, cap, h1, h2, h3, h4⟩ := h
  refine ⟨ao, cap, h1, h2, h3, ?_⟩
  rcases h4 with h4 | ⟨g, P, g1, g2, g3, g4, g5⟩
  · exact .inl h4
  · by_cases h0 : l = []
    · exact .inl h0
    have hl : 0 < l.length := List.length_pos_iff.2 h0
    refine .inr ⟨g, 0, g1, g2, ?_, fun i hi => ?_⟩
    · obtain ⟨cs, q1, _⟩ := g5 0 hl
      exact q1.lt
    · obtain ⟨cs, q1, q2⟩ := g5 i hi
      exact ⟨cs, by rw [Nat.zero_add]; exact q1.cells, e.wide (e.ownAt q2) (g3 i hi).2⟩
theorem SlOwn.frame {S : Bs} {w w' : World} {l : List α} {v : Value} (h : SlOwn e S w l v) (hs : Same S w w') : SlOwn e S w' l v := by
  obtain ⟨ao, cap, h1, h2, h3, h4⟩ := h
  refine ⟨ao, cap, h1, h2, h3, ?_⟩
  rcases h4 with h4 | ⟨g, P, g1, g2, g3, g4, g5⟩
  · exact .inl h4
  · refine .inr ⟨g, P, g1, g2, g3, g4, fun i hi => ?_⟩
    obtain ⟨cs, q1, q2⟩ := g5 i hi
    exact ⟨cs, q1.same (hs g g2 q1.lt), e.ownFrame q2 (hs.sub (g3 i hi).2)⟩
theorem SlOwn.wide {S S' : Bs} {w : World} {l : List α} {v : Value} (h : SlOwn e S w l v) (hs : ∀ b, S b → S' b) : SlOwn e S' w l v := by
  obtain ⟨ao, cap, h1, h2, h3, h4⟩ := h
  refine ⟨ao, cap, h1, h2, h3, ?_⟩
  rcases h4 with h4 | ⟨g, P, g1, g2, g3, g4, g5⟩
  · exact .inl h4
  · exact .inr ⟨g, P, g1, hs g g2, fun i hi => ⟨(g3 i hi).1, fun b x => hs b ((g3 i hi).2 b x)⟩, g4, g5⟩
end
/-- a slice of rows -/
def slE {α : Type} (e : Enc α) : Enc (List α) where
  n := 1
  At := fun S w l cs => ∃ v, cs = [v] ∧ SlAt e S w l v
  Own := fun S w l cs => ∃ v, cs = [v] ∧ SlOwn e S w l v
  sz := fun l => l.length + szL e l
  cnt := fun l => cntL e l
  mark := fun k l => mkAll e k l
  long := fun l => l.length ≤ 9223372036854775807 ∧ ∀ x ∈ l, e.long x
  c := e.c
  len := fun ⟨v, h, _⟩ => by rw [h]; rfl
  frame := fun ⟨v, h, h1⟩ hs => ⟨v, h, h1.frame hs⟩
  wide := fun ⟨v, h, h1⟩ hs => ⟨v, h, h1.wide hs⟩
  ownAt := fun ⟨v, h, h1⟩ => ⟨v, h, h1.at⟩
  ownFrame := fun ⟨v, h, h1⟩ hs => ⟨v, h, h1.frame hs⟩
  ownWide := fun ⟨v, h, h1⟩ hs => ⟨v, h, h1.wide hs⟩
  cntMk := fun k l => cntL_mk e k l
  cntLe := fun l => by
    have := cntL_le e l
    have h : e.c * (l.length + szL e l) ≤ e.c * (l.length + szL e l + 1) := Nat.mul_le_mul_left _ (by omega)
    omega
section
variable {α : Type} {e : Enc α}
theorem SlAt.sl {S : Bs} {w : World} {l : List α} {v : Value} (h : SlAt e S w l v) : ∃ ao cap, v = .slice ao l.length cap := by
  obtain ⟨ao, cap, h1, _⟩ := h; exact ⟨ao, cap, h1⟩
theorem SlAt.row {S : Bs} {w : World} {l : List α} {ao : Option Addr} {n cap : Nat} (h : SlAt e S w l (.slice ao n cap)) {k : Nat} (hk : k < l.length) :
    ∃ b off cs, ao = some ⟨b, off, none⟩ ∧ S b ∧ b < w.heap.size ∧ Cells w b (off + k * e.n) cs ∧ e.At S w l[k] cs := by
  obtain ⟨ao', cap', h1, h2, h3, h4⟩ := h
  injection h1 with h1 _ _
  subst h1
  rcases h4 with h4 | ⟨b, off, g1, g2, g3, g4⟩
  · subst h4; simp at hk
  · obtain ⟨cs, q1, q2⟩ := g4 k hk
    exact ⟨b, off, cs, g1, g2, g3, q1, q2⟩
/-- all but row i -/
def Rest (e : Enc α) (S : Bs) (w : World) (l : List α) (g i : Nat) (Sr : Bs) : Prop := ∃ P : Nat → Bs, S g ∧ (∀ j, j < l.length → ¬ P j g ∧ ∀ b, P j b → S b) ∧ (∀ i j, i < l.length → j < l.length → i ≠ j → ∀ b, P i b → ¬ P j b) ∧ P i = Sr ∧
  ∀ j (h : j < l.length), j ≠ i → ∃ cs, RowAt w g (j * e.n) cs ∧ e.Own (P j) w l[j] cs
theorem SlOwn.open {S : Bs} {w : World} {l : List α} {v : Value} (h : SlOwn e S w l v) {i : Nat} (hi : i < l.length) :
    ∃ g cap Sr cs, v = .slice (some ⟨g, 0, none⟩) l.length cap ∧ l.length ≤ cap ∧ S g ∧ ¬ Sr g ∧ (∀ b, Sr b → S b) ∧ Rest e S w l g i Sr ∧ RowAt w g (i * e.n) cs ∧ e.Own Sr w l[i] cs := by
  obtain ⟨ao, cap, h1, h2, h3, h4⟩ := h
  rcases h4 with h4 | ⟨g, P, g1, g2, g3, g4, g5⟩
  · subst h4; simp at hi
  · obtain ⟨cs, q1, q2⟩ := g5 i hi
    subst g1
    exact ⟨g, cap, P i, cs, h1, h2, g2, (g3 i hi).1, (g3 i hi).2, ⟨P, g2, g3, g4, rfl, fun j hj _ => g5 j hj⟩, q1, q2⟩
theorem idx_ne {n i j t u : Nat} (ht : t < n) (hu : u < n) (h : j ≠ i) : j * n + t ≠ i * n + u := by
  intro e
  have h1 : (j * n + t) / n = j := by rw [Nat.mul_comm, Nat.mul_add_div (by omega), Nat.div_eq_of_lt ht]; rfl
  have h2 : (i * n + u) / n = i := by rw [Nat.mul_comm, Nat.mul_add_div (by omega), Nat.div_eq_of_lt hu]; rfl
  rw [e, h2] at h1; exact h h1.symm
theorem RowAt.skip {w : World} {g i j n u : Nat} {cs : List Value} (h : RowAt w g (j * n) cs) (hl : cs.length = n) (hu : u < n) (hne : j ≠ i) (v : Value) : RowAt (w.setCell ⟨g, i * n + u, none⟩ v) g (j * n) cs := by
  obtain ⟨C, T, h1, h2⟩ := h
  refine ⟨_, T, heap_set v h1, fun t ht => ?_⟩
  rw [Array.getElem?_setIfInBounds, if_neg (idx_ne (by omega) hu hne).symm]; exact h2 t ht
theorem Rest.store {S Sr : Bs} {w : World} {l : List α} {g i : Nat} (h : Rest e S w l g i Sr) {u : Nat} (hu : u < e.n) (v : Value) : Rest e S (w.setCell ⟨g, i * e.n + u, none⟩ v) l g i Sr := by
  obtain ⟨P, h1, h2, h3, h4, h5⟩ := h
  refine ⟨P, h1, h2, h3, h4, fun j hj hne => ?_⟩
  obtain ⟨cs, q1, q2⟩ := h5 j hj hne
  exact ⟨cs, q1.skip (e.ownLen q2) hu hne v, e.ownFrame q2 (Same.set _ _ _ (h2 j hj).1)⟩
theorem Rest.store1 {S Sr : Bs} {w : World} {l : List α} {g i : Nat} (h : Rest e S w l g i Sr) (hn : e.n = 1) (v : Value) : Rest e S (w.setCell ⟨g, i, none⟩ v) l g i Sr := by
  have := h.store (u := 0) (by omega) v
  rw [hn, Nat.mul_one] at this
  exact this
theorem Rest.turn {S Sr : Bs} {w w' : World} {l : List α} {g i : Nat} (h : Rest e S w l g i Sr) (hi : i < l.length) (ht : Turn Sr w w') : Rest e S w' l g i Sr := by
  obtain ⟨P, h1, h2, h3, h4, h5⟩ := h
  subst h4
  refine ⟨P, h1, h2, h3, rfl, fun j hj hne => ?_⟩
  obtain ⟨cs, q1, q2⟩ := h5 j hj hne
  exact ⟨cs, q1.same (ht.block g q1.lt (h2 i hi).1), e.ownFrame q2 (ht.same (fun k hk => h3 j i hj hi hne k hk))⟩
theorem Rest.close {S Sr : Bs} {w : World} {l : List α} {g i cap : Nat} {x : α} {cs : List Value} (h : Rest e S w l g i Sr) (hi : i < l.length) (hc : l.length ≤ cap) (hr : RowAt w g (i * e.n) cs) (ho : e.Own Sr w x cs) :
    SlOwn e S w (l.set i x) (.slice (some ⟨g, 0, none⟩) l.length cap) := by
  obtain ⟨P, h1, h2, h3, h4, h5⟩ := h
  subst h4
  refine ⟨some ⟨g, 0, none⟩, cap, by rw [List.length_set], by rw [List.length_set]; exact hc, (fun x => by cases x), .inr ⟨g, P, rfl, h1, fun j hj => h2 j (by simpa using hj), fun a b ha hb => h3 a b (by simpa using ha) (by simpa using hb), fun j hj => ?_⟩⟩
  have hj' : j < l.length := by simpa using hj
  rw [List.getElem_set]
  by_cases e : i = j
  · subst e; rw [if_pos rfl]; exact ⟨cs, hr, ho⟩
  · rw [if_neg e]; exact h5 j hj' (fun x => e x.symm)
/-- the blocks that came between two worlds -/
abbrev Fresh (w w' : World) : Bs := fun b => w.heap.size ≤ b ∧ b < w'.heap.size
/-- marked up to j -/
def mkTo (e : Enc α) (k : Nat) (l : List α) (j : Nat) : List α := (mkAll e k l).take j ++ l.drop j
theorem mkTo_zero (k : Nat) (l : List α) : mkTo e k l 0 = l := by simp [mkTo]
theorem mkTo_all (k : Nat) (l : List α) : mkTo e k l l.length = mkAll e k l := by
  unfold mkTo; rw [List.drop_length, List.append_nil, List.take_of_length_le (by rw [mkAll_length]; exact Nat.le_refl _)]
theorem mkTo_length (k : Nat) (l : List α) (j : Nat) (h : j ≤ l.length) : (mkTo e k l j).length = l.length := by
  unfold mkTo; rw [List.length_append, List.length_take, List.length_drop, mkAll_length]; omega
theorem mkTo_get (k : Nat) (l : List α) (j : Nat) (h : j < l.length) (h' : j < (mkTo e k l j).length) : (mkTo e k l j)[j] = l[j] := by
  have hl : ((mkAll e k l).take j).length = j := by rw [List.length_take, mkAll_length]; omega
  have h2 : j < ((mkAll e k l).take j ++ l.drop j).length := h'
  have : ((mkAll e k l).take j ++ l.drop j)[j] = l[j] := by
    rw [List.getElem_append_right (by omega)]
    simp [hl]
  exact this
theorem mkTo_set (k : Nat) (l : List α) (j : Nat) (h : j < l.length) : (mkTo e k l j).set j (e.mark (k + cntL e (l.take j)) l[j]) = mkTo e k l (j + 1) := by
  have hm : (mkAll e k l)[j]'(by rw [mkAll_length]; exact h) = e.mark (k + cntL e (l.take j)) l[j] := mkAll_get e k l j h _
  have hl : ((mkAll e k l).take j).length = j := by rw [List.length_take, mkAll_length]; omega
  unfold mkTo
  rw [List.set_append_right _ _ (by omega), hl, Nat.sub_self, List.take_succ_eq_append_getElem (by rw [mkAll_length]; exact h), hm, List.append_assoc]
  have hd : l.drop j = l[j] :: l.drop (j + 1) := List.drop_eq_getElem_cons h
  generalize e.mark (k + cntL e (l.take j)) l[j] = y
  rw [hd, List.set_cons_zero]
  rfl
/-- rows in making: the block is g, the rows' own blocks come behind it -/
def Build (e : Enc α) (w : World) (g N : Nat) (l : List α) : Prop := ∃ (C : Array Value) (T : TypeId), w.heap[g]? = some (.cells C T (0, 0)) ∧ C.size = N * e.n ∧ ∃ P : Nat → Bs, (∀ i, i < l.length → ∀ b, P i b → g < b ∧ b < w.heap.size) ∧
  (∀ i j, i < l.length → j < l.length → i ≠ j → ∀ b, P i b → ¬ P j b) ∧ ∀ i (h : i < l.length), ∃ cs, (∀ j (h : j < cs.length), C[i * e.n + j]? = some cs[j]) ∧ e.Own (P i) w l[i] cs
theorem Build.new (w : World) (C : Array Value) (T : TypeId) (N : Nat) (hC : C.size = N * e.n) : Build e (w.alloc (.cells C T)) w.heap.size N [] :=
  ⟨C, T, heap_alloc_new w _, hC, fun _ _ => False, fun _ h => by simp at h, fun _ _ h => by simp at h, fun _ h => by simp at h⟩
theorem Build.lt {w : World} {g N : Nat} {l : List α} (h : Build e w g N l) : g < w.heap.size := by
  obtain ⟨C, T, h1, _⟩ := h; exact (Array.getElem?_eq_some_iff.1 h1).1
theorem Build.soft {w : World} {g N : Nat} {l : List α} (h : Build e w g N l) (j : Nat) : w.frozen? ⟨g, j, none⟩ = false := by
  obtain ⟨C, T, h1, _⟩ := h
  simp [World.frozen?, h1]
theorem Build.cell {w : World} {g N : Nat} {l : List α} (h : Build e w g N l) {k u : Nat} (hk : k < N) (hu : u < e.n) : ∃ x, w.cell? ⟨g, k * e.n + u, none⟩ = some x := by
  obtain ⟨C, T, h1, h2, _⟩ := h
  have : k * e.n + u < C.size := by
    have : (k + 1) * e.n ≤ N * e.n := Nat.mul_le_mul_right _ hk
    rw [Nat.add_mul] at this; omega
  exact ⟨C[k * e.n + u], by rw [cell_of_row w g _ C T (0, 0) h1]; exact Array.getElem?_eq_getElem this⟩
theorem Build.below {w w' : World} {g N : Nat} {l : List α} (h : Build e w g N l) (hb : Below w.heap.size w w') : Build e w' g N l := by
  obtain ⟨C, T, h1, h2, P, h3, h4, h5⟩ := h
  refine ⟨C, T, (hb.block g (Array.getElem?_eq_some_iff.1 h1).1).trans h1, h2, P, fun i hi b x => ⟨(h3 i hi b x).1, Nat.lt_of_lt_of_le (h3 i hi b x).2 hb.size⟩, h4, fun i hi => ?_⟩
  obtain ⟨cs, q1, q2⟩ := h5 i hi
  exact ⟨cs, q1, e.ownFrame q2 (Same.of_below' hb)⟩
/-- cells stored one after the other -/
def setRow (w : World) (g : Nat) : Nat → List Value → World
  | _, [] => w
  | o, v :: cs => setRow (w.setCell ⟨g, o, none⟩ v) g (o + 1) cs
def setArr (C : Array Value) : Nat → List Value → Array Value
  | _, [] => C
  | o, v :: cs => setArr (C.setIfInBounds o v) (o + 1) cs
theorem setArr_size (C : Array Value) (o : Nat) (cs : List Value) : (setArr C o cs).size = C.size := by
  induction cs generalizing C o with
  | nil => rfl
  | cons v cs ih => simp [setArr, ih]
theorem setArr_out (C : Array Value) (o : Nat) (cs : List Value) (i : Nat) (h : i < o ∨ o + cs.length ≤ i) : (setArr C o cs)[i]? = C[i]? := by
  induction cs generalizing C o with
  | nil => rfl
  | cons v cs ih =>
    simp only [List.length_cons] at h
    rw [setArr, ih _ _ (by omega), Array.getElem?_setIfInBounds, if_neg (by omega)]
theorem setArr_in (C : Array Value) (o : Nat) (cs : List Value) (j : Nat) (hj : j < cs.length) (h : o + cs.length ≤ C.size) : (setArr C o cs)[o + j]? = some cs[j] := by
  induction cs generalizing C o j with
  | nil => simp at hj
  | cons v cs ih =>
    simp only [List.length_cons] at h
    cases j with
    | zero => rw [setArr, setArr_out _ _ _ _ (by omega), Array.getElem?_setIfInBounds]; simp; omega
    | succ j =>
      have := ih (C.setIfInBounds o v) (o + 1) j (by simpa using hj) (by simp; omega)
      rw [setArr, show o + (j + 1) = o + 1 + j by omega, this]; rfl
theorem setRow_heap {w : World} {g : Nat} {C : Array Value} {T : TypeId} (o : Nat) (cs : List Value) (h : w.heap[g]? = some (.cells C T (0, 0))) : (setRow w g o cs).heap[g]? = some (.cells (setArr C o cs) T (0, 0)) := by
  induction cs generalizing w C o with
  | nil => exact h
  | cons v cs ih => exact ih (o + 1) (heap_set v h)
theorem setRow_other {w : World} {g k : Nat} (o : Nat) (cs : List Value) (h : k ≠ g) : (setRow w g o cs).heap[k]? = w.heap[k]? := by
  induction cs generalizing w o with
  | nil => rfl
  | cons v cs ih => exact (ih (o + 1)).trans (Below.heap_setCell _ _ _ _ h)
theorem setRow_size {w : World} {g : Nat} (o : Nat) (cs : List Value) : (setRow w g o cs).heap.size = w.heap.size := by
  induction cs generalizing w o with
  | nil => rfl
  | cons v cs ih => exact (ih (o + 1)).trans (by simp [World.setCell])
theorem setRow_below {B : Nat} {w0 w : World} {g : Nat} (o : Nat) (cs : List Value) (h : Below B w0 w) (hg : B ≤ g) : Below B w0 (setRow w g o cs) := by
  induction cs generalizing w o with
  | nil => exact h
  | cons v cs ih => exact ih (o + 1) (h.setCell hg _)
theorem Build.row {wr w2 : World} {g N : Nat} {l : List α} {x : α} {cs : List Value} {o : Nat} (h : Build e wr g N l) (hl : l.length < N) (ho' : o = l.length * e.n) (hb : Below wr.heap.size wr w2) (ho : e.Own (fun b => wr.heap.size ≤ b ∧ b < w2.heap.size) w2 x cs) :
    Build e (setRow w2 g o cs) g N (l ++ [x]) := by
  subst ho'
  have hg := h.lt
  have hn := e.ownLen ho
  obtain ⟨C, T, h1, h2, P, h3, h4, h5⟩ := h
  have hgd : g < wr.heap.size := (Array.getElem?_eq_some_iff.1 h1).1
  have hN : (l.length + 1) * e.n ≤ N * e.n := Nat.mul_le_mul_right _ hl
  rw [Nat.add_mul] at hN
  refine ⟨_, T, setRow_heap _ cs ((hb.block g hgd).trans h1), by rw [setArr_size]; exact h2, fun i => if i = l.length then (fun b => wr.heap.size ≤ b ∧ b < w2.heap.size) else P i, ?_, ?_, ?_⟩
  · intro i hi b x
    rw [setRow_size]
    have hi' : i < l.length + 1 := by simpa using hi
    by_cases e : i = l.length
    · simp only [if_pos e] at x; omega
    · simp only [if_neg e] at x
      have := h3 i (by omega) b x
      have := hb.size
      omega
  · intro i j hi hj hne b x y
    have hi' : i < l.length + 1 := by simpa using hi
    have hj' : j < l.length + 1 := by simpa using hj
    by_cases e1 : i = l.length
    · simp only [if_pos e1] at x
      rw [if_neg (by omega)] at y
      have := h3 j (by omega) b y
      omega
    · simp only [if_neg e1] at x
      by_cases e2 : j = l.length
      · simp only [if_pos e2] at y
        have := h3 i (by omega) b x
        omega
      · simp only [if_neg e2] at y
        exact h4 i j (by omega) (by omega) hne b x y
  · intro i hi
    have hi' : i < l.length + 1 := by simpa using hi
    have hS : ∀ S : Bs, ¬ S g → Same S w2 (setRow w2 g (l.length * e.n) cs) := fun S hs k hk _ => setRow_other _ _ (fun e => hs (e ▸ hk))
    by_cases e1 : i = l.length
    · subst e1
      refine ⟨cs, fun j hj => setArr_in _ _ _ _ hj (by omega), ?_⟩
      have hx : (l ++ [x])[l.length] = x := by rw [List.getElem_append_right (by omega)]; simp
      show e.Own (if l.length = l.length then _ else _) _ _ _
      rw [if_pos rfl, hx]
      exact e.ownFrame ho (hS _ (by omega))
    · obtain ⟨cs', q1, q2⟩ := h5 i (by omega)
      have hn' := e.ownLen q2
      have hm : (i + 1) * e.n ≤ l.length * e.n := Nat.mul_le_mul_right _ (by omega)
      rw [Nat.add_mul] at hm
      refine ⟨cs', fun j hj => (setArr_out _ _ _ _ (by omega)).trans (q1 j hj), ?_⟩
      have hx : (l ++ [x])[i] = l[i] := List.getElem_append_left (by omega)
      show e.Own (if i = l.length then _ else _) _ _ _
      rw [if_neg e1, hx]
      exact e.ownFrame (e.ownFrame q2 (Same.of_below' hb)) (hS _ (fun hx => by have := h3 i (by omega) g hx; omega))
theorem Build.own {w : World} {g : Nat} {l : List α} (h : Build e w g l.length l) : SlOwn e (fun b => g ≤ b ∧ b < w.heap.size) w l (.slice (some ⟨g, 0, none⟩) l.length l.length) := by
  have hg := h.lt
  obtain ⟨C, T, h1, h2, P, h3, h4, h5⟩ := h
  refine ⟨some ⟨g, 0, none⟩, l.length, rfl, Nat.le_refl _, (fun x => by cases x), .inr ⟨g, P, rfl, ⟨Nat.le_refl _, hg⟩, fun i hi => ⟨fun x => by have := h3 i hi g x; omega, fun b x => by have := h3 i hi b x; exact ⟨by omega, this.2⟩⟩, h4, fun i hi => ?_⟩⟩
  obtain ⟨cs, q1, q2⟩ := h5 i hi
  exact ⟨cs, ⟨C, T, h1, q1⟩, q2⟩
end
section
variable {α : Type} {e : Enc α}
theorem mk_open {S : Bs} {w : World} {d : List α} {k j n cap : Nat} {ao : Option Addr} (h : SlOwn e S w (mkTo e k d j) (.slice ao n cap)) (hj : j < d.length) :
    ∃ g Sr cs, ao = some ⟨g, 0, none⟩ ∧ d.length ≤ cap ∧ S g ∧ ¬ Sr g ∧ (∀ b, Sr b → S b) ∧ Rest e S w (mkTo e k d j) g j Sr ∧ RowAt w g (j * e.n) cs ∧ e.Own Sr w d[j] cs := by
  have hl := mkTo_length (e := e) k d j (by omega)
  obtain ⟨g, cap', Sr, cs, ev, hc, h1, h2, h3, h4, h5, h6⟩ := h.open (i := j) (by omega)
  injection ev with e1 e2 e3
  subst e3
  rw [mkTo_get k d j hj] at h6
  exact ⟨g, Sr, cs, e1, by omega, h1, h2, h3, h4, h5, h6⟩
theorem mk_close {S Sr : Bs} {w : World} {d : List α} {k j g cap : Nat} {cs : List Value} (h : Rest e S w (mkTo e k d j) g j Sr) (hj : j < d.length) (hc : d.length ≤ cap) (hr : RowAt w g (j * e.n) cs) (ho : e.Own Sr w (e.mark (k + cntL e (d.take j)) d[j]) cs) :
    SlOwn e S w (mkTo e k d (j + 1)) (.slice (some ⟨g, 0, none⟩) d.length cap) := by
  have hl := mkTo_length (e := e) k d j (by omega)
  have := h.close (i := j) (cap := cap) (by omega) (by omega) hr ho
  rw [mkTo_set k d j hj, hl] at this
  exact this
theorem at_pair {α β : Type} {a : Enc α} {b : Enc β} {S : Bs} {w : World} {x : α × β} {cs : List Value} (h : (pairE a b).At S w x cs) : ∃ c d, cs = c ++ d ∧ a.At S w x.1 c ∧ b.At S w x.2 d := h
theorem own_pair {α β : Type} {a : Enc α} {b : Enc β} {S : Bs} {w : World} {x : α × β} {cs : List Value} (h : (pairE a b).Own S w x cs) : ∃ c d, ∃ S1 S2 : Bs, cs = c ++ d ∧ a.Own S1 w x.1 c ∧ b.Own S2 w x.2 d ∧ (∀ k, S1 k → S k) ∧ (∀ k, S2 k → S k) ∧ ∀ k, S1 k → ¬ S2 k := h
theorem pair_at {α β : Type} {a : Enc α} {b : Enc β} {S : Bs} {w : World} {x : α} {y : β} {c d : List Value} (h1 : a.At S w x c) (h2 : b.At S w y d) : (pairE a b).At S w (x, y) (c ++ d) := ⟨c, d, rfl, h1, h2⟩
theorem pair_own {α β : Type} {a : Enc α} {b : Enc β} {S : Bs} (S1 S2 : Bs) {w : World} {x : α} {y : β} {c d : List Value} (h1 : a.Own S1 w x c) (h2 : b.Own S2 w y d) (g1 : ∀ k, S1 k → S k) (g2 : ∀ k, S2 k → S k) (g3 : ∀ k, S1 k → ¬ S2 k) : (pairE a b).Own S w (x, y) (c ++ d) := ⟨c, d, S1, S2, rfl, h1, h2, g1, g2, g3⟩
theorem own_str {S : Bs} {w : World} (x : ByteArray) : strE.Own S w x [.string x] := rfl
theorem own_int {S : Bs} {w : World} (x : Int) : intE.Own S w x [.int .i64 x] := rfl
theorem own_bool {S : Bs} {w : World} (x : Bool) : boolE.Own S w x [.bool x] := rfl
theorem own_sl {α : Type} {e : Enc α} {S : Bs} {w : World} {l : List α} {v : Value} (h : SlOwn e S w l v) : (slE e).Own S w l [v] := ⟨v, rfl, h⟩
theorem at_sl {α : Type} {e : Enc α} {S : Bs} {w : World} {l : List α} {v : Value} (h : SlAt e S w l v) : (slE e).At S w l [v] := ⟨v, rfl, h⟩
/-- no block -/
abbrev Nil : Bs := fun _ => False
end
end Go.Proofs.Ytohcdpoffpnfhaa
