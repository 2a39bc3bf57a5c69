/- Merged texts: MkT, Sh, ShOpen, Name, Name2, NormMath, Bytes, Norm, Norm2, Norm3. -/
import Derived.WalkKit
import Derived.WalkSpells
import Derived.WalkLawsBesides
import Derived.Lib.Hide
import Derived.Below
import Derived.Laws.Rows
import Derived.Lib.SmallJoins
import Derived.Deep.Slices
import Derived.OpenShut
import Derived.ChangeSame
import Derived.Test.YtohcdpoffpnfhaaGreatDoorRows
import Derived.Laws.BytesArg
import Derived.Laws.OwnMore
import Derived.Deep.AppendLies
import Derived.Lib.Strings
/- Marks as texts; a block's cell set. -/
namespace Go.Proofs.YtohcdpoffpnfhaaGreatDoor
open Go.RowKit

theorem heap_set {w : World} {q j : Nat} {C : Array Value} {T : TypeId} {fr : Nat × Nat} (v : Value) (h : w.heap[q]? = some (.cells C T fr)) : (w.setCell ⟨q, j, none⟩ v).heap[q]? = some (.cells (C.setIfInBounds j v) T fr) := by
  unfold World.setCell
  simp [Array.getElem?_modify, h]
def toS (l : List UInt8) : ByteArray := ⟨l.toArray⟩
/-- the digits of a number, ahead of others -/
def digs : Nat → Nat → List UInt8 → List UInt8
  | 0, _, o => o
  | f + 1, n, o => if n = 0 then o else digs f (n / 10) (UInt8.ofNat (48 + n % 10) :: o)
def mkL (n : Nat) : List UInt8 := 109 :: digs 20 n []
def mkT (n : Nat) : ByteArray := toS (mkL n)
theorem calls_by {P : Program} {f : Nat} {args : Array Value} {w : World} {Q : Ending → World → Prop} (R : World → Prop) (h : R w) (k : ∀ W, R W → Calls P f args W Q) : Calls P f args w Q := k w h
theorem more' {w0 W : World} (h : Below w0.heap.size w0 W) (o : Obj) : Below w0.heap.size w0 (W.alloc o) := h.alloc h.size o
/-- the cells of a block -/
def Blk (w : World) (g : Nat) (cs : List Value) : Prop := ∃ T : TypeId, w.heap[g]? = some (.cells cs.toArray T (0, 0))
theorem Blk.lt {w : World} {g : Nat} {cs : List Value} (h : Blk w g cs) : g < w.heap.size := by obtain ⟨T, h⟩ := h; exact (Array.getElem?_eq_some_iff.1 h).1
theorem Blk.cell {w : World} {g : Nat} {cs : List Value} (h : Blk w g cs) (j : Nat) {v : Value} (hv : cs[j]? = some v) : w.cell? ⟨g, j, none⟩ = some v := by
  obtain ⟨T, h⟩ := h
  rw [cell_of_row w g _ _ T (0, 0) h, List.getElem?_toArray]; exact hv
theorem Blk.soft {w : World} {g : Nat} {cs : List Value} (h : Blk w g cs) (j : Nat) : w.frozen? ⟨g, j, none⟩ = false := by
  obtain ⟨T, h⟩ := h
  simp [World.frozen?, h]
theorem Blk.below {w w' : World} {g : Nat} {cs : List Value} (h : Blk w g cs) (hb : Below w.heap.size w w') : Blk w' g cs := by
  have := h.lt; obtain ⟨T, h⟩ := h
  exact ⟨T, (hb.block g this).trans h⟩
theorem Blk.new (w : World) (T : TypeId) (cs : List Value) : Blk (w.alloc (.cells cs.toArray T)) w.heap.size cs := ⟨T, heap_alloc_new w _⟩
theorem Blk.alloc {w : World} {g : Nat} {cs : List Value} (h : Blk w g cs) (o : Obj) : Blk (w.alloc o) g cs := h.below (more' (Below.refl _ _) o)
theorem Blk.far {w : World} {g R j : Nat} {cs : List Value} (h : Blk w g cs) (hne : g ≠ R) (v : Value) : Blk (w.setCell ⟨R, j, none⟩ v) g cs := by
  obtain ⟨T, h⟩ := h
  exact ⟨T, (Below.heap_setCell _ _ _ _ hne).trans h⟩
theorem Blk.set {w : World} {g : Nat} {cs : List Value} (h : Blk w g cs) (j : Nat) (v : Value) : Blk (w.setCell ⟨g, j, none⟩ v) g (cs.set j v) := by
  obtain ⟨T, h⟩ := h
  exact ⟨T, by rw [heap_set v h, List.setIfInBounds_toArray]⟩
theorem ret_int {k : IntKind} {a b : Int} (h : a = b) : Ending.returned (.int k a) = .returned (.int k b) := by rw [h]
def leftR (n : Nat) (left : Int) : Int := if (n : Int) ≤ left then left - n else -1
theorem leftR_pos {n : Nat} {left : Int} (h : (n : Int) ≤ left) : leftR n left = left - n := by unfold leftR; rw [if_pos h]
theorem leftR_neg {n : Nat} {left : Int} (h : ¬ (n : Int) ≤ left) : leftR n left = -1 := by unfold leftR; rw [if_neg h]
theorem blk_at (w : World) (T : TypeId) (cs : List Value) {g : Nat} (h : g = w.heap.size) : Blk (w.alloc (.cells cs.toArray T)) g cs := by subst h; exact Blk.new w T cs
theorem setCell_size (w : World) (p : Addr) (v : Value) : (w.setCell p v).heap.size = w.heap.size := by simp [World.setCell]
theorem calls_int {P : Program} {f : Nat} {v : Value} {k : IntKind} {a b : Int} {w : World} {Q : Ending → World → Prop} (h : Calls P f #[v, .int k a] w Q) (e : a = b) : Calls P f #[v, .int k b] w Q := e ▸ h
end Go.Proofs.YtohcdpoffpnfhaaGreatDoor
/- Shapes of data: where they lie, and who owns them. -/
namespace Go.Proofs.YtohcdpoffpnfhaaGreatDoor
open Go.RowKit

/-- sets of blocks -/
abbrev Bs := Nat → Prop
/-- the blocks of S are as they were -/
def Same (S : Bs) (w w' : World) : Prop := ∀ b, S b → b < w.heap.size → w'.heap[b]? = w.heap[b]?
/-- nothing but blocks of S is turned, and new ones come -/
structure Turn (S : Bs) (w w' : World) : Prop where
  os : w'.os = w.os
  tape : w'.tape = w.tape
  output : w'.output = w.output
  size : w.heap.size ≤ w'.heap.size
  block : ∀ k, k < w.heap.size → ¬ S k → w'.heap[k]? = w.heap[k]?
theorem Turn.refl (S : Bs) (w : World) : Turn S w w := ⟨rfl, rfl, rfl, Nat.le_refl _, fun _ _ _ => rfl⟩
theorem Turn.trans {S : Bs} {a b c : World} (h : Turn S a b) (g : Turn S b c) : Turn S a c :=
  ⟨g.os.trans h.os, g.tape.trans h.tape, g.output.trans h.output, Nat.le_trans h.size g.size, fun k hk hs => (g.block k (Nat.lt_of_lt_of_le hk h.size) hs).trans (h.block k hk hs)⟩
theorem Turn.wide {S S' : Bs} {a b : World} (h : Turn S a b) (hs : ∀ k, S k → S' k) : Turn S' a b :=
  ⟨h.os, h.tape, h.output, h.size, fun k hk hn => h.block k hk (fun x => hn (hs k x))⟩
theorem Turn.of_below {S : Bs} {a b : World} (h : Below a.heap.size a b) : Turn S a b := ⟨h.os, h.tape, h.output, h.size, fun k hk _ => h.block k hk⟩
theorem Turn.below {S : Bs} {w a b : World} (h : Turn S a b) (hb : Below w.heap.size w a) (hs : ∀ k, S k → w.heap.size ≤ k) : Below w.heap.size w b :=
  hb.trans ⟨h.os, h.tape, h.output, h.size, fun k hk => h.block k (Nat.lt_of_lt_of_le hk hb.size) (fun x => by have := hs k x; omega)⟩
theorem Turn.same {S S' : Bs} {a b : World} (h : Turn S a b) (hd : ∀ k, S' k → ¬ S k) : Same S' a b := fun k hk hl => h.block k hl (hd k hk)
theorem Turn.store {S : Bs} (w : World) {g : Nat} (j : Nat) (v : Value) (hg : S g) : Turn S w (w.setCell ⟨g, j, none⟩ v) :=
  ⟨rfl, rfl, rfl, by simp [World.setCell], fun k _ hk => Below.heap_setCell _ _ _ _ (fun e => hk (by rw [show k = g from e]; exact hg))⟩
theorem Same.of_below {S : Bs} {B : Nat} {a b : World} (h : Below B a b) (hs : ∀ k, S k → k < B) : Same S a b := fun k hk _ => h.block k (hs k hk)
theorem Same.of_below' {S : Bs} {a b : World} (h : Below a.heap.size a b) : Same S a b := fun k _ hl => h.block k hl
theorem Same.sub {S S' : Bs} {a b : World} (h : Same S a b) (hs : ∀ k, S' k → S k) : Same S' a b := fun k hk hl => h k (hs k hk) hl
theorem Same.set {S : Bs} (w : World) {g : Nat} (j : Nat) (v : Value) (hg : ¬ S g) : Same S w (w.setCell ⟨g, j, none⟩ v) :=
  fun k hk _ => Below.heap_setCell _ _ _ _ (fun e => hg (by rw [show g = k from e.symm]; exact hk))
theorem lt_of_same {w w' : World} {b : Nat} (h : b < w.heap.size) (e : w'.heap[b]? = w.heap[b]?) : b < w'.heap.size := by
  rw [Array.getElem?_eq_getElem h] at e
  exact (Array.getElem?_eq_some_iff.1 e).1
theorem cell_same {w w' : World} {b i : Nat} {sp : Option _} (e : w'.heap[b]? = w.heap[b]?) : w'.cell? ⟨b, i, sp⟩ = w.cell? ⟨b, i, sp⟩ := by
  unfold World.cell?; rw [e]

/-- cells from o on -/
def Cells (w : World) (g o : Nat) (cs : List Value) : Prop := ∀ j (h : j < cs.length), w.cell? ⟨g, o + j, none⟩ = some cs[j]
theorem Cells.same {w w' : World} {g o : Nat} {cs : List Value} (h : Cells w g o cs) (e : w'.heap[g]? = w.heap[g]?) : Cells w' g o cs := fun j hj => (cell_same e).trans (h j hj)
/-- a block's cells from o on; the block may be written -/
def RowAt (w : World) (g o : Nat) (cs : List Value) : Prop := ∃ (C : Array Value) (T : TypeId), w.heap[g]? = some (.cells C T (0, 0)) ∧ ∀ j (h : j < cs.length), C[o + j]? = some cs[j]
theorem RowAt.cong {w : World} {g o : Nat} {cs cs' : List Value} (h : RowAt w g o cs) (e : cs = cs') : RowAt w g o cs' := e ▸ h
theorem RowAt.cells {w : World} {g o : Nat} {cs : List Value} (h : RowAt w g o cs) : Cells w g o cs := by
  obtain ⟨C, T, h1, h2⟩ := h
  intro j hj
  rw [cell_of_row w g _ C T (0, 0) h1]; exact h2 j hj
theorem RowAt.soft {w : World} {g o : Nat} {cs : List Value} (h : RowAt w g o cs) (j : Nat) : w.frozen? ⟨g, j, none⟩ = false := by
  obtain ⟨C, T, h1, _⟩ := h
  simp [World.frozen?, h1]
theorem RowAt.lt {w : World} {g o : Nat} {cs : List Value} (h : RowAt w g o cs) : g < w.heap.size := by
  obtain ⟨C, T, h1, _⟩ := h
  exact (Array.getElem?_eq_some_iff.1 h1).1
theorem RowAt.same {w w' : World} {g o : Nat} {cs : List Value} (h : RowAt w g o cs) (e : w'.heap[g]? = w.heap[g]?) : RowAt w' g o cs := by
  obtain ⟨C, T, h1, h2⟩ := h
  exact ⟨C, T, e.trans h1, h2⟩
theorem RowAt.store {w : World} {g o j : Nat} {cs : List Value} (h : RowAt w g o cs) (hj : j < cs.length) (v : Value) : RowAt (w.setCell ⟨g, o + j, none⟩ v) g o (cs.set j v) := by
  obtain ⟨C, T, h1, h2⟩ := h
  refine ⟨_, T, heap_set v h1, fun i hi => ?_⟩
  have hi' : i < cs.length := by simpa using hi
  rw [Array.getElem?_setIfInBounds, List.getElem_set]
  by_cases e : j = i
  · subst e
    have := (Array.getElem?_eq_some_iff.1 (h2 j hj)).1
    rw [if_pos rfl, if_pos this, if_pos rfl]
  · rw [if_neg (by omega), if_neg e]; exact h2 i hi'
theorem RowAt.other {w : World} {g o j : Nat} {cs : List Value} (h : RowAt w g o cs) (hj : j < o ∨ o + cs.length ≤ j) (v : Value) : RowAt (w.setCell ⟨g, j, none⟩ v) g o cs := by
  obtain ⟨C, T, h1, h2⟩ := h
  refine ⟨_, T, heap_set v h1, fun i hi => ?_⟩
  rw [Array.getElem?_setIfInBounds, if_neg (by omega)]; exact h2 i hi
theorem RowAt.far {w : World} {g o R j : Nat} {cs : List Value} (h : RowAt w g o cs) (hne : g ≠ R) (v : Value) : RowAt (w.setCell ⟨R, j, none⟩ v) g o cs := h.same (Below.heap_setCell _ _ _ _ hne)

/-- a kind of data: its cells, its size, its marks -/
structure Enc (α : Type) where
  n : Nat
  At : Bs → World → α → List Value → Prop
  Own : Bs → World → α → List Value → Prop
  sz : α → Nat
  cnt : α → Nat
  mark : Nat → α → α
  long : α → Prop
  c : Nat
  len : ∀ {S w x cs}, At S w x cs → cs.length = n
  frame : ∀ {S w w' x cs}, At S w x cs → Same S w w' → At S w' x cs
  wide : ∀ {S S' w x cs}, At S w x cs → (∀ b, S b → S' b) → At S' w x cs
  ownAt : ∀ {S w x cs}, Own S w x cs → At S w x cs
  ownFrame : ∀ {S w w' x cs}, Own S w x cs → Same S w w' → Own S w' x cs
  ownWide : ∀ {S S' w x cs}, Own S w x cs → (∀ b, S b → S' b) → Own S' w x cs
  cntMk : ∀ k x, cnt (mark k x) = cnt x
  cntLe : ∀ x, cnt x ≤ c * (sz x + 1)
theorem Enc.ownLen {α : Type} (e : Enc α) {S : Bs} {w : World} {x : α} {cs : List Value} (h : e.Own S w x cs) : cs.length = e.n := e.len (e.ownAt h)

/-- texts -/
def strE : Enc ByteArray where
  n := 1
  At := fun _ _ x cs => cs = [.string x]
  Own := fun _ _ x cs => cs = [.string x]
  sz := fun x => x.size
  cnt := fun _ => 1
  mark := fun k _ => mkT k
  long := fun x => x.size ≤ maxLen
  c := 1
  len := fun h => by rw [h]; rfl
  frame := fun h _ => h
  wide := fun h _ => h
  ownAt := fun h => h
  ownFrame := fun h _ => h
  ownWide := fun h _ => h
  cntMk := fun _ _ => rfl
  cntLe := fun _ => by omega
/-- numbers -/
def intE : Enc Int where
  n := 1
  At := fun _ _ x cs => cs = [.int .i64 x]
  Own := fun _ _ x cs => cs = [.int .i64 x]
  sz := fun _ => 0
  cnt := fun _ => 1
  mark := fun k _ => (k : Int)
  long := fun x => -9223372036854775808 ≤ x ∧ x ≤ 9223372036854775807
  c := 1
  len := fun h => by rw [h]; rfl
  frame := fun h _ => h
  wide := fun h _ => h
  ownAt := fun h => h
  ownFrame := fun h _ => h
  ownWide := fun h _ => h
  cntMk := fun _ _ => rfl
  cntLe := fun _ => by omega
def boolE : Enc Bool where
  n := 1
  At := fun _ _ x cs => cs = [.bool x]
  Own := fun _ _ x cs => cs = [.bool x]
  sz := fun _ => 0
  cnt := fun _ => 1
  mark := fun k _ => decide (k % 3 = 0)
  long := fun _ => True
  c := 1
  len := fun h => by rw [h]; rfl
  frame := fun h _ => h
  wide := fun h _ => h
  ownAt := fun h => h
  ownFrame := fun h _ => h
  ownWide := fun h _ => h
  cntMk := fun _ _ => rfl
  cntLe := fun _ => by omega
/-- the same data, bearing no marks: a field of a value -/
def stillE {α : Type} (e : Enc α) : Enc α := { e with cnt := fun _ => 0, mark := fun _ x => x, c := 0, cntMk := fun _ _ => rfl, cntLe := fun _ => by omega }
/-- one after the other -/
def pairE {α β : Type} (a : Enc α) (b : Enc β) : Enc (α × β) where
  n := a.n + b.n
  At := fun S w x cs => ∃ c d, cs = c ++ d ∧ a.At S w x.1 c ∧ b.At S w x.2 d
  Own := fun S w x cs => ∃ c d, ∃ S1 S2 : Bs, cs = c ++ d ∧ a.Own S1 w x.1 c ∧ b.Own S2 w x.2 d ∧ (∀ k, S1 k → S k) ∧ (∀ k, S2 k → S k) ∧ ∀ k, S1 k → ¬ S2 k
  sz := fun x => a.sz x.1 + b.sz x.2
  cnt := fun x => a.cnt x.1 + b.cnt x.2
  mark := fun k x => (a.mark k x.1, b.mark (k + a.cnt x.1) x.2)
  long := fun x => a.long x.1 ∧ b.long x.2
  c := a.c + b.c
  len := fun ⟨c, d, h, h1, h2⟩ => by rw [h, List.length_append, a.len h1, b.len h2]
  frame := fun ⟨c, d, h, h1, h2⟩ hs => ⟨c, d, h, a.frame h1 hs, b.frame h2 hs⟩
  wide := fun ⟨c, d, h, h1, h2⟩ hs => ⟨c, d, h, a.wide h1 hs, b.wide h2 hs⟩
  ownAt := fun ⟨c, d, _, _, h, h1, h2, g1, g2, _⟩ => ⟨c, d, h, a.wide (a.ownAt h1) g1, b.wide (b.ownAt h2) g2⟩
  ownFrame := fun ⟨c, d, S1, S2, h, h1, h2, g1, g2, g3⟩ hs => ⟨c, d, S1, S2, h, a.ownFrame h1 (hs.sub g1), b.ownFrame h2 (hs.sub g2), g1, g2, g3⟩
  ownWide := fun ⟨c, d, S1, S2, h, h1, h2, g1, g2, g3⟩ hs => ⟨c, d, S1, S2, h, h1, h2, fun k x => hs k (g1 k x), fun k x => hs k (g2 k x), g3⟩
  cntMk := fun k x => by simp only [a.cntMk, b.cntMk]
  cntLe := fun x => by
    have h1 := a.cntLe x.1; have h2 := b.cntLe x.2
    have h3 : a.c * (a.sz x.1 + 1) ≤ a.c * (a.sz x.1 + b.sz x.2 + 1) := Nat.mul_le_mul_left _ (by omega)
    have h4 : b.c * (b.sz x.2 + 1) ≤ b.c * (a.sz x.1 + b.sz x.2 + 1) := Nat.mul_le_mul_left _ (by omega)
    rw [Nat.add_mul]; omega
/-- the same data under another form -/
def isoE {α β : Type} (e : Enc α) (f : β → α) (g : α → β) (h : ∀ x, f (g x) = x) : Enc β where
  n := e.n
  At := fun S w x cs => e.At S w (f x) cs
  Own := fun S w x cs => e.Own S w (f x) cs
  sz := fun x => e.sz (f x)
  cnt := fun x => e.cnt (f x)
  mark := fun k x => g (e.mark k (f x))
  long := fun x => e.long (f x)
  c := e.c
  len := e.len
  frame := e.frame
  wide := e.wide
  ownAt := e.ownAt
  ownFrame := e.ownFrame
  ownWide := e.ownWide
  cntMk := fun k x => by simp only [h, e.cntMk]
  cntLe := fun x => e.cntLe _

section
variable {α : Type} (e : Enc α)
def cntL (l : List α) : Nat := (l.map e.cnt).sum
def szL (l : List α) : Nat := (l.map e.sz).sum
def mkAll : Nat → List α → List α
  | _, [] => []
  | k, x :: l => e.mark k x :: mkAll (k + e.cnt x) l
theorem cntL_cons (x : α) (l : List α) : cntL e (x :: l) = e.cnt x + cntL e l := by simp [cntL]
theorem szL_cons (x : α) (l : List α) : szL e (x :: l) = e.sz x + szL e l := by simp [szL]
theorem mkAll_length (k : Nat) (l : List α) : (mkAll e k l).length = l.length := by
  induction l generalizing k with
  | nil => rfl
  | cons x l ih => simp [mkAll, ih]
theorem mkAll_get (k : Nat) (l : List α) (i : Nat) (h : i < l.length) (h' : i < (mkAll e k l).length) : (mkAll e k l)[i] = e.mark (k + cntL e (l.take i)) l[i] := by
  induction l generalizing k i with
  | nil => simp at h
  | cons x l ih =>
    cases i with
    | zero => simp [mkAll, cntL]
    | succ i =>
      simp only [mkAll, List.getElem_cons_succ, List.take_succ_cons, cntL_cons]
      rw [ih (k + e.cnt x) i (by simpa using h), Nat.add_assoc]
theorem cntL_mk (k : Nat) (l : List α) : cntL e (mkAll e k l) = cntL e l := by
  induction l generalizing k with
  | nil => rfl
  | cons x l ih => simp only [mkAll, cntL_cons, ih, e.cntMk]
theorem cntL_le (l : List α) : cntL e l ≤ e.c * (l.length + szL e l) := by
  induction l with
  | nil => simp [cntL]
  | cons x l ih =>
    have h := e.cntLe x
    rw [cntL_cons, szL_cons, List.length_cons, show l.length + 1 + (e.sz x + szL e l) = (e.sz x + 1) + (l.length + szL e l) by omega, Nat.mul_add]
    omega
theorem cntL_take (l : List α) (k : Nat) (h : k < l.length) : cntL e (l.take (k + 1)) = cntL e (l.take k) + e.cnt l[k] := by
  unfold cntL; rw [List.take_succ_eq_append_getElem h, List.map_append, List.sum_append]; simp
theorem szL_take (l : List α) (k : Nat) (h : k < l.length) : szL e (l.take (k + 1)) = szL e (l.take k) + e.sz l[k] := by
  unfold szL; rw [List.take_succ_eq_append_getElem h, List.map_append, List.sum_append]; simp
theorem szL_le (l : List α) (k : Nat) : szL e (l.take k) ≤ szL e l := by
  have : szL e l = szL e (l.take k) + szL e (l.drop k) := by
    unfold szL; rw [← List.sum_append, ← List.map_append, List.take_append_drop]
  omega
theorem cntL_take_le (l : List α) (k : Nat) : cntL e (l.take k) ≤ cntL e l := by
  have : cntL e l = cntL e (l.take k) + cntL e (l.drop k) := by
    unfold cntL; rw [← List.sum_append, ← List.map_append, List.take_append_drop]
  omega
theorem szL_mem {l : List α} {x : α} (h : x ∈ l) : e.sz x ≤ szL e l := by
  induction l with
  | nil => simp at h
  | cons y l ih =>
    rw [szL_cons]
    rcases List.mem_cons.1 h with rfl | h
    · omega
    · have := ih h; omega
/-- rows behind a slice -/
def SlAt (S : Bs) (w : World) (l : List α) (v : Value) : Prop := ∃ ao cap, v = .slice ao l.length cap ∧ l.length ≤ cap ∧ (ao = none → cap = 0) ∧
  (l = [] ∨ ∃ b off, ao = some ⟨b, off, none⟩ ∧ S b ∧ b < w.heap.size ∧ ∀ i (h : i < l.length), ∃ cs, Cells w b (off + i * e.n) cs ∧ e.At S w l[i] cs)
/-- rows that are owned, each with blocks of its own -/
def SlOwn (S : Bs) (w : World) (l : List α) (v : Value) : Prop := ∃ ao cap, v = .slice ao l.length cap ∧ l.length ≤ cap ∧ (ao = none → cap = 0) ∧
  (l = [] ∨ ∃ (g : Nat) (P : Nat → Bs), ao = some ⟨g, 0, none⟩ ∧ S g ∧ (∀ i, i < l.length → ¬ P i g ∧ ∀ b, P i b → S b) ∧ (∀ i j, i < l.length → j < l.length → i ≠ j → ∀ b, P i b → ¬ P j b) ∧
    ∀ i (h : i < l.length), ∃ cs, RowAt w g (i * e.n) cs ∧ e.Own (P i) w l[i] cs)
variable {e}
theorem SlAt.frame {S : Bs} {w w' : World} {l : List α} {v : Value} (h : SlAt e S w l v) (hs : Same S w w') : SlAt e S w' l v := by
  obtain ⟨ao, cap, h1, h2, h3, h4⟩ := h
  refine ⟨ao, cap, h1, h2, h3, ?_⟩
  rcases h4 with h4 | ⟨b, off, g1, g2, g3, g4⟩
  · exact .inl h4
  · have hb := hs b g2 g3
    refine .inr ⟨b, off, g1, g2, lt_of_same g3 hb, fun i hi => ?_⟩
    obtain ⟨cs, q1, q2⟩ := g4 i hi
    exact ⟨cs, q1.same hb, e.frame q2 hs⟩
theorem SlAt.wide {S S' : Bs} {w : World} {l : List α} {v : Value} (h : SlAt e S w l v) (hs : ∀ b, S b → S' b) : SlAt e S' w l v := by
  obtain ⟨ao, cap, h1, h2, h3, h4⟩ := h
  refine ⟨ao, cap, h1, h2, h3, ?_⟩
  rcases h4 with h4 | ⟨b, off, g1, g2, g3, g4⟩
  · exact .inl h4
  · refine .inr ⟨b, off, g1, hs b g2, g3, fun i hi => ?_⟩
    obtain ⟨cs, q1, q2⟩ := g4 i hi
    exact ⟨cs, q1, e.wide q2 hs⟩
theorem SlOwn.at {S : Bs} {w : World} {l : List α} {v : Value} (h : SlOwn e S w l v) : SlAt e S w l v := by
  obtain ⟨ao, cap, h1, h2, h3, h4⟩ := h
  refine ⟨ao, cap, h1, h2, h3, ?_⟩
  rcases h4 with h4 | ⟨g, P, g1, g2, g3, g4, g5⟩
  · exact .inl h4
  · by_cases h0 : l = []
    · exact .inl h0
    have hl : 0 < l.length := List.length_pos_iff.2 h0
    refine .inr ⟨g, 0, g1, g2, ?_, fun i hi => ?_⟩
    · obtain ⟨cs, q1, _⟩ := g5 0 hl
      exact q1.lt
    · obtain ⟨cs, q1, q2⟩ := g5 i hi
      exact ⟨cs, by rw [Nat.zero_add]; exact q1.cells, e.wide (e.ownAt q2) (g3 i hi).2⟩
theorem SlOwn.frame {S : Bs} {w w' : World} {l : List α} {v : Value} (h : SlOwn e S w l v) (hs : Same S w w') : SlOwn e S w' l v := by
  obtain ⟨ao, cap, h1, h2, h3, h4⟩ := h
  refine ⟨ao, cap, h1, h2, h3, ?_⟩
  rcases h4 with h4 | ⟨g, P, g1, g2, g3, g4, g5⟩
  · exact .inl h4
  · refine .inr ⟨g, P, g1, g2, g3, g4, fun i hi => ?_⟩
    obtain ⟨cs, q1, q2⟩ := g5 i hi
    exact ⟨cs, q1.same (hs g g2 q1.lt), e.ownFrame q2 (hs.sub (g3 i hi).2)⟩
theorem SlOwn.wide {S S' : Bs} {w : World} {l : List α} {v : Value} (h : SlOwn e S w l v) (hs : ∀ b, S b → S' b) : SlOwn e S' w l v := by
  obtain ⟨ao, cap, h1, h2, h3, h4⟩ := h
  refine ⟨ao, cap, h1, h2, h3, ?_⟩
  rcases h4 with h4 | ⟨g, P, g1, g2, g3, g4, g5⟩
  · exact .inl h4
  · exact .inr ⟨g, P, g1, hs g g2, fun i hi => ⟨(g3 i hi).1, fun b x => hs b ((g3 i hi).2 b x)⟩, g4, g5⟩
end
/-- a slice of rows -/
def slE {α : Type} (e : Enc α) : Enc (List α) where
  n := 1
  At := fun S w l cs => ∃ v, cs = [v] ∧ SlAt e S w l v
  Own := fun S w l cs => ∃ v, cs = [v] ∧ SlOwn e S w l v
  sz := fun l => l.length + szL e l
  cnt := fun l => cntL e l
  mark := fun k l => mkAll e k l
  long := fun l => l.length ≤ 9223372036854775807 ∧ ∀ x ∈ l, e.long x
  c := e.c
  len := fun ⟨v, h, _⟩ => by rw [h]; rfl
  frame := fun ⟨v, h, h1⟩ hs => ⟨v, h, h1.frame hs⟩
  wide := fun ⟨v, h, h1⟩ hs => ⟨v, h, h1.wide hs⟩
  ownAt := fun ⟨v, h, h1⟩ => ⟨v, h, h1.at⟩
  ownFrame := fun ⟨v, h, h1⟩ hs => ⟨v, h, h1.frame hs⟩
  ownWide := fun ⟨v, h, h1⟩ hs => ⟨v, h, h1.wide hs⟩
  cntMk := fun k l => cntL_mk e k l
  cntLe := fun l => by
    have := cntL_le e l
    have h : e.c * (l.length + szL e l) ≤ e.c * (l.length + szL e l + 1) := Nat.mul_le_mul_left _ (by omega)
    omega
section
variable {α : Type} {e : Enc α}
theorem SlAt.sl {S : Bs} {w : World} {l : List α} {v : Value} (h : SlAt e S w l v) : ∃ ao cap, v = .slice ao l.length cap := by
  obtain ⟨ao, cap, h1, _⟩ := h; exact ⟨ao, cap, h1⟩
theorem SlAt.row {S : Bs} {w : World} {l : List α} {ao : Option Addr} {n cap : Nat} (h : SlAt e S w l (.slice ao n cap)) {k : Nat} (hk : k < l.length) :
    ∃ b off cs, ao = some ⟨b, off, none⟩ ∧ S b ∧ b < w.heap.size ∧ Cells w b (off + k * e.n) cs ∧ e.At S w l[k] cs := by
  obtain ⟨ao', cap', h1, h2, h3, h4⟩ := h
  injection h1 with h1 _ _
  subst h1
  rcases h4 with h4 | ⟨b, off, g1, g2, g3, g4⟩
  · subst h4; simp at hk
  · obtain ⟨cs, q1, q2⟩ := g4 k hk
    exact ⟨b, off, cs, g1, g2, g3, q1, q2⟩
/-- all but row i -/
def Rest (e : Enc α) (S : Bs) (w : World) (l : List α) (g i : Nat) (Sr : Bs) : Prop := ∃ P : Nat → Bs, S g ∧ (∀ j, j < l.length → ¬ P j g ∧ ∀ b, P j b → S b) ∧ (∀ i j, i < l.length → j < l.length → i ≠ j → ∀ b, P i b → ¬ P j b) ∧ P i = Sr ∧
  ∀ j (h : j < l.length), j ≠ i → ∃ cs, RowAt w g (j * e.n) cs ∧ e.Own (P j) w l[j] cs
theorem SlOwn.open {S : Bs} {w : World} {l : List α} {v : Value} (h : SlOwn e S w l v) {i : Nat} (hi : i < l.length) :
    ∃ g cap Sr cs, v = .slice (some ⟨g, 0, none⟩) l.length cap ∧ l.length ≤ cap ∧ S g ∧ ¬ Sr g ∧ (∀ b, Sr b → S b) ∧ Rest e S w l g i Sr ∧ RowAt w g (i * e.n) cs ∧ e.Own Sr w l[i] cs := by
  obtain ⟨ao, cap, h1, h2, h3, h4⟩ := h
  rcases h4 with h4 | ⟨g, P, g1, g2, g3, g4, g5⟩
  · subst h4; simp at hi
  · obtain ⟨cs, q1, q2⟩ := g5 i hi
    subst g1
    exact ⟨g, cap, P i, cs, h1, h2, g2, (g3 i hi).1, (g3 i hi).2, ⟨P, g2, g3, g4, rfl, fun j hj _ => g5 j hj⟩, q1, q2⟩
theorem idx_ne {n i j t u : Nat} (ht : t < n) (hu : u < n) (h : j ≠ i) : j * n + t ≠ i * n + u := by
  intro e
  have h1 : (j * n + t) / n = j := by rw [Nat.mul_comm, Nat.mul_add_div (by omega), Nat.div_eq_of_lt ht]; rfl
  have h2 : (i * n + u) / n = i := by rw [Nat.mul_comm, Nat.mul_add_div (by omega), Nat.div_eq_of_lt hu]; rfl
  rw [e, h2] at h1; exact h h1.symm
theorem RowAt.skip {w : World} {g i j n u : Nat} {cs : List Value} (h : RowAt w g (j * n) cs) (hl : cs.length = n) (hu : u < n) (hne : j ≠ i) (v : Value) : RowAt (w.setCell ⟨g, i * n + u, none⟩ v) g (j * n) cs := by
  obtain ⟨C, T, h1, h2⟩ := h
  refine ⟨_, T, heap_set v h1, fun t ht => ?_⟩
  rw [Array.getElem?_setIfInBounds, if_neg (idx_ne (by omega) hu hne).symm]; exact h2 t ht
theorem Rest.store {S Sr : Bs} {w : World} {l : List α} {g i : Nat} (h : Rest e S w l g i Sr) {u : Nat} (hu : u < e.n) (v : Value) : Rest e S (w.setCell ⟨g, i * e.n + u, none⟩ v) l g i Sr := by
  obtain ⟨P, h1, h2, h3, h4, h5⟩ := h
  refine ⟨P, h1, h2, h3, h4, fun j hj hne => ?_⟩
  obtain ⟨cs, q1, q2⟩ := h5 j hj hne
  exact ⟨cs, q1.skip (e.ownLen q2) hu hne v, e.ownFrame q2 (Same.set _ _ _ (h2 j hj).1)⟩
theorem Rest.store1 {S Sr : Bs} {w : World} {l : List α} {g i : Nat} (h : Rest e S w l g i Sr) (hn : e.n = 1) (v : Value) : Rest e S (w.setCell ⟨g, i, none⟩ v) l g i Sr := by
  have := h.store (u := 0) (by omega) v
  rw [hn, Nat.mul_one] at this
  exact this
theorem Rest.turn {S Sr : Bs} {w w' : World} {l : List α} {g i : Nat} (h : Rest e S w l g i Sr) (hi : i < l.length) (ht : Turn Sr w w') : Rest e S w' l g i Sr := by
  obtain ⟨P, h1, h2, h3, h4, h5⟩ := h
  subst h4
  refine ⟨P, h1, h2, h3, rfl, fun j hj hne => ?_⟩
  obtain ⟨cs, q1, q2⟩ := h5 j hj hne
  exact ⟨cs, q1.same (ht.block g q1.lt (h2 i hi).1), e.ownFrame q2 (ht.same (fun k hk => h3 j i hj hi hne k hk))⟩
theorem Rest.close {S Sr : Bs} {w : World} {l : List α} {g i cap : Nat} {x : α} {cs : List Value} (h : Rest e S w l g i Sr) (hi : i < l.length) (hc : l.length ≤ cap) (hr : RowAt w g (i * e.n) cs) (ho : e.Own Sr w x cs) :
    SlOwn e S w (l.set i x) (.slice (some ⟨g, 0, none⟩) l.length cap) := by
  obtain ⟨P, h1, h2, h3, h4, h5⟩ := h
  subst h4
  refine ⟨some ⟨g, 0, none⟩, cap, by rw [List.length_set], by rw [List.length_set]; exact hc, (fun x => by cases x), .inr ⟨g, P, rfl, h1, fun j hj => h2 j (by simpa using hj), fun a b ha hb => h3 a b (by simpa using ha) (by simpa using hb), fun j hj => ?_⟩⟩
  have hj' : j < l.length := by simpa using hj
  rw [List.getElem_set]
  by_cases e : i = j
  · subst e; rw [if_pos rfl]; exact ⟨cs, hr, ho⟩
  · rw [if_neg e]; exact h5 j hj' (fun x => e x.symm)
/-- the blocks that came between two worlds -/
abbrev Fresh (w w' : World) : Bs := fun b => w.heap.size ≤ b ∧ b < w'.heap.size
/-- marked up to j -/
def mkTo (e : Enc α) (k : Nat) (l : List α) (j : Nat) : List α := (mkAll e k l).take j ++ l.drop j
theorem mkTo_zero (k : Nat) (l : List α) : mkTo e k l 0 = l := by simp [mkTo]
theorem mkTo_all (k : Nat) (l : List α) : mkTo e k l l.length = mkAll e k l := by
  unfold mkTo; rw [List.drop_length, List.append_nil, List.take_of_length_le (by rw [mkAll_length]; exact Nat.le_refl _)]
theorem mkTo_length (k : Nat) (l : List α) (j : Nat) (h : j ≤ l.length) : (mkTo e k l j).length = l.length := by
  unfold mkTo; rw [List.length_append, List.length_take, List.length_drop, mkAll_length]; omega
theorem mkTo_get (k : Nat) (l : List α) (j : Nat) (h : j < l.length) (h' : j < (mkTo e k l j).length) : (mkTo e k l j)[j] = l[j] := by
  have hl : ((mkAll e k l).take j).length = j := by rw [List.length_take, mkAll_length]; omega
  have h2 : j < ((mkAll e k l).take j ++ l.drop j).length := h'
  have : ((mkAll e k l).take j ++ l.drop j)[j] = l[j] := by
    rw [List.getElem_append_right (by omega)]
    simp [hl]
  exact this
theorem mkTo_set (k : Nat) (l : List α) (j : Nat) (h : j < l.length) : (mkTo e k l j).set j (e.mark (k + cntL e (l.take j)) l[j]) = mkTo e k l (j + 1) := by
  have hm : (mkAll e k l)[j]'(by rw [mkAll_length]; exact h) = e.mark (k + cntL e (l.take j)) l[j] := mkAll_get e k l j h _
  have hl : ((mkAll e k l).take j).length = j := by rw [List.length_take, mkAll_length]; omega
  unfold mkTo
  rw [List.set_append_right _ _ (by omega), hl, Nat.sub_self, List.take_succ_eq_append_getElem (by rw [mkAll_length]; exact h), hm, List.append_assoc]
  have hd : l.drop j = l[j] :: l.drop (j + 1) := List.drop_eq_getElem_cons h
  generalize e.mark (k + cntL e (l.take j)) l[j] = y
  rw [hd, List.set_cons_zero]
  rfl
/-- rows in making: the block is g, the rows' own blocks come behind it -/
def Build (e : Enc α) (w : World) (g N : Nat) (l : List α) : Prop := ∃ (C : Array Value) (T : TypeId), w.heap[g]? = some (.cells C T (0, 0)) ∧ C.size = N * e.n ∧ ∃ P : Nat → Bs, (∀ i, i < l.length → ∀ b, P i b → g < b ∧ b < w.heap.size) ∧
  (∀ i j, i < l.length → j < l.length → i ≠ j → ∀ b, P i b → ¬ P j b) ∧ ∀ i (h : i < l.length), ∃ cs, (∀ j (h : j < cs.length), C[i * e.n + j]? = some cs[j]) ∧ e.Own (P i) w l[i] cs
theorem Build.new (w : World) (C : Array Value) (T : TypeId) (N : Nat) (hC : C.size = N * e.n) : Build e (w.alloc (.cells C T)) w.heap.size N [] :=
  ⟨C, T, heap_alloc_new w _, hC, fun _ _ => False, fun _ h => by simp at h, fun _ _ h => by simp at h, fun _ h => by simp at h⟩
theorem Build.lt {w : World} {g N : Nat} {l : List α} (h : Build e w g N l) : g < w.heap.size := by
  obtain ⟨C, T, h1, _⟩ := h; exact (Array.getElem?_eq_some_iff.1 h1).1
theorem Build.soft {w : World} {g N : Nat} {l : List α} (h : Build e w g N l) (j : Nat) : w.frozen? ⟨g, j, none⟩ = false := by
  obtain ⟨C, T, h1, _⟩ := h
  simp [World.frozen?, h1]
theorem Build.cell {w : World} {g N : Nat} {l : List α} (h : Build e w g N l) {k u : Nat} (hk : k < N) (hu : u < e.n) : ∃ x, w.cell? ⟨g, k * e.n + u, none⟩ = some x := by
  obtain ⟨C, T, h1, h2, _⟩ := h
  have : k * e.n + u < C.size := by
    have : (k + 1) * e.n ≤ N * e.n := Nat.mul_le_mul_right _ hk
    rw [Nat.add_mul] at this; omega
  exact ⟨C[k * e.n + u], by rw [cell_of_row w g _ C T (0, 0) h1]; exact Array.getElem?_eq_getElem this⟩
theorem Build.below {w w' : World} {g N : Nat} {l : List α} (h : Build e w g N l) (hb : Below w.heap.size w w') : Build e w' g N l := by
  obtain ⟨C, T, h1, h2, P, h3, h4, h5⟩ := h
  refine ⟨C, T, (hb.block g (Array.getElem?_eq_some_iff.1 h1).1).trans h1, h2, P, fun i hi b x => ⟨(h3 i hi b x).1, Nat.lt_of_lt_of_le (h3 i hi b x).2 hb.size⟩, h4, fun i hi => ?_⟩
  obtain ⟨cs, q1, q2⟩ := h5 i hi
  exact ⟨cs, q1, e.ownFrame q2 (Same.of_below' hb)⟩
/-- cells stored one after the other -/
def setRow (w : World) (g : Nat) : Nat → List Value → World
  | _, [] => w
  | o, v :: cs => setRow (w.setCell ⟨g, o, none⟩ v) g (o + 1) cs
def setArr (C : Array Value) : Nat → List Value → Array Value
  | _, [] => C
  | o, v :: cs => setArr (C.setIfInBounds o v) (o + 1) cs
theorem setArr_size (C : Array Value) (o : Nat) (cs : List Value) : (setArr C o cs).size = C.size := by
  induction cs generalizing C o with
  | nil => rfl
  | cons v cs ih => simp [setArr, ih]
theorem setArr_out (C : Array Value) (o : Nat) (cs : List Value) (i : Nat) (h : i < o ∨ o + cs.length ≤ i) : (setArr C o cs)[i]? = C[i]? := by
  induction cs generalizing C o with
  | nil => rfl
  | cons v cs ih =>
    simp only [List.length_cons] at h
    rw [setArr, ih _ _ (by omega), Array.getElem?_setIfInBounds, if_neg (by omega)]
theorem setArr_in (C : Array Value) (o : Nat) (cs : List Value) (j : Nat) (hj : j < cs.length) (h : o + cs.length ≤ C.size) : (setArr C o cs)[o + j]? = some cs[j] := by
  induction cs generalizing C o j with
  | nil => simp at hj
  | cons v cs ih =>
    simp only [List.length_cons] at h
    cases j with
    | zero => rw [setArr, setArr_out _ _ _ _ (by omega), Array.getElem?_setIfInBounds]; simp; omega
    | succ j =>
      have := ih (C.setIfInBounds o v) (o + 1) j (by simpa using hj) (by simp; omega)
      rw [setArr, show o + (j + 1) = o + 1 + j by omega, this]; rfl
theorem setRow_heap {w : World} {g : Nat} {C : Array Value} {T : TypeId} (o : Nat) (cs : List Value) (h : w.heap[g]? = some (.cells C T (0, 0))) : (setRow w g o cs).heap[g]? = some (.cells (setArr C o cs) T (0, 0)) := by
  induction cs generalizing w C o with
  | nil => exact h
  | cons v cs ih => exact ih (o + 1) (heap_set v h)
theorem setRow_other {w : World} {g k : Nat} (o : Nat) (cs : List Value) (h : k ≠ g) : (setRow w g o cs).heap[k]? = w.heap[k]? := by
  induction cs generalizing w o with
  | nil => rfl
  | cons v cs ih => exact (ih (o + 1)).trans (Below.heap_setCell _ _ _ _ h)
theorem setRow_size {w : World} {g : Nat} (o : Nat) (cs : List Value) : (setRow w g o cs).heap.size = w.heap.size := by
  induction cs generalizing w o with
  | nil => rfl
  | cons v cs ih => exact (ih (o + 1)).trans (by simp [World.setCell])
theorem setRow_below {B : Nat} {w0 w : World} {g : Nat} (o : Nat) (cs : List Value) (h : Below B w0 w) (hg : B ≤ g) : Below B w0 (setRow w g o cs) := by
  induction cs generalizing w o with
  | nil => exact h
  | cons v cs ih => exact ih (o + 1) (h.setCell hg _)
theorem Build.row {wr w2 : World} {g N : Nat} {l : List α} {x : α} {cs : List Value} {o : Nat} (h : Build e wr g N l) (hl : l.length < N) (ho' : o = l.length * e.n) (hb : Below wr.heap.size wr w2) (ho : e.Own (fun b => wr.heap.size ≤ b ∧ b < w2.heap.size) w2 x cs) :
    Build e (setRow w2 g o cs) g N (l ++ [x]) := by
  subst ho'
  have hg := h.lt
  have hn := e.ownLen ho
  obtain ⟨C, T, h1, h2, P, h3, h4, h5⟩ := h
  have hgd : g < wr.heap.size := (Array.getElem?_eq_some_iff.1 h1).1
  have hN : (l.length + 1) * e.n ≤ N * e.n := Nat.mul_le_mul_right _ hl
  rw [Nat.add_mul] at hN
  refine ⟨_, T, setRow_heap _ cs ((hb.block g hgd).trans h1), by rw [setArr_size]; exact h2, fun i => if i = l.length then (fun b => wr.heap.size ≤ b ∧ b < w2.heap.size) else P i, ?_, ?_, ?_⟩
  · intro i hi b x
    rw [setRow_size]
    have hi' : i < l.length + 1 := by simpa using hi
    by_cases e : i = l.length
    · simp only [if_pos e] at x; omega
    · simp only [if_neg e] at x
      have := h3 i (by omega) b x
      have := hb.size
      omega
  · intro i j hi hj hne b x y
    have hi' : i < l.length + 1 := by simpa using hi
    have hj' : j < l.length + 1 := by simpa using hj
    by_cases e1 : i = l.length
    · simp only [if_pos e1] at x
      rw [if_neg (by omega)] at y
      have := h3 j (by omega) b y
      omega
    · simp only [if_neg e1] at x
      by_cases e2 : j = l.length
      · simp only [if_pos e2] at y
        have := h3 i (by omega) b x
        omega
      · simp only [if_neg e2] at y
        exact h4 i j (by omega) (by omega) hne b x y
  · intro i hi
    have hi' : i < l.length + 1 := by simpa using hi
    have hS : ∀ S : Bs, ¬ S g → Same S w2 (setRow w2 g (l.length * e.n) cs) := fun S hs k hk _ => setRow_other _ _ (fun e => hs (e ▸ hk))
    by_cases e1 : i = l.length
    · subst e1
      refine ⟨cs, fun j hj => setArr_in _ _ _ _ hj (by omega), ?_⟩
      have hx : (l ++ [x])[l.length] = x := by rw [List.getElem_append_right (by omega)]; simp
      show e.Own (if l.length = l.length then _ else _) _ _ _
      rw [if_pos rfl, hx]
      exact e.ownFrame ho (hS _ (by omega))
    · obtain ⟨cs', q1, q2⟩ := h5 i (by omega)
      have hn' := e.ownLen q2
      have hm : (i + 1) * e.n ≤ l.length * e.n := Nat.mul_le_mul_right _ (by omega)
      rw [Nat.add_mul] at hm
      refine ⟨cs', fun j hj => (setArr_out _ _ _ _ (by omega)).trans (q1 j hj), ?_⟩
      have hx : (l ++ [x])[i] = l[i] := List.getElem_append_left (by omega)
      show e.Own (if i = l.length then _ else _) _ _ _
      rw [if_neg e1, hx]
      exact e.ownFrame (e.ownFrame q2 (Same.of_below' hb)) (hS _ (fun hx => by have := h3 i (by omega) g hx; omega))
theorem Build.own {w : World} {g : Nat} {l : List α} (h : Build e w g l.length l) : SlOwn e (fun b => g ≤ b ∧ b < w.heap.size) w l (.slice (some ⟨g, 0, none⟩) l.length l.length) := by
  have hg := h.lt
  obtain ⟨C, T, h1, h2, P, h3, h4, h5⟩ := h
  refine ⟨some ⟨g, 0, none⟩, l.length, rfl, Nat.le_refl _, (fun x => by cases x), .inr ⟨g, P, rfl, ⟨Nat.le_refl _, hg⟩, fun i hi => ⟨fun x => by have := h3 i hi g x; omega, fun b x => by have := h3 i hi b x; exact ⟨by omega, this.2⟩⟩, h4, fun i hi => ?_⟩⟩
  obtain ⟨cs, q1, q2⟩ := h5 i hi
  exact ⟨cs, ⟨C, T, h1, q1⟩, q2⟩
end
section
variable {α : Type} {e : Enc α}
theorem mk_open {S : Bs} {w : World} {d : List α} {k j n cap : Nat} {ao : Option Addr} (h : SlOwn e S w (mkTo e k d j) (.slice ao n cap)) (hj : j < d.length) :
    ∃ g Sr cs, ao = some ⟨g, 0, none⟩ ∧ d.length ≤ cap ∧ S g ∧ ¬ Sr g ∧ (∀ b, Sr b → S b) ∧ Rest e S w (mkTo e k d j) g j Sr ∧ RowAt w g (j * e.n) cs ∧ e.Own Sr w d[j] cs := by
  have hl := mkTo_length (e := e) k d j (by omega)
  obtain ⟨g, cap', Sr, cs, ev, hc, h1, h2, h3, h4, h5, h6⟩ := h.open (i := j) (by omega)
  injection ev with e1 e2 e3
  subst e3
  rw [mkTo_get k d j hj] at h6
  exact ⟨g, Sr, cs, e1, by omega, h1, h2, h3, h4, h5, h6⟩
theorem mk_close {S Sr : Bs} {w : World} {d : List α} {k j g cap : Nat} {cs : List Value} (h : Rest e S w (mkTo e k d j) g j Sr) (hj : j < d.length) (hc : d.length ≤ cap) (hr : RowAt w g (j * e.n) cs) (ho : e.Own Sr w (e.mark (k + cntL e (d.take j)) d[j]) cs) :
    SlOwn e S w (mkTo e k d (j + 1)) (.slice (some ⟨g, 0, none⟩) d.length cap) := by
  have hl := mkTo_length (e := e) k d j (by omega)
  have := h.close (i := j) (cap := cap) (by omega) (by omega) hr ho
  rw [mkTo_set k d j hj, hl] at this
  exact this
theorem at_pair {α β : Type} {a : Enc α} {b : Enc β} {S : Bs} {w : World} {x : α × β} {cs : List Value} (h : (pairE a b).At S w x cs) : ∃ c d, cs = c ++ d ∧ a.At S w x.1 c ∧ b.At S w x.2 d := h
theorem own_pair {α β : Type} {a : Enc α} {b : Enc β} {S : Bs} {w : World} {x : α × β} {cs : List Value} (h : (pairE a b).Own S w x cs) : ∃ c d, ∃ S1 S2 : Bs, cs = c ++ d ∧ a.Own S1 w x.1 c ∧ b.Own S2 w x.2 d ∧ (∀ k, S1 k → S k) ∧ (∀ k, S2 k → S k) ∧ ∀ k, S1 k → ¬ S2 k := h
theorem pair_at {α β : Type} {a : Enc α} {b : Enc β} {S : Bs} {w : World} {x : α} {y : β} {c d : List Value} (h1 : a.At S w x c) (h2 : b.At S w y d) : (pairE a b).At S w (x, y) (c ++ d) := ⟨c, d, rfl, h1, h2⟩
theorem pair_own {α β : Type} {a : Enc α} {b : Enc β} {S : Bs} (S1 S2 : Bs) {w : World} {x : α} {y : β} {c d : List Value} (h1 : a.Own S1 w x c) (h2 : b.Own S2 w y d) (g1 : ∀ k, S1 k → S k) (g2 : ∀ k, S2 k → S k) (g3 : ∀ k, S1 k → ¬ S2 k) : (pairE a b).Own S w (x, y) (c ++ d) := ⟨c, d, S1, S2, rfl, h1, h2, g1, g2, g3⟩
theorem own_str {S : Bs} {w : World} (x : ByteArray) : strE.Own S w x [.string x] := rfl
theorem own_int {S : Bs} {w : World} (x : Int) : intE.Own S w x [.int .i64 x] := rfl
theorem own_bool {S : Bs} {w : World} (x : Bool) : boolE.Own S w x [.bool x] := rfl
theorem own_sl {α : Type} {e : Enc α} {S : Bs} {w : World} {l : List α} {v : Value} (h : SlOwn e S w l v) : (slE e).Own S w l [v] := ⟨v, rfl, h⟩
theorem at_sl {α : Type} {e : Enc α} {S : Bs} {w : World} {l : List α} {v : Value} (h : SlAt e S w l v) : (slE e).At S w l [v] := ⟨v, rfl, h⟩
/-- no block -/
abbrev Nil : Bs := fun _ => False
end
end Go.Proofs.YtohcdpoffpnfhaaGreatDoor
/- Arguments that are data: where they lie. -/
namespace Go.Proofs.YtohcdpoffpnfhaaGreatDoor
open Go.RowKit Go.ChangeShapes Go.WideShapes Go.Joins Go.Deep

theorem list_ofE {α : Type} (Q : Nat → α → Prop) (n : Nat) (h : ∀ i, i < n → ∃ a, Q i a) : ∃ l : List α, l.length = n ∧ ∀ i (hi : i < l.length), Q i l[i] := by
  induction n with
  | zero => exact ⟨[], rfl, fun i hi => by simp at hi⟩
  | succ n ih =>
    obtain ⟨l, hl, hq⟩ := ih fun i hi => h i (by omega)
    obtain ⟨a, ha⟩ := h n (by omega)
    refine ⟨l ++ [a], by simp [hl], fun i hi => ?_⟩
    by_cases e : i < l.length
    · rw [List.getElem_append_left e]; exact hq i e
    · have : i = n := by simp at hi; omega
      subst this
      rw [List.getElem_append_right (by omega)]
      simpa using ha
/-- the blocks that stand -/
abbrev All (w : World) : Bs := fun b => b < w.heap.size
/-- a type whose cells are data of this kind -/
def Opens {α : Type} (P : Program) (t : TypeId) (e : Enc α) : Prop := ∀ (H : Type) (enc : TypeId × Value → H) (w : World) (base : Nat) (spare : Nat → Bool) (held : Bool) (fuel : Nat) (cs : List Value) (x : DataW H × List MemPlace),
  DataW.trod enc P w base spare held fuel t cs = some x → ∃ a, e.At (All w) w a cs ∧ e.long a
theorem opens_str {P : Program} {t : TypeId} (ht : P.underlying t = some .string) : Opens P t strE := fun H enc w base spare held fuel cs x h => by
  obtain ⟨s, e, _, hs⟩ := DataW.trod_string ht h
  exact ⟨s, e, hs⟩
theorem wf_i64 {n : Int} (h : (Lit.int IntKind.i64 n).wf = true) : -9223372036854775808 ≤ n ∧ n ≤ 9223372036854775807 := by
  have e1 : IntKind.i64.min = -9223372036854775808 := by decide
  have e2 : IntKind.i64.max = 9223372036854775807 := by decide
  simp only [Lit.wf, Bool.and_eq_true, decide_eq_true_eq, e1, e2] at h
  exact h
theorem opens_int {P : Program} {t : TypeId} (ht : P.underlying t = some (.int .i64)) : Opens P t intE := fun H enc w base spare held fuel cs x h => by
  cases fuel with
  | zero => simp [DataW.trod] at h
  | succ n =>
    unfold DataW.trod at h
    rw [ht] at h
    split at h
    all_goals first
      | (rename_i heq; injection heq with heq; cases heq; done)
      | (rename_i k k' n heq
         injection heq with heq
         injection heq with heq
         subst heq
         split at h
         · rename_i hc
           obtain ⟨rfl, hw⟩ := hc
           exact ⟨n, rfl, wf_i64 hw⟩
         · cases h)
      | (cases h; done)
theorem opens_bool {P : Program} {t : TypeId} (ht : P.underlying t = some .bool) : Opens P t boolE := fun H enc w base spare held fuel cs x h => by
  cases fuel with
  | zero => simp [DataW.trod] at h
  | succ n =>
    unfold DataW.trod at h
    rw [ht] at h
    split at h
    all_goals first
      | (rename_i heq; injection heq with heq; cases heq; done)
      | (exact ⟨_, rfl, trivial⟩)
      | (cases h; done)
theorem opens_sl {α : Type} {P : Program} {t te : TypeId} {e : Enc α} (ht : P.underlying t = some (.slice te)) (hc : P.cellsOf te = e.n) (hn : 0 < e.n) (he : Opens P te e) : Opens P t (slE e) := fun H enc w base spare held fuel cs x h => by
  rcases open_slice ht h with ⟨rfl, _⟩ | ⟨a, len, cap, m, n, D, Pl, rfl, hb, hl, hm, hmm, _, hx⟩
  · exact ⟨[], ⟨_, rfl, none, 0, rfl, Nat.le_refl _, fun _ => rfl, .inl rfl⟩, by simp, by simp⟩
  · have hle : len ≤ m := by rw [hmm]; split <;> omega
    obtain ⟨L, hL, hq⟩ := list_ofE (fun i (k : α) => ∃ cs : List Value, cs.length = e.n ∧ (∀ j (h : j < cs.length), w.cell? (a.add (i * e.n + j)) = some cs[j]) ∧ e.At (All w) w k cs ∧ e.long k) len (by
      intro i hi
      obtain ⟨cs', h1, h2⟩ := hx i (by omega)
      rw [hc] at h1
      obtain ⟨_, hlen, hcell⟩ := World.cells?_some h1
      obtain ⟨k, hk, hlong⟩ := he H enc w base spare held _ _ _ h2
      refine ⟨k, cs', hlen, fun j hj => ?_, hk, hlong⟩
      have := hcell j (by omega)
      rw [add_add] at this
      rw [this, List.getElem?_eq_getElem hj])
    refine ⟨L, ⟨.slice (some a) len cap, rfl, some a, cap, by rw [hL], by omega, (fun x => by cases x), ?_⟩, ?_, ?_⟩
    · by_cases h0 : len = 0
      · left; exact List.length_eq_zero_iff.1 (by omega)
      · obtain ⟨b, off, spot⟩ := a
        have hspot : spot = none := by
          obtain ⟨cs, h1, h2, _⟩ := hq 0 (by omega)
          simpa [Addr.add] using World.cell?_spot (h2 0 (by omega))
        subst hspot
        have hbl : b < w.heap.size := by
          obtain ⟨cs, h1, h2, _⟩ := hq 0 (by omega)
          have := World.block_lt_of_cell? w _ (h2 0 (by omega))
          simpa [Addr.add] using this
        refine .inr ⟨b, off, rfl, hbl, hbl, fun i hi => ?_⟩
        obtain ⟨cs, h1, h2, h3, _⟩ := hq i hi
        refine ⟨cs, fun j hj => ?_, h3⟩
        have := h2 j hj
        rw [Go.WideShapes.add_plain] at this
        rw [Nat.add_assoc]; exact this
    · show L.length ≤ _
      unfold maxLen at hm; omega
    · intro r hr
      obtain ⟨i, hi, rfl⟩ := List.getElem_of_mem hr
      obtain ⟨_, _, _, _, z⟩ := hq i hi
      exact z
/-- the fields from i on, their cells from o on -/
def FieldsFrom {α : Type} (P : Program) (fs : Array Field) (i o N : Nat) (e : Enc α) : Prop := ∀ (H : Type) (enc : TypeId × Value → H) (w : World) (base : Nat) (spare : Nat → Bool) (held : Bool) (n : Nat) (cs : List Value), cs.length = N →
  (∀ j f, i ≤ j → fs[j]? = some f → ∃ x, DataW.trod enc P w base spare held n f.type ((cs.drop f.offset).take (P.cellsOf f.type)) = some x) → ∃ a, e.At (All w) w a (cs.drop o) ∧ e.long a
theorem ff_last {α : Type} {P : Program} {fs : Array Field} {i o N : Nat} {e : Enc α} (f : Field) (hf : fs[i]? = some f) (ho : f.offset = o) (hc : P.cellsOf f.type = e.n) (hN : o + e.n = N) (hop : Opens P f.type e) : FieldsFrom P fs i o N e := by
  intro H enc w base spare held n cs hl h
  obtain ⟨x, hx⟩ := h i f (Nat.le_refl _) hf
  rw [ho, hc, List.take_of_length_le (by rw [List.length_drop]; omega)] at hx
  exact hop H enc w base spare held n _ x hx
theorem ff_cons {α β : Type} {P : Program} {fs : Array Field} {i o N : Nat} {a : Enc α} {b : Enc β} (f : Field) (hf : fs[i]? = some f) (ho : f.offset = o) (hc : P.cellsOf f.type = a.n) (hop : Opens P f.type a) (hr : FieldsFrom P fs (i + 1) (o + a.n) N b) : FieldsFrom P fs i o N (pairE a b) := by
  intro H enc w base spare held n cs hl h
  obtain ⟨x, hx⟩ := h i f (Nat.le_refl _) hf
  rw [ho, hc] at hx
  obtain ⟨p, p1, p2⟩ := hop H enc w base spare held n _ x hx
  obtain ⟨q, q1, q2⟩ := hr H enc w base spare held n cs hl (fun j f hj hf => h j f (by omega) hf)
  refine ⟨(p, q), ⟨_, _, ?_, p1, q1⟩, p2, q2⟩
  rw [← List.drop_drop, List.take_append_drop]
theorem opens_struct {α : Type} {P : Program} {t : TypeId} {fs : Array Field} {e : Enc α} (ht : P.underlying t = some (.struct fs)) (hc : P.cellsOf t = e.n) (hf : FieldsFrom P fs 0 0 e.n e) : Opens P t e := fun H enc w base spare held fuel cs x h => by
  obtain ⟨xs, n, _, _, hl, hxl, hx⟩ := DataW.trod_struct ht h
  refine hf H enc w base spare held n cs (hl.trans hc) (fun j f _ hj => ?_)
  have hjs : j < fs.size := (Array.getElem?_eq_some_iff.1 hj).1
  exact ⟨xs[j]'(by omega), by rw [hx j f hj, List.getElem?_eq_getElem (by omega)]⟩
theorem opens_iso {α β : Type} {P : Program} {t : TypeId} {e : Enc α} {f : β → α} {g : α → β} {h : ∀ x, f (g x) = x} (ho : Opens P t e) : Opens P t (isoE e f g h) := fun H enc w base spare held fuel cs x hx => by
  obtain ⟨a, h1, h2⟩ := ho H enc w base spare held fuel cs x hx
  exact ⟨g a, by show e.At _ _ (f (g a)) _; rw [h]; exact h1, by show e.long (f (g a)); rw [h]; exact h2⟩
theorem opens_still {α : Type} {P : Program} {t : TypeId} {e : Enc α} (ho : Opens P t e) : Opens P t (stillE e) := ho
theorem agg_eq {cs : Array Value} {l : List Value} (h : cs.toList = l) : Value.agg cs = .agg l.toArray := by rw [← h]
section
variable {H : Type} {enc : TypeId × Value → H} {P : Program} {w : World} {base : Nat} {spare : Nat → Bool} {held : Bool}
theorem opv_sl {α : Type} {e : Enc α} {t : TypeId} (ho : Opens P t (slE e)) {a : Option Addr} {n c : Nat} {d : DataW H} {p : List MemPlace} (h : DataW.Trod enc P w base spare held t (.slice a n c) d p) :
    ∃ l, SlAt e (All w) w l (.slice a n c) ∧ (slE e).long l := by
  obtain ⟨fuel, hf⟩ := h
  obtain ⟨l, ⟨v, e1, hs⟩, hl⟩ := ho H enc w base spare held fuel _ _ hf
  have e2 : [Value.slice a n c] = [v] := e1
  injection e2 with e2
  subst e2
  exact ⟨l, hs, hl⟩
theorem opv_int {r : Reach} {b0 : Nat} {t : TypeId} {v : Value} {d : DataW H} {p : List MemPlace} (ht : P.underlying t = some (.int .i64)) (hv : Value.okWide P w r b0 t v) (h : DataW.Trod enc P w base spare held t v d p) :
    ∃ n : Int, v = .int .i64 n ∧ (-9223372036854775808 ≤ n ∧ n ≤ 9223372036854775807) := by
  obtain ⟨n, rfl⟩ := okWide_int ht hv
  obtain ⟨fuel, hf⟩ := h
  obtain ⟨a, e1, hl⟩ := opens_int ht H enc w base spare held fuel _ _ hf
  have e2 : [Value.int .i64 n] = [Value.int .i64 a] := e1
  injection e2 with e2
  injection e2 with _ e2
  subst e2
  exact ⟨n, rfl, hl⟩
theorem opv_struct {α : Type} {e : Enc α} {r : Reach} {b0 : Nat} {t : TypeId} {fs : Array Field} {v : Value} {d : DataW H} {p : List MemPlace} (hs : P.underlying t = some (.struct fs)) (ho : Opens P t e) (hv : Value.okWide P w r b0 t v) (h : DataW.Trod enc P w base spare held t v d p) :
    ∃ (cs : Array Value) (a : α), v = .agg cs ∧ e.At (All w) w a cs.toList ∧ e.long a := by
  obtain ⟨cs, rfl, hsz⟩ := okWide_struct hs hv
  obtain ⟨fuel, hf⟩ := h
  obtain ⟨a, h1, h2⟩ := ho H enc w base spare held fuel _ _ hf
  exact ⟨cs, a, rfl, h1, h2⟩
end
end Go.Proofs.YtohcdpoffpnfhaaGreatDoor
/- What the two texts of NameRight return. -/
namespace Go.Proofs.YtohcdpoffpnfhaaGreatDoor
open Go.RowKit

def letB (c : Int) : Bool := decide (97 ≤ c) && decide (c ≤ 122)
def digB (c : Int) : Bool := decide (48 ≤ c) && decide (c ≤ 57)
def nameB (c : Int) : Bool := letB c || digB c || (c == 95)

set_option maxHeartbeats 400000 in
theorem isLetter_any (c : Int) (w : World) :
    Calls Tryz.prog 201 #[.int .u8 c] w fun e w' => e = .returned (.bool (letB c)) ∧ w = w' := by
  by_cases h1 : 97 ≤ c
  all_goals by_cases h2 : c ≤ 122
  all_goals
    go_enter Tryz.func201, Tryz.ntmps201
    go_wp2
    go_ret
    exact ⟨by simp [letB, h1, h2], rfl⟩

set_option maxHeartbeats 400000 in
theorem isNameByte_any (c : Int) (w : World) :
    Calls Tryz.prog 202 #[.int .u8 c] w fun e w' => e = .returned (.bool (nameB c)) ∧ w = w' := by
  by_cases h1 : 97 ≤ c
  all_goals by_cases h2 : c ≤ 122
  all_goals by_cases h3 : 48 ≤ c
  all_goals by_cases h4 : c ≤ 57
  all_goals by_cases h5 : c = 95
  all_goals try omega
  all_goals
    first | (have hl : letB c = true := by simp [letB, h1, h2]) | (have hl : letB c = false := by simp [letB, h1, h2])
    first | (have h6 : (c == 95) = true := by simp [h5]) | (have h6 : (c == 95) = false := by simp [h5])
    go_enter Tryz.func202, Tryz.ntmps202
    go_wp2_with (first | (go_at_call 201; refine (isLetter_any _ _).mono ?_; rintro e w' ⟨rfl, rfl⟩))
    go_ret
    exact ⟨by simp [nameB, hl, digB, h3, h4, h6], rfl⟩
end Go.Proofs.YtohcdpoffpnfhaaGreatDoor
/- What the two texts of NameRight return. -/
namespace Go.Proofs.YtohcdpoffpnfhaaGreatDoor
open Go.RowKit

def allB (l : List UInt8) : Bool := l.all (fun c => nameB (c.toNat : Int))
def nmL (s : ByteArray) : Bool := decide (1 ≤ s.size) && decide (s.size ≤ 20) && letB ((s.data.toList.getD 0 0).toNat : Int) && allB s.data.toList

theorem take_snoc (s : ByteArray) (k : Nat) (h : k < s.size) : s.data.toList.take (k + 1) = s.data.toList.take k ++ [s[k]] := by
  rw [List.take_succ_eq_append_getElem (by simpa using h)]; rfl
theorem allB_snoc (l : List UInt8) (c : UInt8) : allB (l ++ [c]) = (allB l && nameB (c.toNat : Int)) := by simp [allB]
theorem getD_zero (s : ByteArray) (h : 0 < s.size) : s.data.toList.getD 0 0 = s[0] := by
  have h' : 0 < s.data.toList.length := by simpa using h
  rw [List.getD_eq_getElem?_getD, List.getElem?_eq_getElem h']; rfl
theorem mem_get (s : ByteArray) (k : Nat) (h : k < s.size) : s[k] ∈ s.data.toList := by
  have : s.data.toList[k]'(by simpa using h) = s[k] := rfl
  rw [← this]; exact List.getElem_mem _
theorem allB_false (s : ByteArray) (k : Nat) (h : k < s.size) (hn : nameB (s[k].toNat : Int) = false) : allB s.data.toList = false := by
  unfold allB; rw [List.all_eq_false]; exact ⟨_, mem_get s k h, by simp [hn]⟩
theorem ret_bool {a b : Bool} (h : a = b) : Ending.returned (.bool a) = .returned (.bool b) := by rw [h]

set_option maxHeartbeats 400000 in
theorem NameRight_any (s : ByteArray) (w : World) (hs : s.size ≤ maxLen) :
    Calls Tryz.prog 164 #[.string s] w fun e w' => e = .returned (.bool (nmL s)) ∧ w = w' := by
  unfold maxLen at hs
  by_cases h1 : s.size < 1
  · have hf : nmL s = false := by have : ¬ 1 ≤ s.size := by omega
                                  simp [nmL, this]
    have Hf := Lib.hid hf; clear hf
    go_enter Tryz.func164, Tryz.ntmps164
    go_wp2
    go_ret
    exact ⟨ret_bool Hf.out.symm, rfl⟩
  by_cases h2 : 20 < s.size
  · have hf : nmL s = false := by have : ¬ s.size ≤ 20 := by omega
                                  simp [nmL, this]
    have Hf := Lib.hid hf; clear hf
    go_enter Tryz.func164, Tryz.ntmps164
    go_wp2
    go_ret
    exact ⟨ret_bool Hf.out.symm, rfl⟩
  have h0 : 0 < s.size := by omega
  have hg := getD_zero s h0
  cases h3 : letB (s[0].toNat : Int)
  · have hf : nmL s = false := by simp [nmL, -List.getD_eq_getElem?_getD, hg, h3]
    have Hf := Lib.hid hf; clear hf hg
    go_enter Tryz.func164, Tryz.ntmps164
    go_wp2_with (first | (go_at_call 201; refine (isLetter_any _ _).mono ?_; rintro e w' ⟨rfl, rfl⟩))
    go_ret
    exact ⟨ret_bool Hf.out.symm, rfl⟩
  have hf : nmL s = allB s.data.toList := by simp only [nmL, hg, h3]; simp; omega
  have Hf := Lib.hid hf; clear hf hg
  go_enter Tryz.func164, Tryz.ntmps164
  go_wp2_with (first | (go_at_call 201; refine (isLetter_any _ _).mono ?_; rintro e w' ⟨rfl, rfl⟩))
  go_loop [20] (fun i => ∃ k : Nat, k ≤ s.size ∧ i = .int .i64 k ∧ allB (s.data.toList.take k) = true) (fun i => s.size - (intOf i).toNat)
  case atStart => exact ⟨0, Nat.zero_le _, rfl, rfl⟩
  case round =>
    obtain ⟨k, hk, rfl, ha⟩ := hrel
    have Ha := Lib.hid ha; clear ha
    by_cases hlt : k < s.size
    · have hts := Lib.hid (take_snoc s k hlt)
      cases hn : nameB (s[k].toNat : Int)
      · have hF := Lib.hid (allB_false s k hlt hn)
        go_wp2_with (first | (go_at_call 202; refine (isNameByte_any _ _).mono ?_; rintro e w' ⟨rfl, rfl⟩))
        go_ret
        exact ⟨ret_bool (by rw [Hf.out, hF.out]), rfl⟩
      · have hT : allB (s.data.toList.take (k + 1)) = true := by rw [hts.out, allB_snoc, Ha.out, hn]; rfl
        have HT := Lib.hid hT; clear hT
        go_wp2_with (first | (go_at_call 202; refine (isNameByte_any _ _).mono ?_; rintro e w' ⟨rfl, rfl⟩))
        go_round
        case rel => exact ⟨k + 1, by omega, by go_num, HT.out⟩
        case measure => simp [intOf]; omega
    · go_wp2
      go_ret
      refine ⟨ret_bool ?_, rfl⟩
      rw [Hf.out, ← Ha.out, List.take_of_length_le (by simp; omega)]
end Go.Proofs.YtohcdpoffpnfhaaGreatDoor
/- Norm: the plain mathematics. -/
namespace Go.Proofs.YtohcdpoffpnfhaaGreatDoor
open Go.RowKit

/-- the small letter of a capital one -/
def low (c : UInt8) : UInt8 := if 65 ≤ c.toNat ∧ c.toNat ≤ 90 then UInt8.ofNat (c.toNat + 32) else c
theorem low_in (c : UInt8) (h : 65 ≤ c.toNat ∧ c.toNat ≤ 90) : ((low c).toNat : Int) = (c.toNat : Int) + 32 := by
  unfold low; rw [if_pos h]; simp; omega
theorem low_out (c : UInt8) (h : ¬ (65 ≤ c.toNat ∧ c.toNat ≤ 90)) : low c = c := by unfold low; rw [if_neg h]
theorem low_space (c : UInt8) : low c = 32 ↔ c = 32 := by
  by_cases h : 65 ≤ c.toNat ∧ c.toNat ≤ 90
  · constructor
    · intro e
      have h1 := low_in c h
      rw [e] at h1
      have : ((32 : UInt8).toNat : Int) = 32 := rfl
      omega
    · intro e; subst e; simp at h
  · rw [low_out c h]
/-- one byte more of a normalized text -/
def nstep (o : List UInt8) (c : UInt8) : List UInt8 := if c = 32 ∧ (o = [] ∨ o.getLast? = some 32) then o else o ++ [low c]
def nfold (l : List UInt8) : List UInt8 := l.foldl nstep []
def chop (o : List UInt8) : List UInt8 := if o.getLast? = some 32 then o.dropLast else o
def plainB (l : List UInt8) : Bool := l.all (fun c => decide (32 ≤ (c.toNat : Int)) && decide ((c.toNat : Int) ≤ 126))
def normL (l : List UInt8) : List UInt8 := if l.length ≤ 100 ∧ plainB l = true then chop (nfold l) else []
def normS (s : ByteArray) : ByteArray := ⟨(normL s.data.toList).toArray⟩

theorem nstep_skip {o : List UInt8} {c : UInt8} (h1 : c = 32) (h2 : o = [] ∨ o.getLast? = some 32) : nstep o c = o := by unfold nstep; rw [if_pos ⟨h1, h2⟩]
theorem nstep_add {o : List UInt8} {c : UInt8} (h : ¬ (c = 32 ∧ (o = [] ∨ o.getLast? = some 32))) : nstep o c = o ++ [low c] := by unfold nstep; rw [if_neg h]
theorem nfold_snoc (l : List UInt8) (c : UInt8) : nfold (l ++ [c]) = nstep (nfold l) c := by simp [nfold]
theorem nfold_len (l : List UInt8) : (nfold l).length ≤ l.length := by
  have : ∀ (l o : List UInt8), (l.foldl nstep o).length ≤ o.length + l.length := by
    intro l
    induction l with
    | nil => intro o; simp
    | cons c l ih =>
      intro o
      rw [List.foldl_cons]
      refine Nat.le_trans (ih _) ?_
      unfold nstep
      split <;> simp <;> omega
  simpa [nfold] using this l []
theorem chop_len (o : List UInt8) : (chop o).length ≤ o.length := by unfold chop; split <;> simp
theorem normL_len (l : List UInt8) : (normL l).length ≤ 100 := by
  unfold normL
  split
  · rename_i h
    exact Nat.le_trans (chop_len _) (Nat.le_trans (nfold_len l) h.1)
  · simp
theorem normL_le (l : List UInt8) : (normL l).length ≤ l.length := by
  unfold normL
  split
  · exact Nat.le_trans (chop_len _) (nfold_len l)
  · simp
theorem normL_long {l : List UInt8} (h : ¬ l.length ≤ 100) : normL l = [] := by unfold normL; rw [if_neg (fun g => h g.1)]
theorem normL_odd {l : List UInt8} (h : plainB l = false) : normL l = [] := by unfold normL; rw [if_neg (fun g => by rw [h] at g; cases g.2)]
theorem normL_in {l : List UInt8} (h : l.length ≤ 100) (g : plainB l = true) : normL l = chop (nfold l) := by unfold normL; rw [if_pos ⟨h, g⟩]
theorem plainB_snoc (l : List UInt8) (c : UInt8) : plainB (l ++ [c]) = (plainB l && (decide (32 ≤ (c.toNat : Int)) && decide ((c.toNat : Int) ≤ 126))) := by simp [plainB]
theorem plainB_false (s : ByteArray) (k : Nat) (h : k < s.size) (hn : ¬ (32 ≤ (s[k].toNat : Int) ∧ (s[k].toNat : Int) ≤ 126)) : plainB s.data.toList = false := by
  unfold plainB; rw [List.all_eq_false]; exact ⟨_, mem_get s k h, by simp; omega⟩
end Go.Proofs.YtohcdpoffpnfhaaGreatDoor
/- Rows of bytes that a call owns, and the strings made of them. -/
namespace Go.Proofs.YtohcdpoffpnfhaaGreatDoor
open Go.RowKit

theorem Tryz.size5 (w : World) : (sizeOf 5).run Tryz.prog w = .ok 1 w := by kernel_rfl
theorem Tryz.info5 : (Tryz.prog.info? 5).map (fun i => (i.zero, i.size, i.bytes)) = some (some (.int .u8 0), 1, 1) := by kernel_rfl
theorem add_plain (b j : Nat) : (⟨b, 0, none⟩ : Addr).add j = ⟨b, j, none⟩ := by unfold Addr.add; split <;> simp_all
theorem str22 (W : World) (a : Addr) (cap : Nat) (l : List UInt8) (n : Nat) (hn : l.length = n) (hc : ∀ j (hj : j < l.length), W.cell? (a.add j) = some (.int .u8 (l[j].toNat : Int))) :
    (convert 165 9 (.slice (some a) n cap)).run Tryz.prog W = .ok (.string ⟨l.toArray⟩) W := by
  subst hn
  exact run_convert_bytes_back W 165 9 5 a cap l Tryz.underlying165 Tryz.underlying5 Tryz.underlying9 hc
def bs (l : List UInt8) : List Value := l.map (fun c => .int .u8 (c.toNat : Int))
theorem bs_length (l : List UInt8) : (bs l).length = l.length := by simp [bs]
theorem bs_snoc (l : List UInt8) (c : UInt8) : bs (l ++ [c]) = bs l ++ [.int .u8 (c.toNat : Int)] := by simp [bs]
/-- a string made of a row of bytes that the call owns -/
theorem str_own (W : World) (base : Nat) (v : Value) (l : List UInt8) (h : W.ownsRow base 5 1 v l.length (bs l)) :
    (convert 165 9 v).run Tryz.prog W = .ok (.string ⟨l.toArray⟩) W := by
  rcases h.2 with ⟨rfl, hn⟩ | ⟨g, cap, cur, rfl, hb, hg, hc1, hc2, hc3, hc4⟩
  · have : l = [] := List.length_eq_zero_iff.1 hn
    subst this
    exact run_convert_bytes_nil W 165 5 Tryz.underlying165 Tryz.underlying5 0 0 9 Tryz.underlying9
  · refine run_convert_bytes_back W 165 9 5 ⟨g, 0, none⟩ cap l Tryz.underlying165 Tryz.underlying5 Tryz.underlying9 fun j hj => ?_
    exact h.cells rfl j _ (by simp [bs, List.getElem?_eq_getElem hj])
/-- one byte more behind a row of bytes that the call owns -/
theorem append_byte {ops : Array Oper} {rest : List Oper} {o : Oper} {a : Act} {Q : Exit → Act → World → Prop} {w0 wr : World} (B : Nat) (hgd : o.guard = none) (s x : Operand)
    (ho : o.op = .call { callee := .builtin .append, args := #[s, x], argTypes := #[165, 165] }) (v : Value) (pre : List UInt8) (hs : a.eval s = v) (hown : wr.ownsRow B 5 1 v pre.length (bs pre))
    (c : UInt8) (n : Int) (hn : n = (c.toNat : Int)) (hx : a.eval x = .slice (some ⟨wr.heap.size, 0, none⟩) 1 1) (hlen : pre.length ≤ 1000000000) (hB : B ≤ wr.heap.size) (hbel : Below B w0 wr)
    (h : ∀ v' w', w'.ownsRow B 5 1 v' (pre ++ [c]).length (bs (pre ++ [c])) → Below B w0 w' → B ≤ w'.heap.size → wpList Tryz.prog ops Q rest (a.put o.dst v') w') :
    wpList Tryz.prog ops Q (o :: rest) a (wr.alloc (.cells #[.int .u8 n] 5)) := by
  obtain ⟨i0, hi, hz0, hz1, hz2⟩ := info_parts Tryz.info5
  subst hn
  refine wpList_append_own _ hgd s x 165 ho B 5 i0 (.int .u8 0) 1 1 Tryz.underlying165 hi hz0 hz1 hz2 rfl (by decide) v pre.length (bs pre) hs (hown.alloc _) ⟨wr.heap.size, 0, none⟩ 1 1 [.int .u8 (c.toNat : Int)] hx rfl (cell_one_new _ _ _) ?_ ?_ ?_ ?_ ?_
  · intro u hu; simp at hu; subst hu; rfl
  · unfold maxLen; omega
  · omega
  · simp; omega
  · intro v' w' h1 h2 h3
    have hb' : Below B w0 w' := (hbel.alloc hB _).grown h2 (by simp; omega) (fun k hk => (hown.lt k hk).1)
    refine h v' w' ?_ hb' (Nat.le_trans hB (by have := h2.size; simp at this; omega))
    rw [bs_snoc]; simpa using h1
/-- the value of a row that the call owns is a slice -/
theorem own_slice {w : World} {B e z n : Nat} {v : Value} {xs : List Value} (h : w.ownsRow B e z v n xs) : ∃ ao cap, v = .slice ao n cap := by
  rcases h.2 with ⟨rfl, rfl⟩ | ⟨g, cap, cur, rfl, _⟩
  · exact ⟨none, 0, rfl⟩
  · exact ⟨_, cap, rfl⟩
/-- the last byte of such a row -/
theorem own_last {w : World} {B n cap : Nat} {ao : Option Addr} {pre : List UInt8} {c : UInt8} (h : w.ownsRow B 5 1 (.slice ao n cap) pre.length (bs pre)) (hn : n = pre.length) (hc : pre.getLast? = some c) :
    ∃ g, ao = some ⟨g, 0, none⟩ ∧ w.cell? ⟨g, n - 1, none⟩ = some (.int .u8 (c.toNat : Int)) := by
  have h0 : 0 < pre.length := by
    rcases pre with _ | ⟨x, l⟩
    · simp at hc
    · simp
  obtain ⟨g, cp, hv, _, _⟩ := h.form h0
  have e : ao = some ⟨g, 0, none⟩ := by injection hv
  subst e
  refine ⟨g, rfl, ?_⟩
  have := h.cells (g := g) rfl (n - 1) (.int .u8 (c.toNat : Int)) (by
    rw [bs, List.getElem?_map, hn, ← List.getLast?_eq_getElem?, hc]; rfl)
  rw [add_plain] at this
  exact this
theorem ret_str {a b : ByteArray} (h : a = b) : Ending.returned (.string a) = .returned (.string b) := by rw [h]
theorem size_len (s : ByteArray) : s.data.toList.length = s.size := by simp
end Go.Proofs.YtohcdpoffpnfhaaGreatDoor
/- Norm: what the texts of the program and of the specification return. -/
namespace Go.Proofs.YtohcdpoffpnfhaaGreatDoor
open Go.RowKit

set_option maxHeartbeats 400000 in
theorem isPrintable_any (s : ByteArray) (w : World) (hs : s.size ≤ maxLen) :
    Calls Tryz.prog 195 #[.string s] w fun e w' => e = .returned (.bool (plainB s.data.toList)) ∧ w = w' := by
  unfold maxLen at hs
  go_enter Tryz.func195, Tryz.ntmps195
  go_wp2
  go_loop [6] (fun i => ∃ k : Nat, k ≤ s.size ∧ i = .int .i64 k ∧ plainB (s.data.toList.take k) = true) (fun i => s.size - (intOf i).toNat)
  case atStart => exact ⟨0, Nat.zero_le _, rfl, rfl⟩
  case round =>
    obtain ⟨k, hk, rfl, ha⟩ := hrel
    have Ha := Lib.hid ha; clear ha
    by_cases hlt : k < s.size
    · have hts := Lib.hid (take_snoc s k hlt)
      by_cases hp : 32 ≤ (s[k].toNat : Int) ∧ (s[k].toNat : Int) ≤ 126
      · obtain ⟨c1, c2⟩ := hp
        have HT : Hid (plainB (s.data.toList.take (k + 1)) = true) := Lib.hid (by rw [hts.out, plainB_snoc, Ha.out]; simp; omega)
        go_wp2
        go_round
        case rel => exact ⟨k + 1, by omega, by go_num, HT.out⟩
        case measure => simp [intOf]; omega
      · have HF := Lib.hid (plainB_false s k hlt hp)
        by_cases c1 : 32 ≤ (s[k].toNat : Int)
        · have c2 : ¬ (s[k].toNat : Int) ≤ 126 := by omega
          clear hp
          go_wp2
          go_ret
          exact ⟨ret_bool HF.out.symm, rfl⟩
        · clear hp
          go_wp2
          go_ret
          exact ⟨ret_bool HF.out.symm, rfl⟩
    · have e : s.data.toList.take k = s.data.toList := List.take_of_length_le (by simp; omega)
      have HT : Hid (plainB s.data.toList = true) := Lib.hid (by rw [← e]; exact Ha.out)
      clear e
      go_wp2
      go_ret
      exact ⟨ret_bool HT.out.symm, rfl⟩
set_option maxHeartbeats 400000 in
theorem l02Plain_any (s : ByteArray) (w : World) (hs : s.size ≤ maxLen) :
    Calls Tryz.prog 163 #[.string s] w fun e w' => e = .returned (.bool (plainB s.data.toList)) ∧ w = w' := by
  unfold maxLen at hs
  go_enter Tryz.func163, Tryz.ntmps163
  go_wp2
  go_loop [3] (fun i => ∃ k : Nat, k ≤ s.size ∧ i = .int .i64 k ∧ plainB (s.data.toList.take k) = true) (fun i => s.size - (intOf i).toNat)
  case atStart => exact ⟨0, Nat.zero_le _, rfl, rfl⟩
  case round =>
    obtain ⟨k, hk, rfl, ha⟩ := hrel
    have Ha := Lib.hid ha; clear ha
    by_cases hlt : k < s.size
    · have hts := Lib.hid (take_snoc s k hlt)
      by_cases hp : 32 ≤ (s[k].toNat : Int) ∧ (s[k].toNat : Int) ≤ 126
      · obtain ⟨c1, c2⟩ := hp
        have HT : Hid (plainB (s.data.toList.take (k + 1)) = true) := Lib.hid (by rw [hts.out, plainB_snoc, Ha.out]; simp; omega)
        go_wp2
        go_round
        case rel => exact ⟨k + 1, by omega, by go_num, HT.out⟩
        case measure => simp [intOf]; omega
      · have HF := Lib.hid (plainB_false s k hlt hp)
        by_cases c1 : 32 ≤ (s[k].toNat : Int)
        · have c2 : ¬ (s[k].toNat : Int) ≤ 126 := by omega
          clear hp
          go_wp2
          go_ret
          exact ⟨ret_bool HF.out.symm, rfl⟩
        · clear hp
          go_wp2
          go_ret
          exact ⟨ret_bool HF.out.symm, rfl⟩
    · have e : s.data.toList.take k = s.data.toList := List.take_of_length_le (by simp; omega)
      have HT : Hid (plainB s.data.toList = true) := Lib.hid (by rw [← e]; exact Ha.out)
      clear e
      go_wp2
      go_ret
      exact ⟨ret_bool HT.out.symm, rfl⟩

theorem ret_int' {k : IntKind} {a b : Int} (h : a = b) : Ending.returned (.int k a) = .returned (.int k b) := by rw [h]
set_option maxHeartbeats 400000 in
theorem lowerByte_any (c : UInt8) (w : World) :
    Calls Tryz.prog 196 #[.int .u8 (c.toNat : Int)] w fun e w' => e = .returned (.int .u8 ((low c).toNat : Int)) ∧ w = w' := by
  by_cases h : 65 ≤ c.toNat ∧ c.toNat ≤ 90
  · have H := Lib.hid (low_in c h)
    have h1 : 65 ≤ (c.toNat : Int) := by omega
    have h2 : (c.toNat : Int) ≤ 90 := by omega
    clear h
    go_enter Tryz.func196, Tryz.ntmps196
    go_wp2
    go_ret
    exact ⟨ret_int' (by rw [H.out]; omega), rfl⟩
  · have H := Lib.hid (low_out c h)
    by_cases h1 : 65 ≤ (c.toNat : Int)
    · have h2 : ¬ (c.toNat : Int) ≤ 90 := by omega
      clear h
      go_enter Tryz.func196, Tryz.ntmps196
      go_wp2
      go_ret
      exact ⟨ret_int' (by rw [H.out]), rfl⟩
    · clear h
      go_enter Tryz.func196, Tryz.ntmps196
      go_wp2
      go_ret
      exact ⟨ret_int' (by rw [H.out]), rfl⟩
end Go.Proofs.YtohcdpoffpnfhaaGreatDoor
/- Norm: what the specification's text returns. -/
namespace Go.Proofs.YtohcdpoffpnfhaaGreatDoor
open Go.RowKit

theorem last_some {pre : List UInt8} (h : pre ≠ []) : ∃ c, pre.getLast? = some c := ⟨pre.getLast h, List.getLast?_eq_some_getLast h⟩
theorem Tryz.elem165 : Tryz.prog.elem 165 = 5 := by kernel_rfl
/-- the row without its last byte -/
theorem cut_last (W : World) (g n cap : Nat) (hn : 0 < n) (hc : n ≤ cap) :
    (Instr.slice 165 (.slice (some ⟨g, 0, none⟩) n cap) none (some (.int .i64 ((n : Int) - 1))) none).run Tryz.prog W = .ok (.slice (some ⟨g, 0, none⟩) (n - 1) cap) W := by
  rw [run_slice_h W 165 (some ⟨g, 0, none⟩) n cap (by rw [Tryz.elem165]; exact Tryz.underlying165) .i64 ((n : Int) - 1) (by omega) (by omega), Tryz.elem165, Tryz.size5]
  have e : ((n : Int) - 1).toNat = n - 1 := by omega
  simp [Result.andThen, sliced, e]
  intro _; exact add_plain g 0
theorem own_cap {w : World} {B e z n m cap : Nat} {ao : Option Addr} {xs : List Value} (h : w.ownsRow B e z (.slice ao m cap) n xs) : n ≤ cap := by
  rcases h.2 with ⟨h, h'⟩ | ⟨_, _, _, h, _, _, h', _⟩
  · omega
  · injection h with _ _ h; omega
/-- what is known at the head of a round of Norm -/
def NormAt (s : ByteArray) (w : World) (v i : Value) (wr : World) (k : Nat) : Prop :=
  k ≤ s.size ∧ i = .int .i64 k ∧ wr.ownsRow w.heap.size 5 1 v (nfold (s.data.toList.take k)).length (bs (nfold (s.data.toList.take k))) ∧ Below w.heap.size w wr
theorem nat_of_u8 {c : UInt8} {n : Nat} (h : (c.toNat : Int) = n) (hn : n < 256) : c = UInt8.ofNat n := by
  apply UInt8.toNat_inj.1
  simp; omega
theorem nfold_take (s : ByteArray) (k : Nat) (h : k < s.size) : nfold (s.data.toList.take (k + 1)) = nstep (nfold (s.data.toList.take k)) s[k] := by rw [take_snoc s k h, nfold_snoc]
theorem nfold_take_len (s : ByteArray) (k : Nat) (hs : s.size ≤ 100) : (nfold (s.data.toList.take k)).length ≤ 100 := by
  refine Nat.le_trans (nfold_len _) ?_
  rw [List.length_take, size_len]; omega

set_option maxRecDepth 100000 in
set_option maxHeartbeats 1000000 in
theorem SpecNorm_in (s : ByteArray) (w : World) (hs : s.size ≤ 100) (hp : plainB s.data.toList = true) :
    Calls Tryz.prog 118 #[.string s] w fun e w' => e = .returned (.string (normS s)) ∧ Below w.heap.size w w' := by
  have HP := Lib.hid hp
  have hm : s.size ≤ maxLen := by unfold maxLen; omega
  go_enter Tryz.func118, Tryz.ntmps118
  go_wp2_with (first | (go_at_call 163; refine (l02Plain_any _ _ hm).mono ?_; rintro e w' ⟨rfl, rfl⟩))
  clear hp
  go_loopw [3, 4] (fun v i wr => ∃ k : Nat, NormAt s w v i wr k) (fun _ i _ => s.size - (intOf i).toNat)
  case atStart => exact ⟨0, Nat.zero_le _, rfl, World.ownsRow_made _ _ 0 (Nat.le_refl _) (by unfold maxLen; omega) rfl, (Below.refl _ _).alloc (Nat.le_refl _) _⟩
  case round =>
    obtain ⟨k, hk, rfl, hown, hbel⟩ := hrel
    have hlen := nfold_take_len s k hs
    obtain ⟨ao, cap, rfl⟩ := own_slice hown
    have hsz := hbel.size
    by_cases hlt : k < s.size
    · have HN := Lib.hid (nfold_take s k hlt)
      generalize nfold (s.data.toList.take k) = pre at *
      by_cases hcap : 65 ≤ (s[k].toNat : Int) ∧ (s[k].toNat : Int) ≤ 90
      · obtain ⟨c1, c2⟩ := hcap
        have hlow := low_in s[k] (by omega)
        have HE : Hid (nfold (s.data.toList.take (k + 1)) = pre ++ [low s[k]]) := Lib.hid (by
          rw [HN.out]; exact nstep_add (fun h => by have := congrArg UInt8.toNat h.1; simp at this; omega))
        have HL := Lib.hid hlow.symm; clear hlow
        go_wp2_with (first | (at_builtin; refine append_byte w.heap.size rfl _ _ rfl _ pre rfl hown (low s[k]) _ HL.out rfl (by omega) hsz hbel ?_; intro v' w1 hown' hbel' hsz'))
        go_roundw
        case rel => exact ⟨k + 1, by omega, by go_num, by rw [HE.out]; exact hown', hbel'⟩
        case measure => simp [intOf]; omega
      · have HL := Lib.hid (low_out s[k] (by omega))
        by_cases hsp : (s[k].toNat : Int) = 32
        · have hb1 : ((s[k].toNat : Int) == 32) = true := by rw [hsp]; rfl
          have hb2 : ¬ 65 ≤ (s[k].toNat : Int) := by omega
          have HS := Lib.hid (nat_of_u8 (n := 32) hsp (by omega))
          clear hcap hsp
          by_cases hne : pre = []
          · subst hne
            have HE : Hid (nfold (s.data.toList.take (k + 1)) = []) := Lib.hid (by rw [HN.out]; exact nstep_skip HS.out (.inl rfl))
            have hb3 : (([] : List UInt8).length : Int) = 0 := rfl
            rw [List.length_nil] at hown ⊢
            go_wp2
            go_roundw
            case rel => exact ⟨k + 1, by omega, by go_num, by rw [HE.out]; exact hown, hbel⟩
            case measure => simp [intOf]; omega
          · have h0 : 0 < pre.length := List.length_pos_iff.2 hne
            obtain ⟨d, hd⟩ := last_some hne
            obtain ⟨g, rfl, hcell⟩ := own_last hown rfl hd
            have HD := Lib.hid hd
            have hb3 : ((pre.length : Int) == 0) = false := by rw [beq_eq_false_iff_ne]; omega
            by_cases hds : (d.toNat : Int) = 32
            · have hb4 : ((d.toNat : Int) == 32) = true := by rw [hds]; rfl
              have HE : Hid (nfold (s.data.toList.take (k + 1)) = pre) := Lib.hid (by rw [HN.out]; exact nstep_skip HS.out (.inr (by rw [HD.out, nat_of_u8 (n := 32) hds (by omega)]; rfl)))
              clear hd hds hne
              go_wp2
              go_roundw
              case rel => exact ⟨k + 1, by omega, by go_num, by rw [HE.out]; exact hown, hbel⟩
              case measure => simp [intOf]; omega
            · have hb4 : ((d.toNat : Int) == 32) = false := by rw [beq_eq_false_iff_ne]; exact hds
              have HE : Hid (nfold (s.data.toList.take (k + 1)) = pre ++ [s[k]]) := Lib.hid (by
                rw [HN.out, nstep_add, HL.out]
                rintro ⟨_, h | h⟩
                · exact hne h
                · rw [HD.out] at h; have := Option.some.inj h; subst this; exact hds rfl)
              clear hd hds hne
              go_wp2_with (first | (at_builtin; refine append_byte w.heap.size rfl _ _ rfl _ pre rfl hown s[k] _ rfl rfl (by omega) hsz hbel ?_; intro v' w1 hown' hbel' hsz'))
              go_roundw
              case rel => exact ⟨k + 1, by omega, by go_num, by rw [HE.out]; exact hown', hbel'⟩
              case measure => simp [intOf]; omega
        · have hb1 : ((s[k].toNat : Int) == 32) = false := by rw [beq_eq_false_iff_ne]; exact hsp
          have HE : Hid (nfold (s.data.toList.take (k + 1)) = pre ++ [s[k]]) := Lib.hid (by
            rw [HN.out, nstep_add, HL.out]
            rintro ⟨h, _⟩
            rw [h] at hsp; exact hsp rfl)
          by_cases c1 : 65 ≤ (s[k].toNat : Int)
          · have c2 : ¬ (s[k].toNat : Int) ≤ 90 := by omega
            clear hcap hsp
            go_wp2_with (first | (at_builtin; refine append_byte w.heap.size rfl _ _ rfl _ pre rfl hown s[k] _ rfl rfl (by omega) hsz hbel ?_; intro v' w1 hown' hbel' hsz'))
            go_roundw
            case rel => exact ⟨k + 1, by omega, by go_num, by rw [HE.out]; exact hown', hbel'⟩
            case measure => simp [intOf]; omega
          · clear hcap hsp
            go_wp2_with (first | (at_builtin; refine append_byte w.heap.size rfl _ _ rfl _ pre rfl hown s[k] _ rfl rfl (by omega) hsz hbel ?_; intro v' w1 hown' hbel' hsz'))
            go_roundw
            case rel => exact ⟨k + 1, by omega, by go_num, by rw [HE.out]; exact hown', hbel'⟩
            case measure => simp [intOf]; omega
    · have e : s.data.toList.take k = s.data.toList := List.take_of_length_le (by simp; omega)
      rw [e] at hown hlen ⊢
      have HR : Hid (normS s = ⟨(chop (nfold s.data.toList)).toArray⟩) := Lib.hid (by unfold normS; rw [normL_in (by simpa using hs) HP.out])
      clear e
      generalize nfold s.data.toList = pre at *
      by_cases hne : pre = []
      · subst hne
        have hcv := str_own _ _ _ [] hown
        have HC : Hid (chop [] = []) := Lib.hid rfl
        rw [List.length_nil] at hown hcv ⊢
        go_wp2
        go_ret
        exact ⟨ret_str (by rw [HR.out, HC.out]), hbel⟩
      · have h0 : 0 < pre.length := List.length_pos_iff.2 hne
        obtain ⟨d, hd⟩ := last_some hne
        obtain ⟨g, rfl, hcell⟩ := own_last hown rfl hd
        have HD := Lib.hid hd
        by_cases hds : (d.toNat : Int) = 32
        · have hb4 : ((d.toNat : Int) == 32) = true := by rw [hds]; rfl
          have HC : Hid (chop pre = pre.dropLast) := Lib.hid (by unfold chop; rw [if_pos]; rw [HD.out, nat_of_u8 (n := 32) hds (by omega)]; rfl)
          have hcut := fun W => cut_last W g pre.length cap h0 (own_cap hown)
          have hcv := str22 wr ⟨g, 0, none⟩ cap pre.dropLast (pre.length - 1) (by simp) (fun j hj => by
            rw [List.length_dropLast] at hj
            rw [List.getElem_dropLast]
            exact hown.cells (g := g) rfl j _ (by simp [bs, List.getElem?_eq_getElem (show j < pre.length by omega)]))
          clear hd hds hne
          go_wp2
          go_ret
          exact ⟨ret_str (by rw [HR.out, HC.out]), hbel⟩
        · have hb4 : ((d.toNat : Int) == 32) = false := by rw [beq_eq_false_iff_ne]; exact hds
          have HC : Hid (chop pre = pre) := Lib.hid (by unfold chop; rw [if_neg]; intro h; rw [HD.out] at h; have := Option.some.inj h; subst this; exact hds rfl)
          have hcv := str_own _ _ _ pre hown
          clear hd hds hne
          go_wp2
          go_ret
          exact ⟨ret_str (by rw [HR.out, HC.out]), hbel⟩
end Go.Proofs.YtohcdpoffpnfhaaGreatDoor
/- Norm: what the program's text returns. -/
namespace Go.Proofs.YtohcdpoffpnfhaaGreatDoor
open Go.RowKit

def endsB (l : List UInt8) : Bool := l.getLast? == some 32
theorem extract_list (s : ByteArray) (i j : Nat) : (s.extract i j).data.toList = (s.data.toList.take j).drop i := by
  rw [ByteArray.data_extract, Array.toList_extract]; simp [List.extract, List.drop_take]
theorem ends_last (s : ByteArray) (h : 1 ≤ s.size) : ((s.extract (s.size - 1) s.size).toList == [32]) = endsB s.data.toList := by
  have hl : s.data.toList.length = s.size := size_len s
  rw [Lib.toList_data, extract_list, List.take_of_length_le (by omega)]
  unfold endsB
  have hne : s.data.toList ≠ [] := by intro e; rw [e] at hl; simp at hl; omega
  rw [List.getLast?_eq_some_getLast hne]
  have e : s.data.toList.drop (s.size - 1) = [s.data.toList.getLast hne] := by
    have h2 := List.dropLast_concat_getLast hne
    have h3 : s.data.toList.dropLast.length = s.size - 1 := by rw [List.length_dropLast, hl]
    calc s.data.toList.drop (s.size - 1) = (s.data.toList.dropLast ++ [s.data.toList.getLast hne]).drop (s.size - 1) := by rw [h2]
      _ = _ := by rw [← h3, List.drop_left]
  rw [e]
  simp
set_option maxHeartbeats 400000 in
theorem hasSuffix_any (s : ByteArray) (w : World) (hs : s.size ≤ maxLen) :
    Calls Tryz.prog 228 #[.string s, .string ⟨#[32]⟩] w fun e w' => e = .returned (.bool (endsB s.data.toList)) ∧ w = w' := by
  unfold maxLen at hs
  by_cases h1 : 1 ≤ s.size
  · have HE := Lib.hid (ends_last s h1)
    go_enter Tryz.func228, Tryz.ntmps228
    go_wp2
    go_ret
    exact ⟨ret_bool (by rw [← HE.out]), rfl⟩
  · have HE : Hid (endsB s.data.toList = false) := Lib.hid (by
      have : s.data.toList = [] := List.eq_nil_of_length_eq_zero (by rw [size_len]; omega)
      rw [this]; rfl)
    go_enter Tryz.func228, Tryz.ntmps228
    go_wp2
    go_ret
    exact ⟨ret_bool HE.out.symm, rfl⟩
theorem chop_ends (s : ByteArray) (h : endsB s.data.toList = true) : 1 ≤ s.size ∧ (⟨(chop s.data.toList).toArray⟩ : ByteArray) = s.extract 0 (s.size - 1) := by
  have hl := size_len s
  have h' : s.data.toList.getLast? = some 32 := by simpa [endsB] using h
  have h1 : 1 ≤ s.size := by
    rcases hd : s.data.toList with _ | ⟨x, l⟩
    · rw [hd] at h'; simp at h'
    · rw [hd] at hl; simp at hl; omega
  refine ⟨h1, ?_⟩
  apply ByteArray.ext
  apply Array.toList_inj.1
  rw [extract_list]
  unfold chop
  rw [if_pos h', List.dropLast_eq_take, hl]; simp
theorem chop_not (s : ByteArray) (h : endsB s.data.toList = false) : (⟨(chop s.data.toList).toArray⟩ : ByteArray) = s := by
  have h' : ¬ s.data.toList.getLast? = some 32 := by intro e; simp [endsB, e] at h
  unfold chop
  rw [if_neg h']
set_option maxHeartbeats 400000 in
theorem trimIn_any (s : ByteArray) (w : World) (hs : s.size ≤ maxLen) :
    Calls Tryz.prog 218 #[.string s, .string ⟨#[32]⟩] w fun e w' => e = .returned (.string ⟨(chop s.data.toList).toArray⟩) ∧ w = w' := by
  have hM := hs
  unfold maxLen at hs
  cases hb : endsB s.data.toList
  · have HE := Lib.hid (chop_not s hb)
    go_enter Tryz.func218, Tryz.ntmps218
    go_wp2_with (first | (go_at_call 228; refine (hasSuffix_any _ _ hM).mono ?_; rintro e w' ⟨rfl, rfl⟩))
    go_ret
    exact ⟨ret_str (by rw [HE.out]), rfl⟩
  · obtain ⟨h1, hc⟩ := chop_ends s hb
    have HE := Lib.hid hc; clear hc
    go_enter Tryz.func218, Tryz.ntmps218
    go_wp2_with (first | (go_at_call 228; refine (hasSuffix_any _ _ hM).mono ?_; rintro e w' ⟨rfl, rfl⟩))
    go_ret
    exact ⟨ret_str (by rw [HE.out]), rfl⟩
set_option maxHeartbeats 400000 in
theorem trim_any (s : ByteArray) (w : World) (hs : s.size ≤ maxLen) :
    Calls Tryz.prog 197 #[.string s, .string ⟨#[32]⟩] w fun e w' => e = .returned (.string ⟨(chop s.data.toList).toArray⟩) ∧ w = w' := by
  go_enter Tryz.func197, Tryz.ntmps197
  go_wp2_with (first | (go_at_call 218; refine (trimIn_any _ _ hs).mono ?_; rintro e w' ⟨rfl, rfl⟩))
  go_ret
  exact ⟨rfl, rfl⟩

set_option maxRecDepth 100000 in
set_option maxHeartbeats 1000000 in
theorem Norm_in (s : ByteArray) (w : World) (hs : s.size ≤ 100) (hp : plainB s.data.toList = true) :
    Calls Tryz.prog 156 #[.string s] w fun e w' => e = .returned (.string (normS s)) ∧ Below w.heap.size w w' := by
  have HP := Lib.hid hp
  have hm : s.size ≤ maxLen := by unfold maxLen; omega
  go_enter Tryz.func156, Tryz.ntmps156
  go_wp2_with (first | (go_at_call 195; refine (isPrintable_any _ _ hm).mono ?_; rintro e w' ⟨rfl, rfl⟩))
  clear hp
  go_loopw [3, 16] (fun v i wr => ∃ k : Nat, NormAt s w v i wr k) (fun _ i _ => s.size - (intOf i).toNat)
  case atStart => exact ⟨0, Nat.zero_le _, rfl, ⟨rfl, .inl ⟨rfl, rfl⟩⟩, Below.refl _ _⟩
  case round =>
    obtain ⟨k, hk, rfl, hown, hbel⟩ := hrel
    have hlen := nfold_take_len s k hs
    obtain ⟨ao, cap, rfl⟩ := own_slice hown
    have hsz := hbel.size
    by_cases hlt : k < s.size
    · have HN := Lib.hid (nfold_take s k hlt)
      generalize nfold (s.data.toList.take k) = pre at *
      by_cases hsp : (s[k].toNat : Int) = 32
      · have hb1 : ((s[k].toNat : Int) == 32) = true := by rw [hsp]; rfl
        have HS := Lib.hid (nat_of_u8 (n := 32) hsp (by omega))
        clear hsp
        by_cases hne : pre = []
        · subst hne
          have HE : Hid (nfold (s.data.toList.take (k + 1)) = []) := Lib.hid (by rw [HN.out]; exact nstep_skip HS.out (.inl rfl))
          have hb3 : (([] : List UInt8).length : Int) = 0 := rfl
          rw [List.length_nil] at hown ⊢
          go_wp2
          go_roundw
          case rel => exact ⟨k + 1, by omega, by go_num, by rw [HE.out]; exact hown, hbel⟩
          case measure => simp [intOf]; omega
        · have h0 : 0 < pre.length := List.length_pos_iff.2 hne
          obtain ⟨d, hd⟩ := last_some hne
          obtain ⟨g, rfl, hcell⟩ := own_last hown rfl hd
          have HD := Lib.hid hd
          have hb3 : ((pre.length : Int) == 0) = false := by rw [beq_eq_false_iff_ne]; omega
          by_cases hds : (d.toNat : Int) = 32
          · have hb4 : ((d.toNat : Int) == 32) = true := by rw [hds]; rfl
            have HE : Hid (nfold (s.data.toList.take (k + 1)) = pre) := Lib.hid (by rw [HN.out]; exact nstep_skip HS.out (.inr (by rw [HD.out, nat_of_u8 (n := 32) hds (by omega)]; rfl)))
            clear hd hds hne
            go_wp2
            go_roundw
            case rel => exact ⟨k + 1, by omega, by go_num, by rw [HE.out]; exact hown, hbel⟩
            case measure => simp [intOf]; omega
          · have hb4 : ((d.toNat : Int) == 32) = false := by rw [beq_eq_false_iff_ne]; exact hds
            have HE : Hid (nfold (s.data.toList.take (k + 1)) = pre ++ [low s[k]]) := Lib.hid (by
              rw [HN.out, nstep_add]
              rintro ⟨_, h | h⟩
              · exact hne h
              · rw [HD.out] at h; have := Option.some.inj h; subst this; exact hds rfl)
            clear hd hds hne
            go_wp2_with (first | (go_at_call 196; refine (lowerByte_any _ _).mono ?_; rintro e w' ⟨rfl, rfl⟩) | (at_builtin; refine append_byte w.heap.size rfl _ _ rfl _ pre rfl hown (low s[k]) _ rfl rfl (by omega) hsz hbel ?_; intro v' w1 hown' hbel' hsz'))
            go_roundw
            case rel => exact ⟨k + 1, by omega, by go_num, by rw [HE.out]; exact hown', hbel'⟩
            case measure => simp [intOf]; omega
      · have hb1 : ((s[k].toNat : Int) == 32) = false := by rw [beq_eq_false_iff_ne]; exact hsp
        have HE : Hid (nfold (s.data.toList.take (k + 1)) = pre ++ [low s[k]]) := Lib.hid (by
          rw [HN.out, nstep_add]
          rintro ⟨h, _⟩
          rw [h] at hsp; exact hsp rfl)
        clear hsp
        go_wp2_with (first | (go_at_call 196; refine (lowerByte_any _ _).mono ?_; rintro e w' ⟨rfl, rfl⟩) | (at_builtin; refine append_byte w.heap.size rfl _ _ rfl _ pre rfl hown (low s[k]) _ rfl rfl (by omega) hsz hbel ?_; intro v' w1 hown' hbel' hsz'))
        go_roundw
        case rel => exact ⟨k + 1, by omega, by go_num, by rw [HE.out]; exact hown', hbel'⟩
        case measure => simp [intOf]; omega
    · have e : s.data.toList.take k = s.data.toList := List.take_of_length_le (by simp; omega)
      rw [e] at hown hlen ⊢
      have HR : Hid (normS s = ⟨(chop (nfold s.data.toList)).toArray⟩) := Lib.hid (by unfold normS; rw [normL_in (by simpa using hs) HP.out])
      clear e
      generalize nfold s.data.toList = pre at *
      have hcv := str_own _ _ _ _ hown
      have hpm : (⟨pre.toArray⟩ : ByteArray).size ≤ maxLen := by unfold maxLen; simp [ByteArray.size]; omega
      have HX := Lib.hid (fun w => trim_any ⟨pre.toArray⟩ w hpm)
      go_wp2_with (first | (go_at_call 197; refine (HX.out _).mono ?_; rintro e w' ⟨rfl, rfl⟩))
      go_ret
      exact ⟨ret_str HR.out.symm, hbel⟩
theorem normS_long (s : ByteArray) (h : ¬ s.size ≤ 100) : normS s = ByteArray.empty := by unfold normS; rw [normL_long (by rw [size_len]; exact h)]; rfl
theorem normS_odd (s : ByteArray) (h : plainB s.data.toList = false) : normS s = ByteArray.empty := by unfold normS; rw [normL_odd h]; rfl
set_option maxHeartbeats 400000 in
theorem Norm_any (s : ByteArray) (w : World) (hs : s.size ≤ maxLen) :
    Calls Tryz.prog 156 #[.string s] w fun e w' => e = .returned (.string (normS s)) ∧ Below w.heap.size w w' := by
  by_cases h1 : s.size ≤ 100
  · cases hp : plainB s.data.toList
    · have HR := Lib.hid (normS_odd s hp)
      go_enter Tryz.func156, Tryz.ntmps156
      go_wp2_with (first | (go_at_call 195; refine (isPrintable_any _ _ hs).mono ?_; rintro e w' ⟨rfl, rfl⟩))
      go_ret
      exact ⟨ret_str HR.out.symm, Below.refl _ _⟩
    · exact Norm_in s w h1 hp
  · have HR := Lib.hid (normS_long s h1)
    have h1' : 100 < s.size := by omega
    clear h1
    unfold maxLen at hs
    go_enter Tryz.func156, Tryz.ntmps156
    go_wp2
    go_ret
    exact ⟨ret_str HR.out.symm, Below.refl _ _⟩
set_option maxHeartbeats 400000 in
theorem SpecNorm_any (s : ByteArray) (w : World) (hs : s.size ≤ maxLen) :
    Calls Tryz.prog 118 #[.string s] w fun e w' => e = .returned (.string (normS s)) ∧ Below w.heap.size w w' := by
  by_cases h1 : s.size ≤ 100
  · cases hp : plainB s.data.toList
    · have HR := Lib.hid (normS_odd s hp)
      go_enter Tryz.func118, Tryz.ntmps118
      go_wp2_with (first | (go_at_call 163; refine (l02Plain_any _ _ hs).mono ?_; rintro e w' ⟨rfl, rfl⟩))
      go_ret
      exact ⟨ret_str HR.out.symm, Below.refl _ _⟩
    · exact SpecNorm_in s w h1 hp
  · have HR := Lib.hid (normS_long s h1)
    have h1' : 100 < s.size := by omega
    clear h1
    unfold maxLen at hs
    go_enter Tryz.func118, Tryz.ntmps118
    go_wp2
    go_ret
    exact ⟨ret_str HR.out.symm, Below.refl _ _⟩
end Go.Proofs.YtohcdpoffpnfhaaGreatDoor
