/- Rows of the law's own, kept over its calls. -/
import Derived.Test.YtadbjpfgjkicaaaMark2
namespace Go.Proofs.Ytadbjpfgjkicaaa
open Go.RowKit
attribute [local go_sem ↓] Go.wp_at_zero Go.wp_at_succ

/-- a name of the law's own, in a block from lo to below hi -/
def Own (w : World) (lo hi : Nat) (v : Value) (d : RdnL) : Prop := w.ownsRow lo 39 2 v d.length (rs d) ∧ ∀ g, v.ownBlock = some g → g < hi
theorem Own.below {w w' : World} {lo hi : Nat} {v : Value} {d : RdnL} (h : Own w lo hi v d) (hb : Below w.heap.size w w') : Own w' lo hi v d := ⟨own_below h.1 hb, h.2⟩
theorem Own.far {w w' : World} {lo hi lo' hi' : Nat} {v u : Value} {d d' : RdnL} (h : Own w lo hi v d) (h' : Own w lo' hi' u d') (hg : w.grownBy w' u.ownBlock) (hx : hi ≤ lo' ∨ hi' ≤ lo) : Own w' lo hi v d := by
  refine ⟨h.1.kept hg ?_, h.2⟩
  cases hv : v.ownBlock with
  | none => exact .inl rfl
  | some g =>
    right
    intro e
    have h1 := h.2 g hv
    have h2 := (h.1.lt g hv).1
    have h3 := h'.2 g e.symm
    have h4 := (h'.1.lt g e.symm).1
    omega
theorem Own.dn {w : World} {lo hi n cap : Nat} {ao : Option Addr} {d : RdnL} (h : Own w lo hi (.slice ao n cap) d) : DnAt w ao d := own_dn h.1
theorem own_of_copy {w w' : World} {d : RdnL} {v : Value} (h : w'.ownsRow w.heap.size 39 2 v d.length (rs d)) : Own w' w.heap.size w'.heap.size v d := ⟨h, fun g hg => (h.lt g hg).2⟩
theorem below_mark {B : Nat} {w0 w w' : World} {lo hi : Nat} {v : Value} {d : RdnL} (h : Below B w0 w) (ho : Own w lo hi v d) (hg : w.grownBy w' v.ownBlock) (hB : B ≤ w.heap.size) (hlo : B ≤ lo) : Below B w0 w' :=
  h.grown hg hB (fun k hk => Nat.le_trans hlo (ho.1.lt k hk).1)
theorem own_cap' {w : World} {lo hi n cap : Nat} {ao : Option Addr} {d : RdnL} (h : Own w lo hi (.slice ao n cap) d) : d.length ≤ cap := own_cap h.1
/-- two cells of a block of the law's own -/
def Cel (w : World) (g : Nat) (T : TypeId) (a b : Value) : Prop := w.heap[g]? = some (.cells #[a, b] T (0, 0))
theorem Cel.lt {w : World} {g : Nat} {T : TypeId} {a b : Value} (h : Cel w g T a b) : g < w.heap.size := (Array.getElem?_eq_some_iff.1 h).1
theorem Cel.below {w w' : World} {g : Nat} {T : TypeId} {a b : Value} (h : Cel w g T a b) (hb : Below w.heap.size w w') : Cel w' g T a b := (hb.block g h.lt).trans h
theorem Cel.far {w w' : World} {g : Nat} {T : TypeId} {a b : Value} {row : Option Nat} (h : Cel w g T a b) (hg : w.grownBy w' row) (hne : row ≠ some g) : Cel w' g T a b := (hg.block g h.lt (Ne.symm hne)).trans h
theorem Cel.cells {w : World} {g : Nat} {T : TypeId} {a b : Value} (h : Cel w g T a b) : w.cell? ⟨g, 0, none⟩ = some a ∧ w.cell? ⟨g, 1, none⟩ = some b := by
  constructor
  · rw [cell_of_row w g _ _ T (0, 0) h]; rfl
  · rw [cell_of_row w g _ _ T (0, 0) h]; rfl
theorem Cel.new (w : World) (T : TypeId) (a b : Value) : Cel (w.alloc (.cells #[a, b] T)) w.heap.size T a b := heap_alloc_new w _
theorem Own.ne_cel {w : World} {lo hi g : Nat} {v : Value} {d : RdnL} {T : TypeId} {a b : Value} (h : Own w lo hi v d) (hc : Cel w g T a b) (hT : T ≠ 39) : v.ownBlock ≠ some g := by
  rcases h.1.2 with ⟨rfl, _⟩ | ⟨k, cap, cur, rfl, _, hk, _⟩
  · simp [Value.ownBlock]
  · intro e
    have : k = g := by simpa [Value.ownBlock] using e
    subst this
    unfold Cel at hc
    rw [hc] at hk
    injection hk with hk
    injection hk with _ ht
    exact hT ht
theorem grown_alloc {w w' : World} {o : Obj} {row : Option Nat} (h : (w.alloc o).grownBy w' row) : w.grownBy w' row :=
  ⟨h.os, h.tape, h.output, Nat.le_trans (by simp) h.size, fun k hk hne => (h.block k (by simp; omega) hne).trans (Below.heap_alloc w o k hk)⟩
theorem markDn (v : Value) (d : RdnL) (lo hi k : Nat) (w : World) (h : Own w lo hi v d) (hm : d.length ≤ 1048576) (hk1 : 0 < k) (hk2 : k ≤ 1000) :
    Calls Try.prog 49 #[v, .int .i64 k] w fun e w' => e = .returned (.int .i64 ((k + 2 * d.length : Nat) : Int)) ∧ Own w' lo hi v (marks k d.length) ∧ w.grownBy w' v.ownBlock :=
  (markRdnS_any v d lo k w h.1 hm hk1 hk2).mono fun _ _ ⟨he, ho, hg⟩ => ⟨he, ⟨ho, h.2⟩, hg⟩
theorem heldDn (ao : Option Addr) (d : RdnL) (n cap k lo hi : Nat) (w : World) (h : Own w lo hi (.slice ao n cap) (marks k d.length)) (hn : n = d.length) (hm : d.length ≤ 1048576) (hk1 : 0 < k) (hk2 : k ≤ 1000) :
    Calls Try.prog 50 #[.slice ao n cap, .int .i64 k] w fun e w' => e = .returned (.int .i64 ((k + 2 * d.length : Nat) : Int)) ∧ Below w.heap.size w w' := by
  subst hn; exact heldRdnS_any ao d.length cap k w h.dn hm hk1 hk2
set_option maxRecDepth 100000 in
set_option maxHeartbeats 400000 in
theorem markOut (ao : Option Addr) (d : RdnL) (n cap lo hi k : Nat) (c : Int) (w : World) (h : Own w lo hi (.slice ao n cap) d) (hm : d.length ≤ 1048576) (hk1 : 0 < k) (hk2 : k ≤ 1000) :
    Calls Try.prog 47 #[.agg #[.slice ao n cap, .int .i64 c], .int .i64 k] w fun e w' => e = .returned (.int .i64 ((k + 2 * d.length : Nat) : Int)) ∧ Own w' lo hi (.slice ao n cap) (marks k d.length) ∧ w.grownBy w' (Value.slice ao n cap).ownBlock := by
  have HO := Lib.hid (h.below (more (Below.refl _ _) (.cells #[.slice ao n cap, .int .i64 c] 33)))
  clear h
  go_enter Try.func47, Try.ntmps47
  go_wp2_with fail
  refine (markDn _ d lo hi k _ HO.out hm hk1 hk2).mono ?_
  rintro e w1 ⟨rfl, ho, hg⟩
  have HO1 := Lib.hid ho; have HG := Lib.hid hg; clear ho hg
  go_wp2
  go_ret
  exact ⟨ret_int' (by omega), HO1.out, grown_alloc HG.out⟩
set_option maxRecDepth 100000 in
set_option maxHeartbeats 400000 in
theorem heldOut (ao : Option Addr) (d : RdnL) (n cap lo hi k : Nat) (c : Int) (w : World) (h : Own w lo hi (.slice ao n cap) (marks k d.length)) (hn : n = d.length) (hm : d.length ≤ 1048576) (hk1 : 0 < k) (hk2 : k ≤ 1000) :
    Calls Try.prog 48 #[.agg #[.slice ao n cap, .int .i64 c], .int .i64 k] w fun e w' => e = .returned (.int .i64 ((k + 2 * d.length : Nat) : Int)) ∧ Below w.heap.size w w' := by
  have HO := Lib.hid (h.below (more (Below.refl _ _) (.cells #[.slice ao n cap, .int .i64 c] 33)))
  have Hn := Lib.hid hn
  clear h hn
  go_enter Try.func48, Try.ntmps48
  go_wp2_with fail
  refine (heldDn ao d n cap k lo hi _ HO.out Hn.out hm hk1 hk2).mono ?_
  rintro e w1 ⟨rfl, hb1⟩
  have B1 : Hid (Below w.heap.size w w1) := Lib.hid ((more (Below.refl w.heap.size w) (.cells #[.slice ao n cap, .int .i64 c] 33)).trans (hb1.mono (by simp)))
  clear hb1
  have hpos : ¬ (k : Int) + 2 * (d.length : Int) < 0 := by omega
  go_wp2
  go_ret
  exact ⟨ret_int' (by omega), B1.out⟩
end Go.Proofs.Ytadbjpfgjkicaaa
