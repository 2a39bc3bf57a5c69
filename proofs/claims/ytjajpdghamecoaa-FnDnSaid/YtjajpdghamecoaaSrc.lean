/- The source of the draws: one drawn number. -/
import Derived.Test.YtjajpdghamecoaaJoinR
import Derived.Deep.QuietTactic
import Derived.BigQuiet
import Derived.BigRegion
import Derived.Deep.RegionWith
import Derived.IntWalk
namespace Go.Proofs.Ytjajpdghamecoaa
open Go.RowKit

/-- a source lies in block q: its bytes, its place, its mixed number -/
def Src (w : World) (q : Nat) (ao : Option Addr) (len cap : Nat) (k m z : Int) : Prop :=
  w.heap[q]? = some (.cells #[.slice ao len cap, .int .i64 k, .int .u64 m, .int .i64 z] 95 (0, 0))
theorem src_cells {w : World} {q : Nat} {ao : Option Addr} {len cap : Nat} {k m z : Int} (h : Src w q ao len cap k m z) :
    (w.cell? ⟨q, 0, none⟩ = some (.slice ao len cap) ∧ w.cell? ⟨q, 1, none⟩ = some (.int .i64 k) ∧ w.cell? ⟨q, 2, none⟩ = some (.int .u64 m) ∧ w.cell? ⟨q, 3, none⟩ = some (.int .i64 z)) ∧
    (w.frozen? ⟨q, 0, none⟩ = false ∧ w.frozen? ⟨q, 1, none⟩ = false ∧ w.frozen? ⟨q, 2, none⟩ = false ∧ w.frozen? ⟨q, 3, none⟩ = false) := by
  refine ⟨⟨?_, ?_, ?_, ?_⟩, ⟨?_, ?_, ?_, ?_⟩⟩
  all_goals first | (unfold World.cell?; rw [h]; rfl) | (unfold World.frozen?; rw [h]; rfl)
theorem heap_set {w : World} {q j : Nat} {C : Array Value} {T : TypeId} {fr : Nat × Nat} (v : Value) (h : w.heap[q]? = some (.cells C T fr)) : (w.setCell ⟨q, j, none⟩ v).heap[q]? = some (.cells (C.setIfInBounds j v) T fr) := by
  unfold World.setCell
  simp [Array.getElem?_modify, h]
theorem src_mix {w : World} {q : Nat} {ao : Option Addr} {len cap : Nat} {k m z : Int} (h : Src w q ao len cap k m z) (m' : Int) : Src (w.setCell ⟨q, 2, none⟩ (.int .u64 m')) q ao len cap k m' z := by
  unfold Src; rw [heap_set _ h]; rfl
theorem src_at {w : World} {q : Nat} {ao : Option Addr} {len cap : Nat} {k m z : Int} (h : Src w q ao len cap k m z) (k' : Int) : Src (w.setCell ⟨q, 1, none⟩ (.int .i64 k')) q ao len cap k' m z := by
  unfold Src; rw [heap_set _ h]; rfl
theorem grown_set (w : World) (q j : Nat) (v : Value) : w.grownBy (w.setCell ⟨q, j, none⟩ v) (some q) :=
  ⟨rfl, rfl, rfl, by simp [World.setCell], fun k _ hk => Below.heap_setCell _ _ _ _ (fun e => hk (by simp [e]))⟩
theorem grown_refl (w : World) (r : Option Nat) : w.grownBy w r := ⟨rfl, rfl, rfl, Nat.le_refl _, fun _ _ _ => rfl⟩
theorem grown_trans {a b c : World} {r : Option Nat} (h : a.grownBy b r) (g : b.grownBy c r) : a.grownBy c r :=
  ⟨g.os.trans h.os, g.tape.trans h.tape, g.output.trans h.output, Nat.le_trans h.size g.size, fun k hk hne => (g.block k (Nat.lt_of_lt_of_le hk h.size) hne).trans (h.block k hk hne)⟩
theorem grown_drew {a b : World} {r : Option Nat} (h : a.grownBy b r) : a.grownBy b.drew r := ⟨h.os, h.tape, h.output, h.size, h.block⟩


/-- what a call leaves: a source, and all else as it was -/
def Draws (q : Nat) (ao : Option Addr) (len cap : Nat) (z : Int) (w w' : World) : Prop := ∃ k m, 0 ≤ k ∧ Src w' q ao len cap k m z ∧ w.grownBy w' (some q)

set_option maxRecDepth 100000 in
set_option maxHeartbeats 1000000 in
theorem n_one (q : Nat) (x : Int) (w : World) (hx : x ≤ 1) :
    Calls Try.prog 53 #[.pointer (some ⟨q, 0, none⟩), .int .i64 x] w fun e w' => e = .returned (.int .i64 0) ∧ w = w' := by
  go_enter Try.func53, Try.ntmps53
  go_wp2
  go_ret
  exact ⟨rfl, rfl⟩

def InRange (x : Int) (e : Ending) : Prop := ∃ v : Int, e = .returned (.int .i64 v) ∧ 0 ≤ v ∧ v < x

theorem src_drewN {w : World} {q : Nat} {ao : Option Addr} {len cap : Nat} {k m z : Int} (h : Src w q ao len cap k m z) (n : Nat) : Src (w.drewN n) q ao len cap k m z := h
theorem rem_range (t x : Int) (hx : 1 < x) (hx2 : x ≤ 4611686018427387904) : 0 ≤ wrap64 ((IntKind.u64.wrap t).tmod x) ∧ wrap64 ((IntKind.u64.wrap t).tmod x) < x := by
  have h0 : 0 ≤ IntKind.u64.wrap t := by rw [IntKind.wrap_u64]; omega
  rw [Int.tmod_eq_emod_of_nonneg h0]
  have h1 := Int.emod_nonneg (IntKind.u64.wrap t) (show x ≠ 0 by omega)
  have h2 := Int.emod_lt_of_pos (IntKind.u64.wrap t) (show 0 < x by omega)
  generalize IntKind.u64.wrap t % x = y at *
  unfold wrap64
  omega
theorem grown_drewN (w : World) (n : Nat) (r : Option Nat) : w.grownBy (w.drewN n) r := ⟨rfl, rfl, rfl, Nat.le_refl _, fun _ _ _ => rfl⟩

set_option maxRecDepth 100000 in
set_option maxHeartbeats 1000000 in
theorem n_end (q : Nat) (ao : Option Addr) (len cap : Nat) (k m z x : Int) (w : World) (hx : 1 < x) (hx2 : x ≤ 4611686018427387904) (hS : Src w q ao len cap k m z) (hk0 : 0 ≤ k) (hk : (len : Int) ≤ k) (hl : len ≤ 140737488351232) :
    Calls Try.prog 53 #[.pointer (some ⟨q, 0, none⟩), .int .i64 x] w fun e w' => InRange x e ∧ Draws q ao len cap z w w' := by
  obtain ⟨⟨c0, c1, c2, c3⟩, ⟨f0, f1, f2, f3⟩⟩ := src_cells hS
  have HS := Lib.hid hS; clear hS
  go_enter Try.func53, Try.ntmps53
  go_wp2
  go_quiet (fail)
  go_wp2
  refine wp_world (fun W => Src W q ao len cap k m z ∧ w.grownBy W (some q)) ⟨HS.out, grown_drewN w _ _⟩ ?_
  clear c0 c1 c2 c3 f0 f1 f2 f3 HS 
  rintro W1 ⟨hS1, hg1⟩
  obtain ⟨⟨c0, c1, c2, c3⟩, ⟨f0, f1, f2, f3⟩⟩ := src_cells hS1
  have HS := Lib.hid hS1; have HG := Lib.hid hg1; clear hS1 hg1
  go_region
  go_wp2
  refine wp_world (fun W => ∃ m', Src W q ao len cap k m' z ∧ w.grownBy W (some q)) ⟨_, src_mix HS.out _, grown_drew (grown_trans HG.out (grown_set _ _ _ _))⟩ ?_
  clear c0 c1 c2 c3 f0 f1 f2 f3 HS HG
  rintro W2 ⟨m2, hS1, hg1⟩
  obtain ⟨⟨c0, c1, c2, c3⟩, ⟨f0, f1, f2, f3⟩⟩ := src_cells hS1
  have HS := Lib.hid hS1; have HG := Lib.hid hg1; clear hS1 hg1
  go_region
  go_wp2
  refine wp_world (fun W => ∃ m', Src W q ao len cap k m' z ∧ w.grownBy W (some q)) ⟨_, src_mix HS.out _, grown_drew (grown_trans HG.out (grown_set _ _ _ _))⟩ ?_
  clear c0 c1 c2 c3 f0 f1 f2 f3 HS HG
  rintro W3 ⟨m3, hS1, hg1⟩
  obtain ⟨⟨c0, c1, c2, c3⟩, ⟨f0, f1, f2, f3⟩⟩ := src_cells hS1
  have HS := Lib.hid hS1; have HG := Lib.hid hg1; clear hS1 hg1
  go_region
  go_wp2
  go_ret
  exact ⟨⟨_, rfl, rem_range _ x hx hx2⟩, k, _, hk0, src_mix HS.out _, grown_drew (grown_trans HG.out (grown_set _ _ _ _))⟩

set_option maxRecDepth 100000 in
set_option maxHeartbeats 1000000 in
theorem n_mid (q b off len cap k : Nat) (m z x v : Int) (w : World) (hx : 1 < x) (hx2 : x ≤ 4611686018427387904) (hS : Src w q (some ⟨b, off, none⟩) len cap k m z) (hk : k < len) (hl : len ≤ 140737488351232)
    (hc : w.cell? ⟨b, off + k, none⟩ = some (.int .u8 v)) (hv0 : 0 ≤ v) (hv1 : v ≤ 255) :
    Calls Try.prog 53 #[.pointer (some ⟨q, 0, none⟩), .int .i64 x] w fun e w' => InRange x e ∧ Draws q (some ⟨b, off, none⟩) len cap z w w' := by
  obtain ⟨⟨c0, c1, c2, c3⟩, ⟨f0, f1, f2, f3⟩⟩ := src_cells hS
  have HS := Lib.hid hS; clear hS
  go_enter Try.func53, Try.ntmps53
  go_wp2
  go_quiet (fail)
  go_wp2
  refine wp_world (fun W => Src W q (some ⟨b, off, none⟩) len cap k m z ∧ w.grownBy W (some q) ∧ W.cell? ⟨b, off + k, none⟩ = some (.int .u8 v)) ⟨HS.out, grown_drewN w _ _, hc⟩ ?_
  clear c0 c1 c2 c3 f0 f1 f2 f3 HS hc
  rintro W0 ⟨hS1, hg1, hc⟩
  obtain ⟨⟨c0, c1, c2, c3⟩, ⟨f0, f1, f2, f3⟩⟩ := src_cells hS1
  have HS := Lib.hid hS1; have HG := Lib.hid hg1; clear hS1 hg1
  go_quiet (fail)
  go_wp2
  refine wp_world (fun W => Src W q (some ⟨b, off, none⟩) len cap ((k : Int) + 1) m z ∧ w.grownBy W (some q)) ⟨src_at (src_drewN HS.out _) _, grown_trans (grown_trans HG.out (grown_drewN _ _ _)) (grown_set _ _ _ _)⟩ ?_
  clear c0 c1 c2 c3 f0 f1 f2 f3 HS HG hc
  rintro W1 ⟨hS1, hg1⟩
  obtain ⟨⟨c0, c1, c2, c3⟩, ⟨f0, f1, f2, f3⟩⟩ := src_cells hS1
  have HS := Lib.hid hS1; have HG := Lib.hid hg1; clear hS1 hg1
  go_region
  go_wp2
  refine wp_world (fun W => ∃ m', Src W q (some ⟨b, off, none⟩) len cap ((k : Int) + 1) m' z ∧ w.grownBy W (some q)) ⟨_, src_mix HS.out _, grown_drew (grown_trans HG.out (grown_set _ _ _ _))⟩ ?_
  clear c0 c1 c2 c3 f0 f1 f2 f3 HS HG
  rintro W2 ⟨m2, hS1, hg1⟩
  obtain ⟨⟨c0, c1, c2, c3⟩, ⟨f0, f1, f2, f3⟩⟩ := src_cells hS1
  have HS := Lib.hid hS1; have HG := Lib.hid hg1; clear hS1 hg1
  go_region
  go_wp2
  refine wp_world (fun W => ∃ m', Src W q (some ⟨b, off, none⟩) len cap ((k : Int) + 1) m' z ∧ w.grownBy W (some q)) ⟨_, src_mix HS.out _, grown_drew (grown_trans HG.out (grown_set _ _ _ _))⟩ ?_
  clear c0 c1 c2 c3 f0 f1 f2 f3 HS HG
  rintro W3 ⟨m3, hS1, hg1⟩
  obtain ⟨⟨c0, c1, c2, c3⟩, ⟨f0, f1, f2, f3⟩⟩ := src_cells hS1
  have HS := Lib.hid hS1; have HG := Lib.hid hg1; clear hS1 hg1
  go_region
  go_wp2
  go_ret
  exact ⟨⟨_, rfl, rem_range _ x hx hx2⟩, (k : Int) + 1, _, by omega, src_mix HS.out _, grown_drew (grown_trans HG.out (grown_set _ _ _ _))⟩

/-- the bytes that a source reads: none, or a row of bytes in an earlier block -/
def Row (w : World) (q : Nat) (ao : Option Addr) (len : Nat) : Prop :=
  len = 0 ∨ ∃ b off, ao = some ⟨b, off, none⟩ ∧ b < q ∧ ∀ j, j < len → ∃ v : Int, w.cell? ⟨b, off + j, none⟩ = some (.int .u8 v) ∧ 0 ≤ v ∧ v ≤ 255
theorem Row.same {w w' : World} {q : Nat} {ao : Option Addr} {len : Nat} (h : Row w q ao len) (hg : ∀ k, k < q → w'.heap[k]? = w.heap[k]?) : Row w' q ao len := by
  rcases h with h | ⟨b, off, h1, h2, h4⟩
  · exact .inl h
  · refine .inr ⟨b, off, h1, h2, fun j hj => ?_⟩
    obtain ⟨v, hv, hv1⟩ := h4 j hj
    exact ⟨v, (World.cell?_of_block (a := ⟨b, off + j, none⟩) (hg b h2)).trans hv, hv1⟩
theorem src_lt {w : World} {q : Nat} {ao : Option Addr} {len cap : Nat} {k m z : Int} (h : Src w q ao len cap k m z) : q < w.heap.size := (Array.getElem?_eq_some_iff.1 h).1
/-- a source that can be drawn from -/
def Good (w : World) (q : Nat) : Prop := ∃ ao len cap k m z, 0 ≤ k ∧ len ≤ 140737488351232 ∧ Src w q ao len cap k m z ∧ Row w q ao len
theorem Good.lt {w : World} {q : Nat} (h : Good w q) : q < w.heap.size := by obtain ⟨ao, len, cap, k, m, z, _, _, hS, _⟩ := h; exact src_lt hS
theorem Good.same {w w' : World} {q : Nat} (h : Good w q) (hg : ∀ k, k ≤ q → w'.heap[k]? = w.heap[k]?) : Good w' q := by
  obtain ⟨ao, len, cap, k, m, z, hk, hl, hS, hR⟩ := h
  exact ⟨ao, len, cap, k, m, z, hk, hl, (hg q (Nat.le_refl _)).trans hS, hR.same fun j hj => hg j (Nat.le_of_lt hj)⟩
/-- it is still one, and all else is as it was -/
def Still (q : Nat) (w w' : World) : Prop := Good w' q ∧ w.grownBy w' (some q)
theorem Still.refl {q : Nat} {w : World} (h : Good w q) : Still q w w := ⟨h, grown_refl _ _⟩
/-- writes to later blocks change no source -/
theorem Still.later {q : Nat} {w wr w' : World} {g : Option Nat} (h : Still q w wr) (hg : wr.grownBy w' g) (hqw : q < w.heap.size) (hq : ∀ k, g = some k → w.heap.size ≤ k) : Still q w w' := by
  have hs := h.2.size
  refine ⟨h.1.same fun k hk => hg.block k (Nat.lt_of_le_of_lt hk h.1.lt) fun e => ?_, ⟨hg.os.trans h.2.os, hg.tape.trans h.2.tape, hg.output.trans h.2.output, Nat.le_trans hs hg.size, fun k hk hne => ?_⟩⟩
  · have := hq k e.symm; omega
  · rw [hg.block k (Nat.lt_of_lt_of_le hk hs) fun e => by have := hq k e.symm; omega]; exact h.2.block k hk hne
theorem Still.trans {q : Nat} {a b c : World} (h : Still q a b) (g : Still q b c) : Still q a c := ⟨g.1, grown_trans h.2 g.2⟩

theorem n_any (q : Nat) (x : Int) (w : World) (hg : Good w q) (hx : 1 < x) (hx2 : x ≤ 4611686018427387904) :
    Calls Try.prog 53 #[.pointer (some ⟨q, 0, none⟩), .int .i64 x] w fun e w' => InRange x e ∧ Still q w w' := by
  obtain ⟨ao, len, cap, k, m, z, hk0, hl, hS, hR⟩ := hg
  have fin : ∀ e w', (InRange x e ∧ Draws q ao len cap z w w') → InRange x e ∧ Still q w w' := by
    rintro e w' ⟨h1, k', m', hk', hS', hG'⟩
    exact ⟨h1, ⟨ao, len, cap, k', m', z, hk', hl, hS', hR.same fun j hj => hG'.block j (Nat.lt_trans hj (src_lt hS)) (fun e => by have := Option.some.inj e; omega)⟩, hG'⟩
  by_cases h : (len : Int) ≤ k
  · exact (n_end q ao len cap k m z x w hx hx2 hS hk0 h hl).mono fin
  · rcases hR with h0 | ⟨b, off, rfl, hb, hc⟩
    · omega
    · obtain ⟨j, rfl⟩ := Int.eq_ofNat_of_zero_le hk0
      obtain ⟨v, hv, hv0, hv1⟩ := hc j (by omega)
      exact (n_mid q b off len cap j m z x v w hx hx2 hS (by omega) hl hv hv0 hv1).mono fin

def SomeBool (e : Ending) : Prop := ∃ b : Bool, e = .returned (.bool b)
set_option maxHeartbeats 400000 in
theorem one_any (q : Nat) (x : Int) (w : World) (hg : Good w q) (hx : 1 < x) (hx2 : x ≤ 4611686018427387904) :
    Calls Try.prog 57 #[.pointer (some ⟨q, 0, none⟩), .int .i64 x] w fun e w' => SomeBool e ∧ Still q w w' := by
  have HG := Lib.hid hg; clear hg
  go_enter Try.func57, Try.ntmps57
  go_wp2_with (first | (go_at_call 53; refine (n_any _ _ _ HG.out hx hx2).mono ?_; rintro e w1 ⟨⟨v, rfl, hv0, hv1⟩, hs1⟩; have HS1 := Lib.hid hs1; clear hs1))
  go_ret
  exact ⟨⟨_, rfl⟩, HS1.out⟩
end Go.Proofs.Ytjajpdghamecoaa
