/- The law FnJoin: its walk. -/
import Derived.Test.YtjajpdghamecoaaDraw5
import Derived.Test.YtjajpdghamecoaaLw
import Derived.Test.YtjajpdghamecoaaJoinD2
namespace Go.Proofs.Ytjajpdghamecoaa
open Go.RowKit

theorem Short.fits {d : RdnL} (h : Short d) (hl : d.length ≤ 7) : Fits d := ⟨by omega, fun r hr => ⟨by have := (h r hr).1; omega, by have := (h r hr).2; omega⟩⟩
theorem own_nilcap {w : World} {B e z n m cap : Nat} {xs : List Value} (h : w.ownsRow B e z (.slice none m cap) n xs) : cap = 0 := by
  rcases h.2 with ⟨h, _⟩ | ⟨_, _, _, h, _⟩
  · injection h
  · injection h with h; cases h

theorem PairAt.below {w w' : World} {R : Nat} {A V : ByteArray} (h : PairAt w R A V) (hb : Below w.heap.size w w') : PairAt w' R A V := (hb.block R h.lt).trans h
/-- an outcome lies in block R -/
def OutAt (w : World) (R : Nat) (v : Value) (c : Int) : Prop := w.heap[R]? = some (.cells #[v, .int .i64 c] 29)
theorem OutAt.lt {w : World} {R : Nat} {v : Value} {c : Int} (h : OutAt w R v c) : R < w.heap.size := (Array.getElem?_eq_some_iff.1 h).1
theorem OutAt.below {w w' : World} {R : Nat} {v : Value} {c : Int} (h : OutAt w R v c) (hb : Below w.heap.size w w') : OutAt w' R v c := (hb.block R h.lt).trans h
theorem OutAt.cells {w : World} {R : Nat} {v : Value} {c : Int} (h : OutAt w R v c) : w.cell? ⟨R, 0, none⟩ = some v ∧ w.cell? ⟨R, 1, none⟩ = some (.int .i64 c) := by
  constructor <;> (unfold World.cell?; rw [h]; rfl)
theorem field33a (v : Value) (c : Int) (w : World) : (Instr.field 29 (.agg #[v, .int .i64 c]) 0).run Try.prog w = .ok v w := by kernel_rfl
theorem field33b (v : Value) (c : Int) (w : World) : (Instr.field 29 (.agg #[v, .int .i64 c]) 1).run Try.prog w = .ok (.int .i64 c) w := by kernel_rfl
theorem lw_from (w0 : World) (ao bo : Option Addr) (d : RdnL) (ca cb : Nat) (w : World) (hda : DnAt w ao d) (hdb : DnAt w bo d) (hb : Below w0.heap.size w0 w) (hl : d.length ≤ 1048576) :
    Calls Try.prog 15 #[.slice ao d.length ca, .slice bo d.length cb] w fun e w' => e = .returned (.bool true) ∧ Below w0.heap.size w0 w' :=
  (lwDn_same ao bo d ca cb w hda hdb hl).mono fun _ _ h => ⟨h.1, hb.trans (h.2.mono hb.size)⟩
theorem join_good (r : ByteArray × ByteArray) (p : RdnL) : joinC r p ≠ 0 ∨ (joinC r p = 0 ∧ parentL (joinD r p) = p ∧ underB (joinD r p) p = true ∧ (joinD r p).length = p.length + 1) := by
  rcases join_cases r p with ⟨_, h, _⟩ | ⟨_, _, h, _⟩ | ⟨_, _, _, h, _⟩ | ⟨_, _, _, h, _⟩ | ⟨h1, h2, h3, h4, h5⟩
  · left; rw [h]; decide
  · left; rw [h]; decide
  · left; rw [h]; decide
  · left; rw [h]; decide
  · right
    have hd : dnB (r :: p) = true := by
      unfold dnB at h1 ⊢
      simp at h1 ⊢
      exact ⟨by omega, h2, h1.2⟩
    refine ⟨h4, ?_, ?_, ?_⟩
    · rw [h5]; unfold parentL; rw [if_pos hd]; rfl
    · rw [h5]; unfold underB; rw [hd, h1]
      have e : (r :: p).length - p.length = 1 := by simp
      rw [e]
      simp [sameB]
    · rw [h5]; rfl
/-- an outcome whose name lies behind its slice -/
def OutDn (w0 : World) (d : RdnL) (c : Int) (e : Ending) (w' : World) : Prop := (∃ vo vc, e = .returned (.agg #[.slice vo d.length vc, .int .i64 c]) ∧ DnAt w' vo d) ∧ Below w0.heap.size w0 w'
theorem GivesOut.dn {w0 w : World} {d : RdnL} {c : Int} {e : Ending} {w' : World} (h : GivesOut w d c e w') (hb : Below w0.heap.size w0 w) : OutDn w0 d c e w' := by
  obtain ⟨⟨v, h1, h2⟩, h3⟩ := h
  obtain ⟨vo, vc, rfl⟩ := own_slice h2
  exact ⟨⟨vo, vc, h1, own_dn h2⟩, hb.trans (h3.mono hb.size)⟩
def OneDn (w0 w : World) (d : RdnL) (e : Ending) (w' : World) : Prop := (∃ vo vc, e = .returned (.slice vo d.length vc) ∧ DnAt w' vo d) ∧ Below w0.heap.size w0 w' ∧ ∀ ao b, DnAt w ao b → DnAt w' ao b
theorem GivesDn.dn {w0 w : World} {d : RdnL} {e : Ending} {w' : World} (h : GivesDn w d e w') (hb : Below w0.heap.size w0 w) : OneDn w0 w d e w' := by
  obtain ⟨⟨v, h1, h2⟩, h3⟩ := h
  obtain ⟨vo, vc, rfl⟩ := own_slice h2
  exact ⟨⟨vo, vc, h1, own_dn h2⟩, hb.trans (h3.mono hb.size), fun _ _ h => h.below h3⟩
end Go.Proofs.Ytjajpdghamecoaa
