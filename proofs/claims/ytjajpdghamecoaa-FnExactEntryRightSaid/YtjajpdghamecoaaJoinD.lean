/- DnJoin: what the texts of the program and of the specification return. -/
import Derived.Test.YtjajpdghamecoaaParent
namespace Go.Proofs.Ytjajpdghamecoaa
open Go.RowKit
attribute [local go_sem ↓] Go.wp_at_zero Go.wp_at_succ

theorem grown_set (w : World) (q j : Nat) (v : Value) : w.grownBy (w.setCell ⟨q, j, none⟩ v) (some q) :=
  ⟨rfl, rfl, rfl, by simp [World.setCell], fun k _ hk => Below.heap_setCell _ _ _ _ (fun e => hk (by simp [e]))⟩
theorem own_set {w : World} {B e z n q j : Nat} {v u : Value} {xs : List Value} (h : w.ownsRow B e z v n xs) (hq : q < B) : (w.setCell ⟨q, j, none⟩ u).ownsRow B e z v n xs :=
  h.kept (grown_set w q j u) (by
    cases hv : v.ownBlock with
    | none => exact .inl rfl
    | some g => exact .inr (fun hh => by have := (h.lt g hv).1; have := Option.some.inj hh; omega))
/-- four cells, of blocks R and R + 1, that are known and may be written -/
def Four (w : World) (R : Nat) (a b x y : Value) : Prop :=
  ((w.cell? ⟨R, 0, none⟩ = some a ∧ w.cell? ⟨R, 1, none⟩ = some b ∧ w.cell? ⟨R + 1, 0, none⟩ = some x ∧ w.cell? ⟨R + 1, 1, none⟩ = some y) ∧
    (w.frozen? ⟨R, 0, none⟩ = false ∧ w.frozen? ⟨R, 1, none⟩ = false ∧ w.frozen? ⟨R + 1, 0, none⟩ = false ∧ w.frozen? ⟨R + 1, 1, none⟩ = false)) ∧ R + 1 < w.heap.size
theorem Four.keep {W w1 : World} {R : Nat} {a b x y : Value} (h : Four W R a b x y) (hb : Below W.heap.size W w1) : Four w1 R a b x y := by
  obtain ⟨⟨⟨c0, c1, c2, c3⟩, ⟨f0, f1, f2, f3⟩⟩, hz⟩ := h
  exact ⟨⟨⟨(hb.cell (p := ⟨R, 0, none⟩) (by show R < _; omega)).trans c0, (hb.cell (p := ⟨R, 1, none⟩) (by show R < _; omega)).trans c1, (hb.cell (p := ⟨R + 1, 0, none⟩) hz).trans c2, (hb.cell (p := ⟨R + 1, 1, none⟩) hz).trans c3⟩,
    ⟨(hb.frozen (p := ⟨R, 0, none⟩) (by show R < _; omega)).trans f0, (hb.frozen (p := ⟨R, 1, none⟩) (by show R < _; omega)).trans f1, (hb.frozen (p := ⟨R + 1, 0, none⟩) hz).trans f2, (hb.frozen (p := ⟨R + 1, 1, none⟩) hz).trans f3⟩⟩, Nat.lt_of_lt_of_le hz hb.size⟩
theorem four_new (w : World) (a b x y : Value) (T U : TypeId) : Four ((w.alloc (.cells #[a, b] T)).alloc (.cells #[x, y] U)) w.heap.size a b x y := by
  obtain ⟨h1, h2, h3⟩ := keep22 (w := w) (W := ((w.alloc (.cells #[a, b] T)).alloc (.cells #[x, y] U))) (Below.refl _ _) rfl
  exact ⟨⟨h1, h2⟩, h3⟩

/-- a name and a code are returned -/
def GivesOut (w : World) (d : RdnL) (c : Int) (e : Ending) (w' : World) : Prop := (∃ v, e = .returned (.agg #[v, .int .i64 c]) ∧ w'.ownsRow w.heap.size 61 2 v d.length (rs d)) ∧ Below w.heap.size w w'
def joinC (r : ByteArray × ByteArray) (p : RdnL) : Int := if 400 < p.length then 2 else if (dnB p && rdnB r) = false then 1 else if 6 ≤ p.length then 9 else 0
def joinD (r : ByteArray × ByteArray) (p : RdnL) : RdnL := if joinC r p = 0 then r :: p else []
theorem join_cases (r : ByteArray × ByteArray) (p : RdnL) :
    (400 < p.length ∧ joinC r p = 2 ∧ joinD r p = []) ∨ (¬ 400 < p.length ∧ dnB p = false ∧ joinC r p = 1 ∧ joinD r p = []) ∨ (¬ 400 < p.length ∧ dnB p = true ∧ rdnB r = false ∧ joinC r p = 1 ∧ joinD r p = []) ∨
    (dnB p = true ∧ rdnB r = true ∧ p.length = 6 ∧ joinC r p = 9 ∧ joinD r p = []) ∨ (dnB p = true ∧ rdnB r = true ∧ p.length < 6 ∧ joinC r p = 0 ∧ joinD r p = r :: p) := by
  unfold joinD
  unfold joinC
  by_cases h1 : 400 < p.length
  · left; simp [h1]
  · right
    cases h2 : dnB p
    · left; simp [h1]
    · right
      have h6 := dnB_six h2
      cases h3 : rdnB r
      · left; simp [h1]
      · right
        by_cases h4 : 6 ≤ p.length
        · left; simp [h1, h4]; omega
        · right; simp [h1, h4]; omega
theorem own_any_nil (w : World) : w.ownsRow w.heap.size 61 2 (.slice none 0 0) 0 (rs []) := own_nil _ _

end Go.Proofs.Ytjajpdghamecoaa
