/- The source of the draws: drawn bytes, a number at a limit. -/
import Derived.Test.YtifcplmgdndmhaaDoorSrc
namespace Go.Proofs.YtifcplmgdndmhaaDoor
open Go.RowKit

/-- one byte more behind a row of bytes that the call owns, beside a source -/
theorem append_draw {ops : Array Oper} {rest : List Oper} {o : Oper} {a : Act} {Q : Exit → Act → World → Prop} {w0 wr : World} (q : Nat) (hgd : o.guard = none) (s x : Operand)
    (ho : o.op = .call { callee := .builtin .append, args := #[s, x], argTypes := #[22, 22] }) (v : Value) (pre : List UInt8) (hs : a.eval s = v) (hown : wr.ownsRow w0.heap.size 5 1 v pre.length (bs pre))
    (c : UInt8) (n : Int) (hn : n = (c.toNat : Int)) (hx : a.eval x = .slice (some ⟨wr.heap.size, 0, none⟩) 1 1) (hlen : pre.length ≤ 1000000000) (hq : q < w0.heap.size) (hst : Still q w0 wr)
    (h : ∀ v' w', w'.ownsRow w0.heap.size 5 1 v' (pre ++ [c]).length (bs (pre ++ [c])) → Still q w0 w' → wpList Tryd.prog ops Q rest (a.put o.dst v') w') :
    wpList Tryd.prog ops Q (o :: rest) a (wr.alloc (.cells #[.int .u8 n] 5)) := by
  obtain ⟨i0, hi, hz0, hz1, hz2⟩ := info_parts Tryd.info5
  have hsz := hst.2.size
  subst hn
  refine wpList_append_own _ hgd s x 22 ho w0.heap.size 5 i0 (.int .u8 0) 1 1 Tryd.underlying22 hi hz0 hz1 hz2 rfl (by decide) v pre.length (bs pre) hs (hown.alloc _) ⟨wr.heap.size, 0, none⟩ 1 1 [.int .u8 (c.toNat : Int)] hx rfl (cell_one_new _ _ _) ?_ ?_ ?_ ?_ ?_
  · intro u hu; simp at hu; subst hu; rfl
  · unfold maxLen; omega
  · omega
  · simp; omega
  · intro v' w' h1 h2 h3
    have ha : Still q w0 (wr.alloc (.cells #[.int .u8 (c.toNat : Int)] 5)) := hst.later (g := none) (World.grownBy_alloc _ _ _) hq (fun k e => by cases e)
    refine h v' w' ?_ (ha.later h2 hq fun k hk => (hown.lt k hk).1)
    rw [bs_snoc]; simpa using h1

theorem own_ne {w : World} {B q n : Nat} {v : Value} {xs : List Value} (h : w.ownsRow B 5 1 v n xs) (hq : q < B) : v.ownBlock = none ∨ v.ownBlock ≠ some q := by
  cases e : v.ownBlock with
  | none => exact .inl rfl
  | some g => exact .inr (fun hh => by have := (h.lt g e).1; have := Option.some.inj hh; omega)
/-- a string of n bytes -/
def SomeText (n : Nat) (e : Ending) : Prop := ∃ t : ByteArray, e = .returned (.string t) ∧ t.size = n

set_option maxRecDepth 100000 in
set_option maxHeartbeats 1000000 in
theorem bytes_any (q n : Nat) (w : World) (hg : Good w q) (hn : n ≤ 1000000) :
    Calls Tryd.prog 25 #[.pointer (some ⟨q, 0, none⟩), .int .i64 n] w fun e w' => SomeText n e ∧ Still q w w' := by
  have hq := hg.lt
  have HG := Lib.hid hg; clear hg
  go_enter Tryd.func25, Tryd.ntmps25
  go_wp2
  go_loopw [5, 6] (fun v i wr => ∃ (k : Nat) (pre : List UInt8), k ≤ n ∧ pre.length = k ∧ i = .int .i64 k ∧ wr.ownsRow w.heap.size 5 1 v pre.length (bs pre) ∧ Still q w wr) (fun _ i _ => n - (intOf i).toNat)
  case atStart => exact ⟨0, [], Nat.zero_le _, rfl, rfl, World.ownsRow_made _ _ 0 (Nat.le_refl _) (by unfold maxLen; omega) rfl, (Still.refl HG.out).later (g := none) (World.grownBy_alloc _ _ _) hq (fun k e => by cases e)⟩
  case round =>
    obtain ⟨k, pre, hk, hpl, rfl, hown, hst⟩ := hrel
    have HP := Lib.hid hpl; have HO := Lib.hid hown; have HS := Lib.hid hst; clear hpl hown hst
    by_cases hlt : k < n
    · go_wp2_with (first | (go_at_call 24; refine (n_any _ _ _ HS.out.1 (by omega) (by omega)).mono ?_; rintro e w1 ⟨⟨v, rfl, hv0, hv1⟩, hs1⟩; have HS1 := Lib.hid (HS.out.trans hs1); have HO1 := Lib.hid (HO.out.kept hs1.2 (own_ne HO.out hq)); clear hs1) | (at_builtin; refine append_draw q rfl _ _ rfl _ pre rfl HO1.out (UInt8.ofNat v.toNat) _ (by simp; omega) rfl (by have := HP.out; omega) hq HS1.out ?_; intro v' w2 hown' hst'))
      go_roundw
      case rel => exact ⟨k + 1, pre ++ [UInt8.ofNat v.toNat], by omega, by simp [HP.out], by go_num, hown', hst'⟩
      case measure => simp [intOf]; omega
    · have hcv := str_own _ _ _ _ HO.out
      go_wp2
      go_ret
      exact ⟨⟨_, rfl, by simp [ByteArray.size, HP.out]; omega⟩, HS.out⟩
end Go.Proofs.YtifcplmgdndmhaaDoor
