/- The draws of names: a whole name. -/
import Derived.Test.YtjajpdghamecoaaDraw3
namespace Go.Proofs.Ytjajpdghamecoaa
open Go.RowKit

section
variable {ops : Array Oper} {rest : List Oper} {o : Oper} {a : Act} {Q : Exit → Act → World → Prop} {w0 wr : World}
/-- one pair more behind a row of pairs that the call owns, beside a source -/
theorem append_pair (q : Nat) (hgd : o.guard = none) (s x : Operand)
    (ho : o.op = .call { callee := .builtin .append, args := #[s, x], argTypes := #[23, 23] }) (v : Value) (pre : RdnL) (hs : a.eval s = v) (hown : wr.ownsRow w0.heap.size 61 2 v pre.length (rs pre))
    (r : ByteArray × ByteArray) (hx : a.eval x = .slice (some ⟨wr.heap.size, 0, none⟩) 1 1) (hlen : pre.length ≤ 1000000000) (hq : q < w0.heap.size) (hst : Still q w0 wr)
    (h : ∀ v' w', w'.ownsRow w0.heap.size 61 2 v' (pre ++ [r]).length (rs (pre ++ [r])) → Still q w0 w' → wpList Try.prog ops Q rest (a.put o.dst v') w') :
    wpList Try.prog ops Q (o :: rest) a (wr.alloc (.cells #[.string r.1, .string r.2] 61)) := by
  obtain ⟨i0, hi, hz0, hz1, hz2⟩ := info_parts Try.info61
  have hB := hst.2.size
  refine wpList_append_lies _ hgd s x 23 ho w0.heap.size 61 i0 _ 2 32 Try.underlying23 hi hz0 hz1 hz2 rfl (by decide) v pre.length (rs pre) hs (hown.alloc _) ⟨wr.heap.size, 0, none⟩ 1 1 [.string r.1, .string r.2] hx rfl (World.news_of_block (cs := #[.string r.1, .string r.2]) (t := 61) (fr := (0, 0)) (heap_alloc_new wr _)) ?_ (by omega) ?_ ?_ ?_ (wr.heap.size + 1) (by simp) ?_
  · intro u hu; simp at hu; rcases hu with rfl | rfl <;> rfl
  · unfold maxLen; omega
  · omega
  · simp; omega
  · intro g cap w' h1 h2 h3 h4
    refine h _ w' ?_ ((hst.alloc hq _ _).later h2 hq fun k hk => (hown.lt k hk).1)
    rw [rs_snoc]; simpa using h1
end
def rowLen : Value → Nat | .slice _ n _ => n | _ => 0
/-- the pairs are short -/
def Short (d : RdnL) : Prop := ∀ r ∈ d, r.1.size ≤ 41 ∧ r.2.size ≤ 41
theorem Short.snoc {d : RdnL} (h : Short d) {A V : ByteArray} (hA : A.size ≤ 41) (hV : V.size ≤ 41) : Short (d ++ [(A, V)]) := by
  intro r hr
  rcases List.mem_append.1 hr with h' | h'
  · exact h r h'
  · rw [List.mem_singleton.1 h']; exact ⟨hA, hV⟩
/-- some short name in a row of its own -/
def SomeDn (w : World) (e : Ending) (w' : World) : Prop := ∃ (v : Value) (d : RdnL), e = .returned v ∧ d.length ≤ 7 ∧ Short d ∧ w'.ownsRow w.heap.size 61 2 v d.length (rs d)
theorem own_not {w : World} {B e z q n : Nat} {v : Value} {xs : List Value} (h : w.ownsRow B e z v n xs) (hq : q < B) : v.ownBlock = none ∨ v.ownBlock ≠ some q := by
  cases e : v.ownBlock with
  | none => exact .inl rfl
  | some g => exact .inr (fun hh => by have := (h.lt g e).1; have := Option.some.inj hh; omega)

set_option maxRecDepth 100000 in
set_option maxHeartbeats 1000000 in
theorem drawDn_any (q : Nat) (w : World) (hg : Good w q) :
    Calls Try.prog 45 #[.pointer (some ⟨q, 0, none⟩)] w fun e w' => SomeDn w e w' ∧ Still q w w' := by
  have hq := hg.lt
  have HS := Lib.hid (Still.refl hg); clear hg
  go_enter Try.func45, Try.ntmps45
  go_wp2_with fail
  have HSa := Lib.hid (HS.out.alloc hq #[] 61)
  refine (n_any q 4 _ HSa.out.1 (by decide) (by decide)).mono ?_
  rintro e w1 ⟨⟨v, rfl, hv0, hv1⟩, hs1⟩
  have HS1 := Lib.hid (HSa.out.trans hs1)
  have HO1 : Hid (w1.ownsRow w.heap.size 61 2 (.slice (some ⟨w.heap.size, 0, none⟩) 0 0) 0 (rs [])) := Lib.hid ((World.ownsRow_lit w #[] 0 (Nat.le_refl _) (by unfold maxLen; omega) rfl).kept hs1.2 (.inr (fun h => by have : w.heap.size = q := Option.some.inj h; omega)))
  clear hs1 HSa
  obtain ⟨j, rfl⟩ := Int.eq_ofNat_of_zero_le hv0
  go_wp2_with fail
  go_loopw [3, 4] (fun v i wr => ∃ (k : Nat) (d : RdnL), i = .int .i64 k ∧ k + d.length ≤ 3 ∧ Short d ∧ wr.ownsRow w.heap.size 61 2 v d.length (rs d) ∧ Still q w wr) (fun _ i _ => (intOf i).toNat)
  case atStart => exact ⟨j, [], rfl, by simp; omega, (fun r h => by cases h), HO1.out, HS1.out⟩
  case round =>
    obtain ⟨k, d, rfl, hk, hsh, hown, hst⟩ := hrel
    have HSh := Lib.hid hsh; have HO := Lib.hid hown; have HT := Lib.hid hst; clear hsh hown hst
    by_cases h0 : 0 < k
    · have g0 : (0 : Int) < (k : Int) := by omega
      go_wp2_with fail
      refine (drawRdn_any q _ HT.out.1).mono ?_
      rintro e w2 ⟨⟨A, V, rfl, hA, hV⟩, hs2⟩
      have HT2 := Lib.hid (HT.out.trans hs2)
      have HO2 := Lib.hid (HO.out.kept hs2.2 (own_not HO.out hq))
      clear hs2
      go_wp2_with (first | (at_builtin; refine append_pair q rfl _ _ rfl _ d rfl HO2.out (A, V) rfl (by omega) hq HT2.out ?_; intro v' w3 hown' hst') | (fail "none"))
      go_roundw
      case rel => exact ⟨k - 1, d ++ [(A, V)], by go_num, by simp; omega, HSh.out.snoc hA hV, hown', hst'⟩
      case measure => simp [intOf]; omega
    · obtain rfl : k = 0 := by omega
      go_wp2_with fail
      refine (one_any q 30 _ HT.out.1 (by decide) (by decide)).mono ?_
      rintro e w2 ⟨⟨b, rfl⟩, hs2⟩
      have HT2 := Lib.hid (HT.out.trans hs2)
      have HO2 := Lib.hid (HO.out.kept hs2.2 (own_not HO.out hq))
      clear hs2
      cases b
      · go_wp2
        go_ret
        exact ⟨⟨_, d, rfl, by omega, HSh.out, HO2.out⟩, HT2.out⟩
      · go_wp2_with fail
        go_loopw [3] (fun v wr => ∃ d : RdnL, d.length ≤ 7 ∧ Short d ∧ wr.ownsRow w.heap.size 61 2 v d.length (rs d) ∧ Still q w wr) (fun v _ => 7 - rowLen v)
        case atStart => exact ⟨d, by omega, HSh.out, HO2.out, HT2.out⟩
        case round =>
          clear HO HT HSh HO2 HT2
          obtain ⟨d, hd, hsh, hown, hst⟩ := hrel
          obtain ⟨ao, cap, rfl⟩ := own_slice hown
          have HSh := Lib.hid hsh; have HO := Lib.hid hown; have HT := Lib.hid hst; clear hsh hown hst
          go_wp2_with fail
          refine (n_any q 3 _ HT.out.1 (by decide) (by decide)).mono ?_
          rintro e w4 ⟨⟨x, rfl, hx0, hx1⟩, hs4⟩
          have HT2 := Lib.hid (HT.out.trans hs4)
          have HO2 := Lib.hid (HO.out.kept hs4.2 (own_not HO.out hq))
          clear hs4
          have hxw : IntKind.i64.wrap (5 + x) = 5 + x := IntWalk.i64_in _ (by omega)
          by_cases hlt : (d.length : Int) < 5 + x
          · go_wp2_with (first | (at_builtin; refine append_pair q rfl _ _ rfl _ d rfl HO2.out (⟨#[99, 110]⟩, ⟨#[120]⟩) rfl (by omega) hq HT2.out ?_; intro v' w5 hown' hst') | (fail "none"))
            go_roundw
            case rel => exact ⟨d ++ [(⟨#[99, 110]⟩, ⟨#[120]⟩)], by simp; omega, HSh.out.snoc (by decide) (by decide), hown', hst'⟩
            case measure =>
              obtain ⟨ao', cap', rfl⟩ := own_slice hown'
              simp [rowLen]; omega
          · go_wp2
            go_ret
            exact ⟨⟨_, d, rfl, hd, HSh.out, HO2.out⟩, HT2.out⟩
end Go.Proofs.Ytjajpdghamecoaa
