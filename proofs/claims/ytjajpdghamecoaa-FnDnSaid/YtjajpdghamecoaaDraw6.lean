/- The draws of names: two names, the second now and then an end of the first. -/
import Derived.Test.YtjajpdghamecoaaDraw5
namespace Go.Proofs.Ytjajpdghamecoaa
open Go.RowKit

theorem n_pos (q : Nat) (x : Int) (w : World) (hg : Good w q) (hx : 1 ≤ x) (hx2 : x ≤ 4611686018427387904) :
    Calls Try.prog 53 #[.pointer (some ⟨q, 0, none⟩), .int .i64 x] w fun e w' => InRange x e ∧ Still q w w' := by
  by_cases h : x ≤ 1
  · exact (n_one q x w h).mono fun e w' ⟨he, hw⟩ => ⟨⟨0, he, by omega, by omega⟩, hw ▸ Still.refl hg⟩
  · exact n_any q x w hg (by omega) hx2
theorem own_lt {w : World} {B e z n : Nat} {v : Value} {xs : List Value} (h : w.ownsRow B e z v n xs) : ∀ g, v.ownBlock = some g → g < w.heap.size := fun g hg => (h.lt g hg).2
theorem own_under {w w' : World} {B B' e z n : Nat} {v : Value} {xs : List Value} (h : w.ownsRow B' e z v n xs) (hb : Below B w w') (hlt : ∀ g, v.ownBlock = some g → g < B) : w'.ownsRow B' e z v n xs := by
  refine ⟨h.1, ?_⟩
  rcases h.2 with h | ⟨g, cap, cur, rfl, h2, h3, h4⟩
  · exact .inl h
  · exact .inr ⟨g, cap, cur, rfl, h2, (hb.block g (hlt g rfl)).trans h3, h4⟩
/-- two short names, each in a row of its own -/
def SomeTwo (w : World) (e : Ending) (w' : World) : Prop := ∃ (u v : Value) (a b : RdnL), e = .returned (.tuple #[u, v]) ∧ a.length ≤ 7 ∧ b.length ≤ 7 ∧ Short a ∧ Short b ∧ w'.ownsRow w.heap.size 61 2 u a.length (rs a) ∧ w'.ownsRow w.heap.size 61 2 v b.length (rs b)

set_option maxRecDepth 100000 in
set_option maxHeartbeats 1000000 in
theorem DrawDnUnder_any (ao : Option Addr) (len cap : Nat) (w : World) (hR : Row w w.heap.size ao len) (hl : len ≤ 1048576) :
    Calls Try.prog 19 #[.slice ao len cap] w fun e w' => SomeTwo w e w' ∧ w.grownBy w' none := by
  have HR := Lib.hid hR; clear hR
  go_enter Try.func19, Try.ntmps19
  go_wp2_with fail
  refine (l01Source_any ao len cap w HR.out hl).mono ?_
  rintro e w1 ⟨rfl, hg1, hw1⟩
  have HG1 := Lib.hid hg1; have HW1 := Lib.hid hw1; clear hg1 hw1
  have hq : w.heap.size < w1.heap.size := HG1.out.lt
  go_wp2_with fail
  refine (drawDn_any _ w1 HG1.out).mono ?_
  rintro e w2 ⟨⟨u, a, rfl, ha, hsa, hoa⟩, hs2⟩
  have HS2 := Lib.hid hs2; have HA2 := Lib.hid hoa; have SA := Lib.hid hsa; clear hs2 hoa hsa
  go_wp2_with fail
  refine (drawDn_any _ w2 HS2.out.1).mono ?_
  rintro e w3 ⟨⟨v, b, rfl, hb, hsb, hob⟩, hs3⟩
  have HS3 := Lib.hid (HS2.out.trans hs3)
  have HA3 := Lib.hid (HA2.out.kept hs3.2 (own_not HA2.out hq)); have HB3 := Lib.hid (own_mono hob HS2.out.2.size); have SB := Lib.hid hsb
  clear hs3 hob hsb HA2
  obtain ⟨uo, uc, rfl⟩ := own_slice HA3.out
  go_wp2_with fail
  refine (one_any _ 2 w3 HS3.out.1 (by decide) (by decide)).mono ?_
  rintro e w4 ⟨⟨t, rfl⟩, hs4⟩
  have HS4 := Lib.hid (HS3.out.trans hs4)
  have HA4 := Lib.hid (HA3.out.kept hs4.2 (own_not HA3.out hq)); have HB4 := Lib.hid (HB3.out.kept hs4.2 (own_not HB3.out hq))
  clear hs4 HA3 HB3
  have fin : w.grownBy w4 none := grown_fresh HW1.out HS4.out.2 (Nat.le_refl _)
  have FIN := Lib.hid fin; clear fin
  cases t
  · go_wp2
    go_ret2
    exact ⟨⟨_, _, a, b, rfl, ha, hb, SA.out, SB.out, own_mono HA4.out HW1.out.size, own_mono HB4.out HW1.out.size⟩, FIN.out⟩
  · by_cases h0 : a.length = 0
    · obtain rfl : a = [] := List.length_eq_zero_iff.1 h0
      go_wp2
      go_ret2
      exact ⟨⟨_, _, [], b, rfl, ha, hb, SA.out, SB.out, own_mono HA4.out HW1.out.size, own_mono HB4.out HW1.out.size⟩, FIN.out⟩
    · have g0 : (0 : Int) < ((a.length : Nat) : Int) := by omega
      go_wp2_with fail
      refine calls_any (fun W => Still w.heap.size w1 W ∧ W.ownsRow w1.heap.size 61 2 (.slice uo a.length uc) a.length (rs a) ∧ W.ownsRow w1.heap.size 61 2 v b.length (rs b) ∧ W.ownsRow w4.heap.size 61 2 (.slice (some ⟨w4.heap.size, 0, none⟩) 0 0) 0 (rs [])) ⟨HS4.out.alloc hq _ _, HA4.out.alloc _, HB4.out.alloc _, World.ownsRow_lit w4 #[] 0 (Nat.le_refl _) (by unfold maxLen; omega) rfl⟩ ?_
      have hB4 : w1.heap.size ≤ w4.heap.size := HS4.out.2.size
      generalize hB : w4.heap.size = B at *
      have hltA := own_lt HA4.out; have hltB := own_lt HB4.out
      rw [hB] at hltA hltB
      clear hB HA4 HB4 HS4
      rintro W ⟨hsW, hoa, hob, hoe⟩
      have hBW : B ≤ W.heap.size := by have := hoe.lt B rfl; omega
      refine (n_pos _ _ W hsW.1 (by omega) (by omega)).mono ?_
      rintro e w5 ⟨⟨x, rfl, hx0, hx1⟩, hs5⟩
      obtain ⟨j, rfl⟩ := Int.eq_ofNat_of_zero_le hx0
      have hqB : w.heap.size < B := by omega
      have HS5 := Lib.hid (hsW.trans hs5)
      have HA5 := Lib.hid (hoa.kept hs5.2 (own_not hoa hq)); have HB5 := Lib.hid (hob.kept hs5.2 (own_not hob hq)); have HE5 := Lib.hid (hoe.kept hs5.2 (own_not hoe hqB))
      obtain ⟨ad', hcut, hdr⟩ := cut27s w5 uo a j uc (by omega) h0 (own_cap hoa) (own_dn HA5.out)
      have HDR := Lib.hid hdr
      have hB5 : B ≤ w5.heap.size := Nat.le_trans hBW hs5.2.size
      clear hsW hoa hob hoe hs5 hdr
      go_wp2_with (first | (at_builtin; refine append_dn (w0 := w5) B rfl _ _ rfl _ [] rfl HE5.out (some ad') (a.drop j) (uc - j) _ (by simp) rfl HDR.out (fun h => by cases h) (by simp; omega) hB5 (Below.refl _ _) ?_; intro v' w6 hown' hbel') | (fail "none"))
      go_ret2
      rw [List.nil_append] at hown'
      have g5 := below_of_grown (grown_fresh HW1.out HS5.out.2 (Nat.le_refl _))
      exact ⟨⟨_, v', a, a.drop j, rfl, ha, by simp; omega, SA.out, fun r hr => SA.out r (List.mem_of_mem_drop hr), own_mono (own_under HA5.out hbel' hltA) HW1.out.size, own_mono hown' (by omega)⟩, grown_of_below (g5.trans (hbel'.mono (by omega)))⟩
end Go.Proofs.Ytjajpdghamecoaa
