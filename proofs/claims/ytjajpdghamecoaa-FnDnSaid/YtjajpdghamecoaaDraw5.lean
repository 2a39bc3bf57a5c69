/- The draws of names: what the laws of stage 2 draw. -/
import Derived.Test.YtjajpdghamecoaaDraw4
import Derived.Test.YtjajpdghamecoaaParent
namespace Go.Proofs.Ytjajpdghamecoaa
open Go.RowKit

theorem SomeDn.low {w w1 : World} {e : Ending} {w' : World} (h : SomeDn w1 e w') (hb : w.heap.size ≤ w1.heap.size) : SomeDn w e w' := by
  obtain ⟨v, d, h1, h2, h3, h4⟩ := h
  exact ⟨v, d, h1, h2, h3, own_mono h4 hb⟩

set_option maxRecDepth 100000 in
set_option maxHeartbeats 1000000 in
theorem DrawDnText_any (ao : Option Addr) (len cap : Nat) (w : World) (hR : Row w w.heap.size ao len) (hl : len ≤ 1048576) :
    Calls Try.prog 10 #[.slice ao len cap] w fun e w' => SomeDn w e w' ∧ w.grownBy w' none := by
  have HR := Lib.hid hR; clear hR
  go_enter Try.func10, Try.ntmps10
  go_wp2_with fail
  refine (l01Source_any ao len cap w HR.out hl).mono ?_
  rintro e w1 ⟨rfl, hg1, hw1⟩
  have HG1 := Lib.hid hg1; have HW1 := Lib.hid hw1; clear hg1 hw1
  go_wp2_with fail
  refine (drawDn_any _ w1 HG1.out).mono ?_
  rintro e w2 ⟨⟨v, d, rfl, hd, hsh, hown⟩, hs2⟩
  have HS2 := Lib.hid hs2; have HO := Lib.hid (own_mono hown HW1.out.size); have HSh := Lib.hid hsh; clear hs2 hown hsh
  go_wp2
  go_ret
  exact ⟨⟨v, d, rfl, hd, HSh.out, HO.out⟩, grown_fresh HW1.out HS2.out.2 (Nat.le_refl _)⟩
theorem dn_from (q : Nat) (W W' : World) (h : W' = W ∨ W' = W.drew) (hg : Good W q) :
    Calls Try.prog 45 #[.pointer (some ⟨q, 0, none⟩)] W' fun e w' => SomeDn W e w' ∧ Still q W w' := by
  rcases h with rfl | rfl
  · exact drawDn_any q W' hg
  · exact (drawDn_any q W.drew (hg.same fun _ _ => rfl)).mono fun e w' h => ⟨h.1, h.2.1, grown_trans (grown_drew (grown_refl W _)) h.2.2⟩
/-- a short pair and a short name -/
def SomePair (w : World) (e : Ending) (w' : World) : Prop := ∃ (A V : ByteArray) (v : Value) (d : RdnL), e = .returned (.tuple #[.agg #[.string A, .string V], v]) ∧ A.size ≤ 41 ∧ V.size ≤ 41 ∧ d.length ≤ 7 ∧ Short d ∧ w'.ownsRow w.heap.size 61 2 v d.length (rs d)
end Go.Proofs.Ytjajpdghamecoaa
