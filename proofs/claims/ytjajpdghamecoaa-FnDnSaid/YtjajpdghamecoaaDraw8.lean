/- The draws of names: a text of a name, now and then spoilt, or one of some texts. -/
import Derived.Test.YtjajpdghamecoaaSpoil
import Derived.Test.YtjajpdghamecoaaDnBack
namespace Go.Proofs.Ytjajpdghamecoaa
open Go.RowKit

def tenTexts : List ByteArray := [⟨#[]⟩, ⟨#[99, 110, 61]⟩, ⟨#[99, 110]⟩, ⟨#[61, 97]⟩, ⟨#[99, 110, 61, 97, 44]⟩, ⟨#[99, 110, 61, 92, 97]⟩, ⟨#[99, 110, 61, 97, 92]⟩, ⟨#[99, 110, 61, 32, 97]⟩, ⟨#[99, 110, 61, 97, 44, 111, 117, 61, 98]⟩, ⟨#[99, 110, 61, 97, 92, 44, 98]⟩]
theorem tenShort : ∀ s ∈ tenTexts, s.size ≤ 9 := by decide
set_option maxRecDepth 100000 in
set_option maxHeartbeats 1000000 in
theorem DrawDnRead_any (ao : Option Addr) (len cap : Nat) (w : World) (hR : Row w w.heap.size ao len) (hl : len ≤ 1048576) :
    Calls Try.prog 17 #[.slice ao len cap] w fun e w' => TextTo 700 e ∧ w.grownBy w' none := by
  have HR := Lib.hid hR; clear hR
  go_enter Try.func17, Try.ntmps17
  go_wp2_with fail
  refine (l01Source_any ao len cap w HR.out hl).mono ?_
  rintro e w1 ⟨rfl, hg1, hw1⟩
  have HG1 := Lib.hid hg1; have HW1 := Lib.hid hw1; clear hg1 hw1
  have hq : w.heap.size < w1.heap.size := HG1.out.lt
  go_wp2_with fail
  refine (drawDn_any _ w1 HG1.out).mono ?_
  rintro e w2 ⟨⟨u, a, rfl, ha, hsa, hoa⟩, hs2⟩
  obtain ⟨uo, uc, rfl⟩ := own_slice hoa
  have HS2 := Lib.hid hs2; have HA2 := Lib.hid (own_dn hoa)
  have HF := Lib.hid (show Fits a from ⟨by omega, fun r hr => ⟨by have := (hsa r hr).1; omega, by have := (hsa r hr).2; omega⟩⟩)
  clear hs2 hoa hsa
  go_wp2_with fail
  refine (SpecDnText_any uo a uc w2 HA2.out HF.out).mono ?_
  rintro e w3 ⟨rfl, hb3⟩
  have HS3 := Lib.hid (HS2.out.later (g := none) (w' := w3) (grown_of_below hb3) hq (fun k e => by cases e))
  have hts := dnText_short a
  generalize dnTextS a = t at *
  clear hb3
  go_wp2_with fail
  refine (n_any _ 4 w3 HS3.out.1 (by decide) (by decide)).mono ?_
  rintro e w4 ⟨⟨x, rfl, hx0, hx1⟩, hs4⟩
  have HS4 := Lib.hid (HS3.out.trans hs4); clear hs4
  have FIN : Hid (∀ W, Still w.heap.size w1 W → w.grownBy W none) := Lib.hid (fun W h => grown_fresh HW1.out h.2 (Nat.le_refl _))
  have hq4 : w1.heap.size ≤ w4.heap.size := HS4.out.2.size
  by_cases x0 : x = 0
  · subst x0
    go_wp2_with fail
    refine (spoil_any _ t w4 HS4.out.1 (by omega)).mono ?_
    rintro e w5 ⟨⟨s, rfl, hs⟩, hs5⟩
    have HS5 := Lib.hid (HS4.out.trans hs5); clear hs5
    go_wp2
    go_ret
    exact ⟨⟨s, rfl, by omega⟩, FIN.out _ HS5.out⟩
  · by_cases x1 : x = 1
    · subst x1
      go_wp2_with fail
      refine (pick_from w.heap.size w4.heap.size 10 tenTexts _ 9 (0, 0) w1 _ (HS4.out.alloc hq _ _) (by omega) (heap_alloc_new w4 _) rfl rfl (by decide) (by decide)).mono ?_
      rintro e w5 ⟨⟨s, hs, rfl⟩, hs5⟩
      have hs' := tenShort s hs
      have HS5 := Lib.hid hs5; clear hs5 hs
      go_wp2
      go_ret
      exact ⟨⟨s, rfl, by omega⟩, FIN.out _ HS5.out⟩
    · go_wp2
      go_ret
      exact ⟨⟨t, rfl, by omega⟩, FIN.out _ HS4.out⟩
end Go.Proofs.Ytjajpdghamecoaa
