/- The draws of names: what the laws of stage 2 draw. -/
import Derived.Test.YtadbjpfgjkicaaaDraw4
import Derived.Test.YtadbjpfgjkicaaaParent
namespace Go.Proofs.Ytadbjpfgjkicaaa
open Go.RowKit

theorem SomeDn.low {w w1 : World} {e : Ending} {w' : World} (h : SomeDn w1 e w') (hb : w.heap.size ≤ w1.heap.size) : SomeDn w e w' := by
  obtain ⟨v, d, h1, h2, h3, h4⟩ := h
  exact ⟨v, d, h1, h2, h3, own_mono h4 hb⟩

set_option maxRecDepth 100000 in
set_option maxHeartbeats 1000000 in
theorem DrawDnText_any (ao : Option Addr) (len cap : Nat) (w : World) (hR : Row w w.heap.size ao len) (hl : len ≤ 1048576) :
    Calls Try.prog 20 #[.slice ao len cap] w fun e w' => SomeDn w e w' ∧ w.grownBy w' none := by
  have HR := Lib.hid hR; clear hR
  go_enter Try.func20, Try.ntmps20
  go_wp2_with fail
  refine (l01Source_any ao len cap w HR.out hl).mono ?_
  rintro e w1 ⟨rfl, hg1, hw1⟩
  have HG1 := Lib.hid hg1; have HW1 := Lib.hid hw1; clear hg1 hw1
  go_wp2_with fail
  refine (drawDn_any _ w1 HG1.out).mono ?_
  rintro e w2 ⟨⟨v, d, rfl, hd, hsh, hown⟩, hs2⟩
  have HS2 := Lib.hid hs2; have HO := Lib.hid (own_mono hown HW1.out.size); have HSh := Lib.hid hsh; clear hs2 hown hsh
  go_wp2
  go_ret
  exact ⟨⟨v, d, rfl, hd, HSh.out, HO.out⟩, grown_fresh HW1.out HS2.out.2 (Nat.le_refl _)⟩
set_option maxRecDepth 100000 in
set_option maxHeartbeats 1000000 in
theorem DrawDnParent_any (ao : Option Addr) (len cap : Nat) (w : World) (hR : Row w w.heap.size ao len) (hl : len ≤ 1048576) :
    Calls Try.prog 39 #[.slice ao len cap] w fun e w' => SomeDn w e w' ∧ w.grownBy w' none := by
  have HR := Lib.hid hR; clear hR
  go_enter Try.func39, Try.ntmps39
  go_wp2_with fail
  refine (l01Source_any ao len cap w HR.out hl).mono ?_
  rintro e w1 ⟨rfl, hg1, hw1⟩
  have HG1 := Lib.hid hg1; have HW1 := Lib.hid hw1; clear hg1 hw1
  go_wp2_with fail
  refine (drawDn_any _ w1 HG1.out).mono ?_
  rintro e w2 ⟨⟨v, d, rfl, hd, hsh, hown⟩, hs2⟩
  have HS2 := Lib.hid hs2; have HO := Lib.hid (own_mono hown HW1.out.size); have HSh := Lib.hid hsh; clear hs2 hown hsh
  go_wp2
  go_ret
  exact ⟨⟨v, d, rfl, hd, HSh.out, HO.out⟩, grown_fresh HW1.out HS2.out.2 (Nat.le_refl _)⟩
theorem dn_from (q : Nat) (W W' : World) (h : W' = W ∨ W' = W.drew) (hg : Good W q) :
    Calls Try.prog 60 #[.pointer (some ⟨q, 0, none⟩)] W' fun e w' => SomeDn W e w' ∧ Still q W w' := by
  rcases h with rfl | rfl
  · exact drawDn_any q W' hg
  · exact (drawDn_any q W.drew (hg.same fun _ _ => rfl)).mono fun e w' h => ⟨h.1, h.2.1, grown_trans (grown_drew (grown_refl W _)) h.2.2⟩
/-- a short pair and a short name -/
def SomePair (w : World) (e : Ending) (w' : World) : Prop := ∃ (A V : ByteArray) (v : Value) (d : RdnL), e = .returned (.tuple #[.agg #[.string A, .string V], v]) ∧ A.size ≤ 41 ∧ V.size ≤ 41 ∧ d.length ≤ 7 ∧ Short d ∧ w'.ownsRow w.heap.size 39 2 v d.length (rs d)
set_option maxRecDepth 100000 in
set_option maxHeartbeats 1000000 in
theorem DrawDnJoin_any (ao : Option Addr) (len cap : Nat) (w : World) (hR : Row w w.heap.size ao len) (hl : len ≤ 1048576) :
    Calls Try.prog 37 #[.slice ao len cap] w fun e w' => SomePair w e w' ∧ w.grownBy w' none := by
  have HR := Lib.hid hR; clear hR
  go_enter Try.func37, Try.ntmps37
  go_wp2_with fail
  have hgW : w.grownBy (w.alloc (.cells #[.string ⟨#[]⟩, .string ⟨#[]⟩] 39)) none := World.grownBy_alloc _ _ _
  refine (l01Source_any ao len cap _ (HR.out.on hgW) hl).mono ?_
  rw [size_up]
  rintro e w1 ⟨rfl, hg1, hw1⟩
  have HG1 := Lib.hid hg1
  have HW1 := Lib.hid (grown_trans hgW hw1)
  have HP1 : Hid (PairAt w1 w.heap.size ⟨#[]⟩ ⟨#[]⟩) := Lib.hid ((hw1.block w.heap.size (by rw [size_up]; omega) (by simp)).trans (heap_alloc_new w _))
  clear hg1 hw1 hgW
  go_wp2_with fail
  refine (drawRdn_any _ w1 HG1.out).mono ?_
  rintro e w2 ⟨⟨A, V, rfl, hA, hV⟩, hs2⟩
  have HS2 := Lib.hid hs2; have HP2 := Lib.hid (HP1.out.on hs2 (by omega)); clear hs2
  have hq1 : w.heap.size + 1 < w1.heap.size := HG1.out.lt
  have hq2 : w1.heap.size ≤ w2.heap.size := HS2.out.2.size
  go_wp2_with fail
  refine wp_world (fun W => Still (w.heap.size + 1) w1 W ∧ PairAt W w.heap.size ⟨#[]⟩ ⟨#[]⟩ ∧ PairAt W w2.heap.size A V) ⟨HS2.out.alloc hq1 _ _, look_old _ _ _ _ HP2.out, look_z1 w2 _⟩ ?_
  generalize w2.heap.size = R at *
  clear HP2 HS2 HP1
  rintro W ⟨hsW, hpW, hrW⟩
  have HSW := Lib.hid hsW; have HPW := Lib.hid hpW; have HRW := Lib.hid hrW
  obtain ⟨⟨c0, c1⟩, ⟨f0, f1⟩⟩ := hrW.cells
  obtain ⟨⟨d0, d1⟩, ⟨g0, g1⟩⟩ := hpW.cells
  clear hsW hpW hrW
  go_region_with (first
    | (go_at_call 60; refine (dn_from (w.heap.size + 1) W _ ?_ ?_).mono ?_; (focus (first | exact .inl rfl | exact .inr rfl)); (focus (exact HSW.out.1)); rintro e w3 ⟨⟨v, d, rfl, hd, hsh, hown⟩, hs3⟩; have HS3 := Lib.hid hs3; have HO := Lib.hid hown; have HSh := Lib.hid hsh; obtain ⟨⟨c0', c1'⟩, ⟨f0', f1'⟩⟩ := (HRW.out.on hs3 (by omega)).cells; obtain ⟨⟨d0', d1'⟩, ⟨g0', g1'⟩⟩ := (HPW.out.on hs3 (by omega)).cells; clear hs3 hown hsh)
    | (fail "none"))
  all_goals
    go_wp2
    refine bodyPost_ret (v := .tuple #[.agg #[.string A, .string V], v]) (by simp [results, Try.results37, go_sem, d0', d1']) rfl ⟨⟨A, V, v, d, rfl, hA, hV, hd, HSh.out, ?_⟩, ?_⟩
    · have hB : w.heap.size < W.heap.size := HPW.out.lt
      exact own_mono (ownsRow_setCell_below (ownsRow_setCell_below HO.out (by exact hB) _) (by exact hB) _) (by omega)
    · exact grown_new (grown_new (grown_fresh HW1.out (grown_trans HSW.out.2 HS3.out.2) (by omega)) (Nat.le_refl _) _) (Nat.le_refl _) _
end Go.Proofs.Ytadbjpfgjkicaaa
