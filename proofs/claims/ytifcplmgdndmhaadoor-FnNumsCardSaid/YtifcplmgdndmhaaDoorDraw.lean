/- The draws of a number and of a text. -/
import Derived.Test.YtifcplmgdndmhaaDoorSrc3
import Derived.Test.YtifcplmgdndmhaaDoorGetText2
import Derived.OpenShut
namespace Go.Proofs.YtifcplmgdndmhaaDoor
open Go.RowKit

theorem grown_fresh {w w1 w2 : World} {q : Nat} (h : w.grownBy w1 none) (g : w1.grownBy w2 (some q)) (hq : w.heap.size ≤ q) : w.grownBy w2 none :=
  ⟨g.os.trans h.os, g.tape.trans h.tape, g.output.trans h.output, Nat.le_trans h.size g.size, fun k hk _ => (g.block k (Nat.lt_of_lt_of_le hk h.size) (fun e => by have := Option.some.inj e; omega)).trans (h.block k hk (by simp))⟩

/-- some string of at most n bytes -/
def TextTo (n : Nat) (e : Ending) : Prop := ∃ t : ByteArray, e = .returned (.string t) ∧ t.size ≤ n

theorem zero_make (j : Nat) (hj : j ≤ 1000000) (W : World) :
    (Instr.makeSlice 22 (.int .i64 (19999 + (j : Int))) (.int .i64 (19999 + (j : Int)))).run Tryd.prog W = .ok (.slice (some ⟨W.heap.size, 0, none⟩) (19999 + j) (19999 + j)) (W.alloc (.cells (madeCells #[.int .u8 0] (19999 + j)) 5)) := by
  have e : (19999 + (j : Int)) = ((19999 + j : Nat) : Int) := by omega
  rw [e]
  exact run_make_row' (P := Tryd.prog) 22 5 (.int .u8 0) 1 Tryd.underlying22 Tryd.info5 rfl .i64 .i64 (19999 + j) (by omega) (by omega) W
theorem zero_conv (n : Nat) (W : World) :
    (convert 22 9 (.slice (some ⟨W.heap.size, 0, none⟩) n n)).run Tryd.prog (W.alloc (.cells (madeCells #[.int .u8 0] n) 5)) = .ok (.string ⟨(List.replicate n (0 : UInt8)).toArray⟩) (W.alloc (.cells (madeCells #[.int .u8 0] n) 5)) := by
  refine str22 _ ⟨W.heap.size, 0, none⟩ n (List.replicate n 0) n (by simp) fun j hj => ?_
  rw [add_plain, World.cell?_alloc_mark]
  simp at hj
  simp [madeCells, hj]
  rw [Nat.mod_one]; rfl

theorem grown_of_below {w w' : World} (h : Below w.heap.size w w') : w.grownBy w' none := ⟨h.os, h.tape, h.output, h.size, fun k hk _ => h.block k hk⟩
theorem below_of_grown {w w' : World} (h : w.grownBy w' none) : Below w.heap.size w w' := ⟨h.os, h.tape, h.output, h.size, fun k hk => h.block k hk (by simp)⟩
theorem Row.on {w w' : World} {ao : Option Addr} {len : Nat} (h : Row w w.heap.size ao len) (hg : w.grownBy w' none) : Row w' w'.heap.size ao len := by
  rcases h with h | ⟨b, off, h1, h2, h4⟩
  · exact .inl h
  · exact .inr ⟨b, off, h1, Nat.lt_of_lt_of_le h2 hg.size, fun j hj => by
      obtain ⟨v, hv, hv1⟩ := h4 j hj
      exact ⟨v, hg.cell hv (by simp), hv1⟩⟩

set_option maxRecDepth 100000 in
set_option maxHeartbeats 1000000 in
theorem l01Any_any (q : Nat) (w : World) (hg : Good w q) :
    Calls Tryd.prog 19 #[.pointer (some ⟨q, 0, none⟩)] w fun e w' => SomeInt e ∧ Still q w w' := by
  have HG := Lib.hid hg; clear hg
  go_enter Tryd.func19, Tryd.ntmps19
  go_wp2_with fail
  refine (one_any _ 4 w HG.out (by decide) (by decide)).mono ?_
  rintro e w1 ⟨⟨b, rfl⟩, hs1⟩
  have HS1 := Lib.hid hs1; clear hs1
  cases b
  · go_wp2_with fail
    refine (n_any _ 1099511627776 w1 HS1.out.1 (by decide) (by decide)).mono ?_
    rintro e w2 ⟨⟨v, rfl, hv0, hv1⟩, hs2⟩
    have HS2 := Lib.hid (HS1.out.trans hs2); clear hs2
    go_wp2
    go_ret
    exact ⟨⟨_, rfl, by omega, by omega⟩, HS2.out⟩
  · go_wp2_with fail
    refine (edge_any _ w1 HS1.out.1).mono ?_
    rintro e w2 ⟨⟨c, rfl, hc0, hc1⟩, hs2⟩
    have HS2 := Lib.hid (HS1.out.trans hs2); clear hs2
    go_wp2
    go_ret
    exact ⟨⟨_, rfl, hc0, hc1⟩, HS2.out⟩
set_option maxRecDepth 100000 in
set_option maxHeartbeats 1000000 in
theorem DrawPutNum_any (ao : Option Addr) (len cap : Nat) (w : World) (hR : Row w w.heap.size ao len) (hl : len ≤ 1048576) :
    Calls Tryd.prog 6 #[.slice ao len cap] w fun e w' => SomeInt e ∧ w.grownBy w' none := by
  have HR := Lib.hid hR; clear hR
  go_enter Tryd.func6, Tryd.ntmps6
  go_wp2_with fail
  refine (l01Source_any ao len cap w HR.out hl).mono ?_
  rintro e w1 ⟨rfl, hg1, hw1⟩
  have HG1 := Lib.hid hg1; have HW1 := Lib.hid hw1; clear hg1 hw1
  go_wp2_with fail
  refine (l01Any_any _ w1 HG1.out).mono ?_
  rintro e w2 ⟨⟨c, rfl, hc0, hc1⟩, hs2⟩
  have HS2 := Lib.hid hs2; clear hs2
  go_wp2
  go_ret
  exact ⟨⟨_, rfl, hc0, hc1⟩, grown_fresh HW1.out HS2.out.2 (Nat.le_refl _)⟩

set_option maxRecDepth 100000 in
set_option maxHeartbeats 1000000 in
theorem DrawPutText_any (ao : Option Addr) (len cap : Nat) (w : World) (hR : Row w w.heap.size ao len) (hl : len ≤ 1048576) :
    Calls Tryd.prog 10 #[.slice ao len cap] w fun e w' => TextTo 30000 e ∧ w.grownBy w' none := by
  have HR := Lib.hid hR; clear hR
  go_enter Tryd.func10, Tryd.ntmps10
  go_wp2_with fail
  refine (l01Source_any ao len cap w HR.out hl).mono ?_
  rintro e w1 ⟨rfl, hg1, hw1⟩
  have HG1 := Lib.hid hg1; have HW1 := Lib.hid hw1; clear hg1 hw1
  go_wp2_with fail
  refine (one_any _ 8 w1 HG1.out (by decide) (by decide)).mono ?_
  rintro e w2 ⟨⟨b, rfl⟩, hs2⟩
  have HS2 := Lib.hid hs2; clear hs2
  cases b
  · go_wp2_with fail
    refine (n_any _ 20 w2 HS2.out.1 (by decide) (by decide)).mono ?_
    rintro e w3 ⟨⟨v, rfl, hv0, hv1⟩, hs3⟩
    have HS3 := Lib.hid (HS2.out.trans hs3); clear hs3
    obtain ⟨j, rfl⟩ := Int.eq_ofNat_of_zero_le hv0
    go_wp2_with fail
    refine (bytes_any _ j w3 HS3.out.1 (by omega)).mono ?_
    rintro e w4 ⟨⟨t, rfl, ht⟩, hs4⟩
    have HS4 := Lib.hid (HS3.out.trans hs4); have HT := Lib.hid ht; clear hs4 ht
    go_wp2
    go_ret
    exact ⟨⟨t, rfl, by have := HT.out; omega⟩, grown_fresh HW1.out HS4.out.2 (Nat.le_refl _)⟩
  · go_wp2_with fail
    refine (n_any _ 3 w2 HS2.out.1 (by decide) (by decide)).mono ?_
    rintro e w3 ⟨⟨v, rfl, hv0, hv1⟩, hs3⟩
    have HS3 := Lib.hid (HS2.out.trans hs3); clear hs3
    obtain ⟨j, rfl⟩ := Int.eq_ofNat_of_zero_le hv0
    have hmk := zero_make j (by omega) w3
    have hcv := zero_conv (19999 + j) w3
    go_wp2
    go_ret
    exact ⟨⟨_, rfl, by simp [ByteArray.size]; omega⟩, grown_fresh HW1.out (grown_trans HS3.out.2 (World.grownBy_alloc _ _ _)) (Nat.le_refl _)⟩
end Go.Proofs.YtifcplmgdndmhaaDoor
