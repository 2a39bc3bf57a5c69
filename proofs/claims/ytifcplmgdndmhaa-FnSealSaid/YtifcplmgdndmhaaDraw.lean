/- The draws of a sealed text and of a CRC; a number out of a code. -/
import Derived.Test.YtifcplmgdndmhaaSrc3
namespace Go.Proofs.Ytifcplmgdndmhaa
open Go.RowKit

theorem grown_fresh {w w1 w2 : World} {q : Nat} (h : w.grownBy w1 none) (g : w1.grownBy w2 (some q)) (hq : w.heap.size ≤ q) : w.grownBy w2 none :=
  ⟨g.os.trans h.os, g.tape.trans h.tape, g.output.trans h.output, Nat.le_trans h.size g.size, fun k hk _ => (g.block k (Nat.lt_of_lt_of_le hk h.size) (fun e => by have := Option.some.inj e; omega)).trans (h.block k hk (by simp))⟩

/-- some string of at most n bytes -/
def TextTo (n : Nat) (e : Ending) : Prop := ∃ t : ByteArray, e = .returned (.string t) ∧ t.size ≤ n

theorem zero_make (j : Nat) (hj : j ≤ 1000000) (W : World) :
    (Instr.makeSlice 22 (.int .i64 (19995 + (j : Int))) (.int .i64 (19995 + (j : Int)))).run Try.prog W = .ok (.slice (some ⟨W.heap.size, 0, none⟩) (19995 + j) (19995 + j)) (W.alloc (.cells (madeCells #[.int .u8 0] (19995 + j)) 5)) := by
  have e : (19995 + (j : Int)) = ((19995 + j : Nat) : Int) := by omega
  rw [e]
  exact run_make_row' (P := Try.prog) 22 5 (.int .u8 0) 1 Try.underlying22 Try.info5 rfl .i64 .i64 (19995 + j) (by omega) (by omega) W
theorem zero_conv (n : Nat) (W : World) :
    (convert 22 9 (.slice (some ⟨W.heap.size, 0, none⟩) n n)).run Try.prog (W.alloc (.cells (madeCells #[.int .u8 0] n) 5)) = .ok (.string ⟨(List.replicate n (0 : UInt8)).toArray⟩) (W.alloc (.cells (madeCells #[.int .u8 0] n) 5)) := by
  refine str22 _ ⟨W.heap.size, 0, none⟩ n (List.replicate n 0) n (by simp) fun j hj => ?_
  rw [add_plain, World.cell?_alloc_mark]
  simp at hj
  simp [madeCells, hj]
  rw [Nat.mod_one]; rfl

set_option maxRecDepth 100000 in
set_option maxHeartbeats 1000000 in
theorem DrawSeal_any (ao : Option Addr) (len cap : Nat) (w : World) (hR : Row w w.heap.size ao len) (hl : len ≤ 1048576) :
    Calls Try.prog 11 #[.slice ao len cap] w fun e w' => TextTo 20000 e ∧ w.grownBy w' none := by
  have HR := Lib.hid hR; clear hR
  go_enter Try.func11, Try.ntmps11
  go_wp2_with fail
  refine (l01Source_any ao len cap w HR.out hl).mono ?_
  rintro e w1 ⟨rfl, hg1, hw1⟩
  have HG1 := Lib.hid hg1; have HW1 := Lib.hid hw1; clear hg1 hw1
  go_wp2_with fail
  refine (one_any _ 30 w1 HG1.out (by decide) (by decide)).mono ?_
  rintro e w2 ⟨⟨b, rfl⟩, hs2⟩
  have HS2 := Lib.hid hs2; clear hs2
  cases b
  · go_wp2_with fail
    refine (n_any _ 20 w2 HS2.out.1 (by decide) (by decide)).mono ?_
    rintro e w3 ⟨⟨v, rfl, hv0, hv1⟩, hs3⟩
    have HS3 := Lib.hid (HS2.out.trans hs3); clear hs3
    obtain ⟨j, rfl⟩ := Int.eq_ofNat_of_zero_le hv0
    go_wp2_with fail
    refine (bytes_any _ j w3 HS3.out.1 (by omega)).mono ?_
    rintro e w4 ⟨⟨t, rfl, ht⟩, hs4⟩
    have HS4 := Lib.hid (HS3.out.trans hs4); have HT := Lib.hid ht; clear hs4 ht
    go_wp2
    go_ret
    exact ⟨⟨t, rfl, by have := HT.out; omega⟩, grown_fresh HW1.out HS4.out.2 (Nat.le_refl _)⟩
  · go_wp2_with fail
    refine (n_any _ 3 w2 HS2.out.1 (by decide) (by decide)).mono ?_
    rintro e w3 ⟨⟨v, rfl, hv0, hv1⟩, hs3⟩
    have HS3 := Lib.hid (HS2.out.trans hs3); clear hs3
    obtain ⟨j, rfl⟩ := Int.eq_ofNat_of_zero_le hv0
    have hmk := zero_make j (by omega) w3
    have hcv := zero_conv (19995 + j) w3
    go_wp2
    go_ret
    exact ⟨⟨_, rfl, by simp [ByteArray.size]; omega⟩, grown_fresh HW1.out (grown_trans HS3.out.2 (World.grownBy_alloc _ _ _)) (Nat.le_refl _)⟩

/-- a pair of a 64-bit integer and a string of at most 8 bytes -/
def CrcPair (e : Ending) : Prop := ∃ (c : Int) (t : ByteArray), e = .returned (.tuple #[.int .i64 c, .string t]) ∧ t.size ≤ 8

set_option maxRecDepth 100000 in
set_option maxHeartbeats 1000000 in
theorem DrawCrcMore_any (ao : Option Addr) (len cap : Nat) (w : World) (hR : Row w w.heap.size ao len) (hl : len ≤ 1048576) :
    Calls Try.prog 16 #[.slice ao len cap] w fun e w' => CrcPair e ∧ w.grownBy w' none := by
  have HR := Lib.hid hR; clear hR
  go_enter Try.func16, Try.ntmps16
  go_wp2_with fail
  refine (l01Source_any ao len cap w HR.out hl).mono ?_
  rintro e w1 ⟨rfl, hg1, hw1⟩
  have HG1 := Lib.hid hg1; have HW1 := Lib.hid hw1; clear hg1 hw1
  go_wp2_with fail
  refine (n_any _ 9 w1 HG1.out (by decide) (by decide)).mono ?_
  rintro e w2 ⟨⟨v, rfl, hv0, hv1⟩, hs2⟩
  have HS2 := Lib.hid hs2; clear hs2
  obtain ⟨j, rfl⟩ := Int.eq_ofNat_of_zero_le hv0
  go_wp2_with fail
  refine (bytes_any _ j w2 HS2.out.1 (by omega)).mono ?_
  rintro e w3 ⟨⟨t, rfl, ht⟩, hs3⟩
  have HS3 := Lib.hid (HS2.out.trans hs3); have HT := Lib.hid ht; clear hs3 ht
  go_wp2_with fail
  refine (one_any _ 5 w3 HS3.out.1 (by decide) (by decide)).mono ?_
  rintro e w4 ⟨⟨b, rfl⟩, hs4⟩
  have HS4 := Lib.hid (HS3.out.trans hs4); clear hs4
  cases b
  · go_wp2_with fail
    refine (n_any _ 9 w4 HS4.out.1 (by decide) (by decide)).mono ?_
    rintro e w5 ⟨⟨v, rfl, hv2, hv3⟩, hs5⟩
    have HS5 := Lib.hid (HS4.out.trans hs5); clear hs5
    obtain ⟨i, rfl⟩ := Int.eq_ofNat_of_zero_le hv2
    go_wp2_with fail
    refine (bytes_any _ i w5 HS5.out.1 (by omega)).mono ?_
    rintro e w6 ⟨⟨u, rfl, hu⟩, hs6⟩
    have HS6 := Lib.hid (HS5.out.trans hs6); have HU := Lib.hid hu; clear hs6 hu
    go_wp2_with fail
    refine (SpecCrc_any u w6 (by have := HU.out; unfold maxLen; omega)).mono ?_
    rintro e w7 ⟨rfl, rfl⟩
    go_wp2
    go_ret2
    exact ⟨⟨_, t, rfl, by have := HT.out; omega⟩, grown_fresh HW1.out HS6.out.2 (Nat.le_refl _)⟩
  · go_wp2_with fail
    refine (edge_any _ w4 HS4.out.1).mono ?_
    rintro e w5 ⟨⟨c, rfl, hc0, hc1⟩, hs5⟩
    have HS5 := Lib.hid (HS4.out.trans hs5); clear hs5
    go_wp2
    go_ret2
    exact ⟨⟨_, t, rfl, by have := HT.out; omega⟩, grown_fresh HW1.out HS5.out.2 (Nat.le_refl _)⟩


set_option maxRecDepth 100000 in
set_option maxHeartbeats 1000000 in
theorem lwAt_zero (ao : Option Addr) (len cap : Nat) (x y : Int) (w : World) (hl : len ≤ 1048576) (h : y ≤ 1 ∨ len = 0) :
    Calls Try.prog 14 #[.slice ao len cap, .int .i64 x, .int .i64 y] w fun e w' => e = .returned (.int .i64 0) ∧ w = w' := by
  by_cases hy : y ≤ 1
  · go_enter Try.func14, Try.ntmps14
    go_wp2
    go_ret
    exact ⟨rfl, rfl⟩
  · have h0 : len = 0 := by omega
    subst h0
    go_enter Try.func14, Try.ntmps14
    go_wp2
    go_ret
    exact ⟨rfl, rfl⟩
set_option maxRecDepth 100000 in
set_option maxHeartbeats 1000000 in
theorem lwAt_row (b off len cap x : Nat) (y v : Int) (w : World) (hl : len ≤ 1048576) (hx : x ≤ 1000) (hy : 1 < y) (hy2 : y ≤ 1000000) (h0 : 0 < len) (hc : w.cell? ⟨b, off + x % len, none⟩ = some (.int .u8 v)) (hv0 : 0 ≤ v) (hv1 : v ≤ 255) :
    Calls Try.prog 14 #[.slice (some ⟨b, off, none⟩) len cap, .int .i64 x, .int .i64 y] w fun e w' => InRange y e ∧ w = w' := by
  have hz : ((len : Int) == 0) = false := by rw [beq_eq_false_iff_ne]; omega
  have hm : x % len < len := Nat.mod_lt _ h0
  go_enter Try.func14, Try.ntmps14
  go_wp2
  go_ret
  exact ⟨⟨_, rfl, Int.emod_nonneg v (by omega), Int.emod_lt_of_pos v (by omega)⟩, rfl⟩
theorem lwAt_any (q : Nat) (ao : Option Addr) (len cap x : Nat) (y : Int) (w : World) (hR : Row w q ao len) (hl : len ≤ 1048576) (hx : x ≤ 1000) (hy : 1 ≤ y) (hy2 : y ≤ 1000000) :
    Calls Try.prog 14 #[.slice ao len cap, .int .i64 x, .int .i64 y] w fun e w' => InRange y e ∧ w = w' := by
  by_cases h : y ≤ 1 ∨ len = 0
  · exact (lwAt_zero ao len cap x y w hl h).mono fun e w' ⟨he, hw⟩ => ⟨⟨0, he, by omega, by omega⟩, hw⟩
  · rcases hR with h0 | ⟨b, off, rfl, hb, hc⟩
    · omega
    · have h0 : 0 < len := by omega
      obtain ⟨v, hv, hv0, hv1⟩ := hc (x % len) (Nat.mod_lt _ h0)
      exact lwAt_row b off len cap x y v w hl hx (by omega) hy2 h0 hv hv0 hv1
end Go.Proofs.Ytifcplmgdndmhaa
