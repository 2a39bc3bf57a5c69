/- The draws of texts: a text changed a little. -/
import Derived.Test.YtjajpdghamecoaaDraw6
namespace Go.Proofs.Ytjajpdghamecoaa
open Go.RowKit

theorem one_byte (n : Nat) (hn : n < 256) (W : World) :
    (convert 22 9 (.slice (some ⟨W.heap.size, 0, none⟩) 1 1)).run Try.prog (W.alloc (.cells #[.int .u8 (n : Int)] 5)) = .ok (.string ⟨#[UInt8.ofNat n]⟩) (W.alloc (.cells #[.int .u8 (n : Int)] 5)) := by
  refine str22 _ ⟨W.heap.size, 0, none⟩ 1 [UInt8.ofNat n] 1 rfl fun j hj => ?_
  match j, hj with
  | 0, _ =>
    rw [add_plain, World.cell?_alloc_mark]
    simp; omega
set_option maxRecDepth 100000 in
set_option maxHeartbeats 2000000 in
theorem spoil_any (q : Nat) (t : ByteArray) (w : World) (hg : Good w q) (ht : t.size ≤ 1000000) :
    Calls Try.prog 54 #[.pointer (some ⟨q, 0, none⟩), .string t] w fun e w' => TextTo (t.size + 1) e ∧ Still q w w' := by
  have HG := Lib.hid hg; clear hg
  go_enter Try.func54, Try.ntmps54
  go_wp2_with fail
  refine (n_pos q _ w HG.out (by omega) (by omega)).mono ?_
  rintro e w1 ⟨⟨x, rfl, hx0, hx1⟩, hs1⟩
  obtain ⟨k, rfl⟩ := Int.eq_ofNat_of_zero_le hx0
  have hk : k ≤ t.size := by omega
  have HS1 := Lib.hid hs1; clear hs1
  go_wp2_with fail
  refine (n_any q 17 w1 HS1.out.1 (by decide) (by decide)).mono ?_
  rintro e w2 ⟨⟨x, rfl, hx0, hx1⟩, hs2⟩
  obtain ⟨j, rfl⟩ := Int.eq_ofNat_of_zero_le hx0
  have hj : j < 17 := by omega
  have HS2 := Lib.hid (HS1.out.trans hs2); clear hs2
  have hc8 : ({ data := #[32, 10, 48, 97, 45, 110, 44, 58, 93, 255, 40, 120, 126, 49, 128, 225, 59] } : ByteArray)[j].toNat < 256 := UInt8.toNat_lt _
  have hcv := one_byte (({ data := #[32, 10, 48, 97, 45, 110, 44, 58, 93, 255, 40, 120, 126, 49, 128, 225, 59] } : ByteArray)[j].toNat) hc8 w2
  have hq : q < w.heap.size := HG.out.lt
  have sz0 : (t.extract 0 k).size ≤ k := by rw [ByteArray.size_extract]; omega
  have sz1 : (t.extract k t.size).size = t.size - k := by rw [ByteArray.size_extract]; omega
  have sz2 : (t.extract (k + 1) t.size).size = t.size - (k + 1) := by rw [ByteArray.size_extract]; omega
  by_cases hkt : k = t.size
  · have hkn : ((k : Int) == (t.size : Int)) = true := by simp; omega
    go_wp2_with fail
    refine wp_world (fun W => Still q w W) (HS2.out.alloc hq _ _) ?_
    intro W hsW
    have HSW := Lib.hid hsW
    clear hsW hcv hc8 HS2
    generalize hC : ({ data := #[({ data := #[32, 10, 48, 97, 45, 110, 44, 58, 93, 255, 40, 120, 126, 49, 128, 225, 59] } : ByteArray)[j]] } : ByteArray) = C at *
    have hCs : C.size = 1 := by rw [← hC]; rfl
    clear hC
    have e1 := cat (t.extract 0 k) C (by omega)
    have e2 := cat (t.extract 0 k ++ C) (t.extract k t.size) (by rw [ByteArray.size_append]; omega)
    go_region_with (fail "none")
    all_goals
      go_wp2
      refine bodyPost_ret (v := .string (t ++ C)) (by simp [results, Try.results54, go_sem]) rfl ⟨⟨_, rfl, by rw [ByteArray.size_append]; omega⟩, by first | exact HSW.out | exact HSW.out.drew⟩
  · have hkn : ((k : Int) == (t.size : Int)) = false := by simp; omega
    have hk1 : (k : Int) + 1 ≤ (t.size : Int) := by omega
    have hk2 : (0 : Int) ≤ (k : Int) + 1 := by omega
    have hk3 : k + 1 ≤ t.size := by omega
    have hwr : IntKind.i64.wrap ((k : Int) + 1) = (k : Int) + 1 := IntWalk.i64_in _ (by omega)
    have hk4 : (k : Int) < (t.size : Int) := by omega
    have hk5 : k < t.size := by omega
    have hk6 : ¬ ((t.size : Int) < (k : Int) + 1) := by omega
    go_wp2_with fail
    refine calls_any (fun W => Still q w W) (HS2.out.alloc hq _ _) ?_
    intro W hsW
    have HSW := Lib.hid hsW
    refine (one_any q 3 W hsW.1 (by decide) (by decide)).mono ?_
    rintro e w3 ⟨⟨b1, rfl⟩, hs3⟩
    have HS3 := Lib.hid (HSW.out.trans hs3)
    clear hsW hs3 hcv hc8 HS2
    generalize hC : ({ data := #[({ data := #[32, 10, 48, 97, 45, 110, 44, 58, 93, 255, 40, 120, 126, 49, 128, 225, 59] } : ByteArray)[j]] } : ByteArray) = C at *
    have hCs : C.size = 1 := by rw [← hC]; rfl
    clear hC
    have e1 := cat (t.extract 0 k) C (by omega)
    have e2 := cat (t.extract 0 k ++ C) (t.extract k t.size) (by rw [ByteArray.size_append]; omega)
    have e3 := cat (t.extract 0 k) (t.extract (k + 1) t.size) (by omega)
    have e4 := cat (t.extract 0 k ++ C) (t.extract (k + 1) t.size) (by rw [ByteArray.size_append]; omega)
    have hsl : ∀ W : World, (Instr.slice 9 (.string t) (some (.int .i64 ((k : Int) + 1))) none none).run Try.prog W = .ok (.string (t.extract (k + 1) t.size)) W := fun W => by
      have := run_slice_string_l (P := Try.prog) W 9 t Try.underlying9 .i64 ((k : Int) + 1) hk2 hk1
      simpa using this
    cases b1
    · go_wp2_with fail
      refine (one_any q 2 w3 HS3.out.1 (by decide) (by decide)).mono ?_
      rintro e w4 ⟨⟨b2, rfl⟩, hs4⟩
      have HS4 := Lib.hid (HS3.out.trans hs4); clear hs4
      cases b2
      · go_wp2_with fail
        go_region_with (fail "none")
        all_goals
          go_wp2
          refine bodyPost_ret (v := .string (t.extract 0 k ++ C ++ t.extract (k + 1) t.size)) (by simp [results, Try.results54, go_sem]) rfl ⟨⟨_, rfl, by rw [ByteArray.size_append, ByteArray.size_append]; omega⟩, by first | exact HS4.out | exact HS4.out.drew⟩
      · go_wp2_with fail
        go_region_with (fail "none")
        all_goals
          go_wp2
          refine bodyPost_ret (v := .string (t.extract 0 k ++ t.extract (k + 1) t.size)) (by simp [results, Try.results54, go_sem]) rfl ⟨⟨_, rfl, by rw [ByteArray.size_append]; omega⟩, by first | exact HS4.out | exact HS4.out.drew⟩
    · go_wp2_with fail
      go_region_with (fail "none")
      all_goals
        go_wp2
        refine bodyPost_ret (v := .string (t.extract 0 k ++ C ++ t.extract k t.size)) (by simp [results, Try.results54, go_sem]) rfl ⟨⟨_, rfl, by rw [ByteArray.size_append, ByteArray.size_append]; omega⟩, by first | exact HS3.out | exact HS3.out.drew⟩
end Go.Proofs.Ytjajpdghamecoaa
