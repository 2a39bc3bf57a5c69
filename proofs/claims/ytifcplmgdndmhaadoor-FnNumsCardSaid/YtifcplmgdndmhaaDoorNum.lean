/- PutNum: what the program's text returns. -/
import Derived.Test.YtifcplmgdndmhaaDoorAs
import Derived.Test.YtifcplmgdndmhaaDoorNumMath
import Derived.Laws.BytesArg
namespace Go.Proofs.YtifcplmgdndmhaaDoor
open Go.RowKit

theorem Tryd.alen42 : Tryd.prog.arrayLen 42 = 10 := by kernel_rfl
theorem Tryd.elem42 : Tryd.prog.elem 42 = 5 := by kernel_rfl
theorem Tryd.size5 (w : World) : (sizeOf 5).run Tryd.prog w = .ok 1 w := by kernel_rfl
theorem slice42 (a : Addr) (k : Nat) (hk : k ≤ 9) (w : World) :
    (Instr.sliceAt 42 (.pointer (some a)) none (some (.int .i64 ((k : Int) + 1))) none).run Tryd.prog w = .ok (.slice (some a) (k + 1) 10) w := by
  have hh : ((k : Int) + 1) ≤ Tryd.prog.arrayLen 42 := by rw [Tryd.alen42]; omega
  rw [run_sliceAt_array_h w 42 a (by rw [Tryd.alen42, Tryd.elem42]; exact Tryd.underlying42) .i64 _ (by omega) hh, Tryd.elem42, Tryd.size5, Tryd.alen42]
  have e : ((k : Int) + 1).toNat = k + 1 := by omega
  simp [Result.andThen, slicedAt, e, Addr.add]
theorem str22 (W : World) (a : Addr) (cap : Nat) (l : List UInt8) (n : Nat) (hn : l.length = n) (hc : ∀ j (hj : j < l.length), W.cell? (a.add j) = some (.int .u8 (l[j].toNat : Int))) :
    (convert 22 9 (.slice (some a) n cap)).run Tryd.prog W = .ok (.string ⟨l.toArray⟩) W := by
  subst hn
  exact run_convert_bytes_back W 22 9 5 a cap l Tryd.underlying22 Tryd.underlying5 Tryd.underlying9 hc
theorem add_plain (b j : Nat) : (⟨b, 0, none⟩ : Addr).add j = ⟨b, j, none⟩ := by unfold Addr.add; split <;> simp_all
theorem byte_low (u : Nat) (h : u < 18446744073709551616) : (bits .and .u64 (u : Int) 127 + 128) % 256 = ((UInt8.ofNat (u % 128 + 128)).toNat : Int) := by
  have e := bits_and_u64_nat u 127 h (by decide)
  have e' : bits .and .u64 (u : Int) 127 = ((u &&& 127 : Nat) : Int) := e
  rw [e', show (127 : Nat) = 2 ^ 7 - 1 from rfl, Nat.and_two_pow_sub_one_eq_mod]
  simp
theorem set_snoc {C : Array Value} {pre : List UInt8} {k : Nat} (hk : k < C.size) (hl : pre.length = k) (c : UInt8) {v : Int} (hv : v = (c.toNat : Int))
    (hp : ∀ j (hj : j < pre.length), C[j]? = some (.int .u8 (pre[j].toNat : Int))) :
    ∀ j (hj : j < (pre ++ [c]).length), (C.setIfInBounds k (.int .u8 v))[j]? = some (.int .u8 ((pre ++ [c])[j].toNat : Int)) := by
  intro j hj
  simp at hj
  rw [Array.getElem?_setIfInBounds]
  by_cases e : k = j
  · subst e; subst hl
    simp [hk, hv]
  · rw [if_neg e, hp j (by omega), List.getElem_append_left (by omega)]

set_option maxRecDepth 100000 in
set_option maxHeartbeats 400000 in
theorem PutNum_any (n : Int) (w : World) (h0 : -9223372036854775808 ≤ n) (h1 : n ≤ 9223372036854775807) :
    Calls Tryd.prog 7 #[.int .i64 n] w fun e w' => e = .returned (.string (encS n)) ∧ Below w.heap.size w w' := by
  have hu0 := foldN_lt n h0 h1
  by_cases hn : n < 0
  all_goals
    first | (have HN := Lib.hid (foldN_neg n hn h0)) | (have HN := Lib.hid (foldN_nonneg n hn))
    go_enter Tryd.func7, Tryd.ntmps7
    go_wp2
    rw [HN.out]
    generalize hW : w.alloc (.cells #[Value.int IntKind.u8 0, Value.int IntKind.u8 0, Value.int IntKind.u8 0, Value.int IntKind.u8 0, Value.int IntKind.u8 0, Value.int IntKind.u8 0, Value.int IntKind.u8 0, Value.int IntKind.u8 0, Value.int IntKind.u8 0, Value.int IntKind.u8 0] 42) = W0
    have HW := Lib.hid hW; clear hW
    go_loopw [3, 5] (fun t i wr => ∃ (k u : Nat) (pre : List UInt8) (C : Array Value), Left (foldN n) k u pre ∧ i = .int .i64 k ∧ t = .int .u64 u ∧ C.size = 10 ∧ (∀ j (hj : j < pre.length), C[j]? = some (.int .u8 (pre[j].toNat : Int))) ∧ wr = w.alloc (.cells C 42)) (fun t _ _ => (intOf t).toNat)
    case atStart => exact ⟨0, foldN n, [], _, left_start _ hu0, rfl, rfl, rfl, fun j hj => absurd hj (by simp), HW.out.symm⟩
    case round =>
      clear hu0 HW
      obtain ⟨k, u, pre, C, hL, rfl, rfl, hC, hp, rfl⟩ := hrel
      have Hp := Lib.hid hp
      have HL := Lib.hid hL
      have hk9 : k ≤ 9 := hL.1
      have Hlt := Lib.hid (left_lt hL)
      obtain ⟨v0, hv0⟩ : ∃ v, C[k]? = some v := ⟨C[k], Array.getElem?_eq_getElem (by omega)⟩
      have hcell : (w.alloc (.cells C 42)).cell? ⟨w.heap.size, k, none⟩ = some v0 := by rw [World.cell?_alloc_mark]; exact hv0
      have hC' : k < C.size := by omega
      have HC := Lib.hid hC
      clear hp hL hC
      by_cases hu : 128 ≤ u
      · have hk8 := left_room HL.out hu
        go_wp2
        go_roundw
        case rel => exact ⟨k + 1, u / 128, pre ++ [UInt8.ofNat (u % 128 + 128)], _, left_step HL.out hu, by go_num, by go_num, by rw [Array.size_setIfInBounds]; exact HC.out, set_snoc hC' HL.out.2.1 _ (byte_low u Hlt.out) Hp.out, rfl⟩
        case measure => simp [intOf]; omega
      · have hsl := slice42 ⟨w.heap.size, 0, none⟩ k hk9
        have hE := left_end HL.out hu
        have hcs := set_snoc hC' HL.out.2.1 (UInt8.ofNat u) (v := (u : Int)) (by simp; omega) Hp.out
        have hcv := str22 (w.alloc (.cells (C.setIfInBounds k (.int .u8 (u : Int))) 42)) ⟨w.heap.size, 0, none⟩ 10 (pre ++ [UInt8.ofNat u]) (k + 1) (by simp [HL.out.2.1]) (fun j hj => by rw [add_plain, World.cell?_alloc_mark]; exact hcs j hj)
        rw [hE] at hcv
        clear hcs
        have HE := Lib.hid hE; clear hE
        go_wp2
        go_ret
        exact ⟨rfl, (Below.refl _ _).alloc (Nat.le_refl _) _⟩
end Go.Proofs.YtifcplmgdndmhaaDoor
