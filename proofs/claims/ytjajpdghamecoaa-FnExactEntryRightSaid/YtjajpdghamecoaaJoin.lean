/- concat: what the program's text returns. -/
import Derived.Test.YtjajpdghamecoaaNorm2
import Derived.Lib.BufferWrite
import Derived.Deep.OwnRows
namespace Go.Proofs.Ytjajpdghamecoaa
open Go.RowKit

def joinL (ss : List ByteArray) : List UInt8 := ss.flatMap (fun s => s.data.toList)
def joinS (ss : List ByteArray) : ByteArray := ⟨(joinL ss).toArray⟩
theorem joinL_snoc (ss : List ByteArray) (s : ByteArray) : joinL (ss ++ [s]) = joinL ss ++ s.data.toList := by simp [joinL]
theorem joinL_split (ss : List ByteArray) (k : Nat) : joinL ss = joinL (ss.take k) ++ joinL (ss.drop k) := by
  have h := List.take_append_drop k ss
  unfold joinL
  rw [← List.flatMap_append, h]
theorem joinL_take_le (ss : List ByteArray) (k : Nat) : (joinL (ss.take k)).length ≤ (joinL ss).length := by
  rw [joinL_split ss k]; simp
theorem joinL_take_succ (ss : List ByteArray) (k : Nat) (h : k < ss.length) : joinL (ss.take (k + 1)) = joinL (ss.take k) ++ (ss[k]).data.toList := by
  rw [List.take_succ_eq_append_getElem h, joinL_snoc]
theorem modify_push {α : Type} (A : Array α) (x : α) (f : α → α) : (A.push x).modify A.size f = A.push (f x) := by
  apply Array.ext_getElem?
  intro i
  rw [Array.getElem?_modify, Array.getElem?_push, Array.getElem?_push]
  by_cases h : A.size = i
  · subst h; simp
  · rw [if_neg h, if_neg (fun e => h e.symm), if_neg (fun e => h e.symm)]
theorem setRow_alloc (w : World) (C X : Array Value) : (w.alloc (.cells C 5)).setRow w.heap.size X = w.alloc (.cells X 5) := by
  unfold World.setRow World.alloc
  simp only [modify_push]
theorem info5size : (Try.prog.info? 5).map (·.size) = some 1 := by kernel_rfl

/-- out[at:] and the copy of s into it -/
theorem cut_copy (w : World) (C : Array Value) (n k : Nat) (s : ByteArray) (hC : C.size = n) (hk : k + s.size ≤ n) :
    ∃ A : Addr, (∀ W : World, (Instr.slice 22 (.slice (some ⟨w.heap.size, 0, none⟩) n n) (some (.int .i64 (k : Int))) none none).run Try.prog W = .ok (.slice (some A) (n - k) (n - k)) W) ∧
      (Builtin.copy_ #[22, 9] 3 #[.slice (some A) (n - k) (n - k), .string s]).run Try.prog (w.alloc (.cells C 5)) =
        .ok (.int .i64 (s.size : Int)) (w.alloc (.cells (C.toList.take k ++ bs s.data.toList ++ C.toList.drop (k + s.size)).toArray 5)) := by
  refine ⟨if n = k then ⟨w.heap.size, 0, none⟩ else ⟨w.heap.size, k, none⟩, fun W => ?_, ?_⟩
  · rw [run_slice_l W 22 (some ⟨w.heap.size, 0, none⟩) n n (by rw [Try.elem22]; exact Try.underlying22) .i64 (k : Int) (by omega) (by omega), Try.elem22, Try.size5]
    simp [Result.andThen, sliced]
    split <;> simp [add_plain]
  · by_cases e : n = k
    · have hs0 : s.size = 0 := by omega
      rw [if_pos e, Lib.run_copy_empty_string _ 22 9 3 5 _ _ _ s Try.underlying22 (by rw [info5size]; rfl) hs0]
      have hl : s.data.toList = [] := List.eq_nil_of_length_eq_zero (by rw [size_len]; exact hs0)
      rw [hl, hs0]
      have hL : C.toList.length = n := by simpa using hC
      simp [bs, goInt]
    · rw [if_neg e, Lib.run_copy_row_string _ 22 9 3 5 w.heap.size k (n - k) (n - k) s C 5 Try.underlying22 info5size (heap_alloc_new w _) (by omega) (by omega), setRow_alloc]
      rfl

/-- what the copied row holds -/
theorem copied (C : Array Value) (n k : Nat) (l m : List UInt8) (hC : C.size = n) (hl : l.length = k) (hk : k + m.length ≤ n) (hp : C.toList.take k = bs l) :
    (C.toList.take k ++ bs m ++ C.toList.drop (k + m.length)).toArray.size = n ∧
      (C.toList.take k ++ bs m ++ C.toList.drop (k + m.length)).toArray.toList.take (k + m.length) = bs (l ++ m) := by
  have hL : C.toList.length = n := by simpa using hC
  refine ⟨by simp [bs_length]; omega, ?_⟩
  rw [hp]
  have : bs (l ++ m) = bs l ++ bs m := by simp [bs]
  have hlen : (bs l ++ bs m).length = k + m.length := by simp [bs_length, hl]
  rw [this, ← hlen]
  exact List.take_left

theorem cut_copied (w : World) (C : Array Value) (n : Nat) (l : List UInt8) (s : ByteArray) (hC : C.size = n) (hk : l.length + s.size ≤ n) (hp : C.toList.take l.length = bs l) :
    ∃ (A : Addr) (X : Array Value), (X.size = n ∧ X.toList.take (l.length + s.size) = bs (l ++ s.data.toList)) ∧
      (∀ W : World, (Instr.slice 22 (.slice (some ⟨w.heap.size, 0, none⟩) n n) (some (.int .i64 (l.length : Int))) none none).run Try.prog W = .ok (.slice (some A) (n - l.length) (n - l.length)) W) ∧
      (Builtin.copy_ #[22, 9] 3 #[.slice (some A) (n - l.length) (n - l.length), .string s]).run Try.prog (w.alloc (.cells C 5)) = .ok (.int .i64 (s.size : Int)) (w.alloc (.cells X 5)) := by
  obtain ⟨A, h1, h2⟩ := cut_copy w C n l.length s hC hk
  have h3 := copied C n l.length l s.data.toList hC rfl (by rw [size_len]; exact hk) hp
  rw [size_len] at h3
  exact ⟨A, _, h3, h1, h2⟩

set_option maxRecDepth 100000 in
set_option maxHeartbeats 400000 in
theorem concat_any (b off cap : Nat) (ss : List ByteArray) (w : World) (hm : ss.length ≤ 1000000) (hb : b < w.heap.size) (hlen : (joinL ss).length ≤ 1000000000)
    (hcell : ∀ i (hi : i < ss.length), w.cell? ⟨b, off + i, none⟩ = some (.string ss[i])) :
    Calls Try.prog 84 #[.slice (some ⟨b, off, none⟩) ss.length cap] w fun e w' => e = .returned (.string (joinS ss)) ∧ Below w.heap.size w w' := by
  have Hc := Lib.hid hcell; clear hcell
  have hmk := fun (n : Nat) (h : n ≤ 1000000000) => run_make_row' (P := Try.prog) 22 5 (.int .u8 0) 1 Try.underlying22 Try.info5 rfl .i64 .i64 n (by omega) (by omega)
  have Hmk := Lib.hid hmk; clear hmk
  go_enter Try.func84, Try.ntmps84
  go_wp2
  go_loop [3, 12] (fun t i => ∃ k : Nat, k ≤ ss.length ∧ i = .int .i64 k ∧ t = .int .i64 ((joinL (ss.take k)).length : Nat)) (fun _ i => ss.length - (intOf i).toNat)
  case atStart => exact ⟨0, Nat.zero_le _, rfl, rfl⟩
  case round =>
    obtain ⟨k, hk, rfl, rfl⟩ := hrel
    have hle := joinL_take_le ss k
    by_cases hlt : k < ss.length
    · have hck := Hc.out k hlt
      have hs2 := joinL_take_le ss (k + 1)
      have HS := Lib.hid (joinL_take_succ ss k hlt)
      rw [HS.out, List.length_append, size_len] at hs2
      generalize hq : (joinL (ss.take k)).length = q at *
      have Hq := Lib.hid hq; clear hq
      go_wp2
      go_round
      case rel => exact ⟨k + 1, by omega, by go_num, by rw [HS.out, List.length_append, Hq.out, size_len]; go_num⟩
      case measure => simp [intOf]; omega
    · have e : ss.take k = ss := List.take_of_length_le (by omega)
      rw [e]
      clear e hle
      have hM := Hmk.out _ hlen w
      generalize hn : (joinL ss).length = n at *
      have Hn := Lib.hid hn; clear hn
      have hMz : (madeCells #[Value.int IntKind.u8 0] n).size = n := size_madeCells _ _
      generalize madeCells #[Value.int IntKind.u8 0] n = M at *
      have HM := Lib.hid hMz; clear hMz
      go_wp2
      go_loopw [7, 25] (fun t i wr => ∃ (j : Nat) (C : Array Value), j ≤ ss.length ∧ i = .int .i64 j ∧ t = .int .i64 ((joinL (ss.take j)).length : Nat) ∧ C.size = n ∧ C.toList.take (joinL (ss.take j)).length = bs (joinL (ss.take j)) ∧ wr = w.alloc (.cells C 5)) (fun _ i _ => ss.length - (intOf i).toNat)
      case atStart => exact ⟨0, M, Nat.zero_le _, rfl, rfl, HM.out, by simp [joinL, bs], rfl⟩
      case round =>
        clear hM HM
        obtain ⟨j, C, hj, rfl, rfl, hC, hp, rfl⟩ := hrel
        have HC := Lib.hid hC; clear hC
        have Hp := Lib.hid hp; clear hp
        by_cases hjlt : j < ss.length
        · have hck : (w.alloc (.cells C 5)).cell? ⟨b, off + j, none⟩ = some (.string ss[j]) := by
            rw [(Below.refl w.heap.size w |>.alloc (Nat.le_refl _) (.cells C 5)).cell hb]; exact Hc.out j hjlt
          have hs2 := joinL_take_le ss (j + 1)
          have HS := Lib.hid (joinL_take_succ ss j hjlt)
          rw [HS.out, List.length_append, size_len, Hn.out] at hs2
          obtain ⟨A, X, hX, hsl, hcp⟩ := cut_copied w C n (joinL (ss.take j)) ss[j] HC.out hs2 Hp.out
          have HX := Lib.hid hX; clear hX
          generalize hq : (joinL (ss.take j)).length = q at *
          have Hq := Lib.hid hq; clear hq
          go_wp2
          go_roundw
          case rel =>
            refine ⟨j + 1, X, by omega, by go_num, ?_, HX.out.1, ?_, rfl⟩
            · rw [HS.out, List.length_append, Hq.out, size_len]; go_num
            · rw [HS.out, List.length_append, Hq.out, size_len]; exact HX.out.2
          case measure => simp [intOf]; omega
        · have e : ss.take j = ss := List.take_of_length_le (by omega)
          have h1 := Hp.out
          rw [e, Hn.out] at h1
          rw [e, Hn.out]
          have hstr := str22 (w.alloc (.cells C 5)) ⟨w.heap.size, 0, none⟩ n (joinL ss) n Hn.out (fun i hi => by
            rw [add_plain, World.cell?_alloc_mark]
            have h2 : C.toList[i]? = (bs (joinL ss))[i]? := by rw [← h1, List.getElem?_take_of_lt (by rw [← Hn.out]; exact hi)]
            rw [← Array.getElem?_toList, h2]
            simp [bs, List.getElem?_eq_getElem hi])
          clear e h1
          go_wp2
          go_ret
          exact ⟨rfl, (Below.refl _ _).alloc (Nat.le_refl _) _⟩
theorem joinS_one (a : ByteArray) : joinS [a] = a := by
  apply ByteArray.ext
  simp [joinS, joinL]
theorem joinS_two (a b : ByteArray) : joinS [a, b] = a ++ b := by
  apply ByteArray.ext
  simp [joinS, joinL]
theorem concat_one (a : ByteArray) (w : World) (h : a.size ≤ 1000000) :
    Calls Try.prog 84 #[.slice (some ⟨w.heap.size, 0, none⟩) 1 1] (w.alloc (.cells #[.string a] 9)) fun e w' => e = .returned (.string a) ∧ Below w.heap.size w w' := by
  have := concat_any w.heap.size 0 1 [a] (w.alloc (.cells #[.string a] 9)) (by simp) (by simp) (by simp [joinL]; omega) (fun i hi => by
    match i, hi with
    | 0, _ => simp)
  rw [joinS_one] at this
  exact this.mono fun e w' ⟨he, hb⟩ => ⟨he, ((Below.refl _ _).alloc (Nat.le_refl _) _).trans (hb.mono (by simp))⟩
end Go.Proofs.Ytjajpdghamecoaa
