/- PutText, and concat of one or two parts. -/
import Derived.Test.YtifcplmgdndmhaaDoorJoin
namespace Go.Proofs.YtifcplmgdndmhaaDoor
open Go.RowKit

theorem joinS_one (a : ByteArray) : joinS [a] = a := by
  apply ByteArray.ext
  simp [joinS, joinL]
theorem joinS_two (a b : ByteArray) : joinS [a, b] = a ++ b := by
  apply ByteArray.ext
  simp [joinS, joinL]
theorem concat_one (a : ByteArray) (w : World) (h : a.size ≤ 1000000) :
    Calls Tryd.prog 26 #[.slice (some ⟨w.heap.size, 0, none⟩) 1 1] (w.alloc (.cells #[.string a] 9)) fun e w' => e = .returned (.string a) ∧ Below w.heap.size w w' := by
  have := concat_any w.heap.size 0 1 [a] (w.alloc (.cells #[.string a] 9)) (by simp) (by simp) (by simp [joinL]; omega) (fun i hi => by
    match i, hi with
    | 0, _ => simp)
  rw [joinS_one] at this
  exact this.mono fun e w' ⟨he, hb⟩ => ⟨he, ((Below.refl _ _).alloc (Nat.le_refl _) _).trans (hb.mono (by simp))⟩
theorem concat_two (a b : ByteArray) (w : World) (h : a.size + b.size ≤ 1000000) :
    Calls Tryd.prog 26 #[.slice (some ⟨w.heap.size, 0, none⟩) 2 2] (w.alloc (.cells #[.string a, .string b] 9)) fun e w' => e = .returned (.string (a ++ b)) ∧ Below w.heap.size w w' := by
  have := concat_any w.heap.size 0 2 [a, b] (w.alloc (.cells #[.string a, .string b] 9)) (by simp) (by simp) (by simp [joinL]; omega) (fun i hi => by
    match i, hi with
    | 0, _ => simp
    | 1, _ => simp)
  rw [joinS_two] at this
  exact this.mono fun e w' ⟨he, hb⟩ => ⟨he, ((Below.refl _ _).alloc (Nat.le_refl _) _).trans (hb.mono (by simp))⟩

def putTextV (s : ByteArray) : ByteArray := if s.size ≤ 8000 then encS (s.size : Int) ++ s else ByteArray.empty
theorem putTextV_in (s : ByteArray) (h : s.size ≤ 8000) : putTextV s = encS (s.size : Int) ++ s := by unfold putTextV; rw [if_pos h]
theorem putTextV_out (s : ByteArray) (h : ¬ s.size ≤ 8000) : putTextV s = ByteArray.empty := by unfold putTextV; rw [if_neg h]
theorem encS_size (n : Int) : (encS n).size ≤ 10 := by have := (enc_len (foldN n)).2; simpa [encS, ByteArray.size] using this
theorem ret_str {a b : ByteArray} (h : a = b) : Ending.returned (.string a) = .returned (.string b) := by rw [h]

set_option maxHeartbeats 400000 in
theorem PutText_any (s : ByteArray) (w : World) (hs : s.size ≤ maxLen) :
    Calls Tryd.prog 11 #[.string s] w fun e w' => e = .returned (.string (putTextV s)) ∧ Below w.heap.size w w' := by
  unfold maxLen at hs
  by_cases h1 : s.size ≤ 8000
  · have H := Lib.hid (putTextV_in s h1)
    have hz := encS_size (s.size : Int)
    go_enter Tryd.func11, Tryd.ntmps11
    go_wp2_with (first | (go_at_call 7; refine (PutNum_any _ _ (by omega) (by omega)).mono ?_; rintro e w1 ⟨rfl, hb1⟩; have hz1 := hb1.size) | (go_at_call 26; refine (concat_two _ _ _ (by omega)).mono ?_; rintro e w2 ⟨rfl, hb2⟩))
    go_ret
    exact ⟨ret_str H.out.symm, hb1.trans (hb2.mono hz1)⟩
  · have H := Lib.hid (putTextV_out s h1)
    have h1' : 8000 < s.size := by omega
    clear h1
    go_enter Tryd.func11, Tryd.ntmps11
    go_wp2
    go_ret
    exact ⟨ret_str H.out.symm, Below.refl _ _⟩

set_option maxHeartbeats 400000 in
theorem SpecPutText_any (s : ByteArray) (w : World) (hs : s.size ≤ maxLen) :
    Calls Tryd.prog 12 #[.string s] w fun e w' => e = .returned (.string (putTextV s)) ∧ Below w.heap.size w w' := by
  unfold maxLen at hs
  by_cases h1 : s.size ≤ 8000
  · have H := Lib.hid (putTextV_in s h1)
    have hz := encS_size (s.size : Int)
    go_enter Tryd.func12, Tryd.ntmps12
    go_wp2_with (first | (go_at_call 8; refine (SpecPutNum_any _ _ (by omega) (by omega)).mono ?_; rintro e w1 ⟨rfl, hb1⟩))
    go_ret
    exact ⟨ret_str H.out.symm, hb1⟩
  · have H := Lib.hid (putTextV_out s h1)
    have h1' : 8000 < s.size := by omega
    clear h1
    go_enter Tryd.func12, Tryd.ntmps12
    go_wp2
    go_ret
    exact ⟨ret_str H.out.symm, Below.refl _ _⟩
end Go.Proofs.YtifcplmgdndmhaaDoor
