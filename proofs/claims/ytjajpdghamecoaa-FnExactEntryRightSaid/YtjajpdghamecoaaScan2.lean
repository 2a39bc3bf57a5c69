/- Reading names: scanDn of the program. -/
import Derived.Test.YtjajpdghamecoaaScan
import Derived.Test.YtjajpdghamecoaaJoinR
namespace Go.Proofs.Ytjajpdghamecoaa
open Go.RowKit

def att (l : List UInt8) : List UInt8 := l.takeWhile (· != 61)
def vlu (l : List UInt8) : List UInt8 := (l.dropWhile (· != 61)).drop 1
def CutAt (s : ByteArray) (e : Ending) : Prop := ∃ b : Bool, e = .returned (.tuple #[.string (toS (att s.data.toList)), .string (toS (vlu s.data.toList)), .bool b])
theorem ext_take (s : ByteArray) (k : Nat) : s.extract 0 k = toS (s.data.toList.take k) := by
  apply ByteArray.ext; apply Array.toList_inj.1; rw [extract_list]; simp [toS]
theorem ext_drop (s : ByteArray) (k : Nat) : s.extract k s.size = toS (s.data.toList.drop k) := by
  apply ByteArray.ext; apply Array.toList_inj.1; rw [extract_list, List.take_of_length_le (by simp)]; simp [toS]
theorem below_drewN (w : World) (n : Nat) : Below w.heap.size w (w.drewN n) := ⟨rfl, rfl, rfl, Nat.le_refl _, fun _ _ => rfl⟩
set_option maxHeartbeats 1000000 in
theorem cutIn_any (s : ByteArray) (w : World) (hs : s.size ≤ 1048576) :
    Calls Try.prog 125 #[.string s, .string ⟨#[61]⟩] w fun e w' => CutAt s e ∧ Below w.heap.size w w' := by
  rcases idx s.data.toList with ⟨h1, h2, h3⟩ | ⟨k, hk, h1, h2, h3⟩
  · have HR : Hid (toS (att s.data.toList) = s ∧ toS (vlu s.data.toList) = ByteArray.empty) := Lib.hid ⟨by unfold att; rw [h2, toS_self], by unfold vlu; rw [h3]; rfl⟩
    have HI := Lib.hid (Try.stringslite_Index_one s 61 w)
    rw [h1] at HI
    clear h1 h2 h3
    go_enter Try.func125, Try.ntmps125
    go_wp2_with fail
    refine HI.out.mono ?_
    rintro e w1 ⟨rfl, hw⟩
    subst hw
    go_wp2
    go_ret3
    exact ⟨⟨false, by rw [HR.out.1, HR.out.2]; rfl⟩, Below.refl _ _⟩
  · have hk' : k < s.size := by simpa using hk
    have HR : Hid (toS (att s.data.toList) = s.extract 0 k ∧ toS (vlu s.data.toList) = s.extract (k + 1) s.size) := Lib.hid ⟨by unfold att; rw [← h2, ext_take], by unfold vlu; rw [← h3, List.drop_drop, ext_drop]⟩
    have HI := Lib.hid (Try.stringslite_Index_one s 61 w)
    rw [h1] at HI
    clear h1 h2 h3 hk
    have g1 : (0 : Int) ≤ (k : Int) := by omega
    have g2 : (k : Int) ≤ (s.size : Int) := by omega
    have g3 : (0 : Int) ≤ (k : Int) + 1 := by omega
    have g4 : (k : Int) + 1 ≤ (s.size : Int) := by omega
    have g5 : ((k : Int) + 1).toNat = k + 1 := by omega
    go_enter Try.func125, Try.ntmps125
    go_wp2_with fail
    refine HI.out.mono ?_
    rintro e w1 ⟨rfl, hw⟩
    subst hw
    go_wp2
    have g6 : IntKind.i64.wrap ((k : Int) + 1) = (k : Int) + 1 := IntWalk.i64_in _ (by omega)
    go_quiet (fail)
    go_wp2
    go_ret3
    exact ⟨⟨true, by rw [HR.out.1, HR.out.2]; rfl⟩, below_drewN _ _⟩
set_option maxHeartbeats 400000 in
theorem cut_any (s : ByteArray) (w : World) (hs : s.size ≤ 1048576) :
    Calls Try.prog 95 #[.string s, .string ⟨#[61]⟩] w fun e w' => CutAt s e ∧ Below w.heap.size w w' := by
  go_enter Try.func95, Try.ntmps95
  go_wp2_with fail
  refine (cutIn_any s w hs).mono ?_
  rintro e w1 ⟨⟨b, rfl⟩, hb1⟩
  go_wp2
  go_ret3
  exact ⟨⟨b, rfl⟩, hb1⟩
end Go.Proofs.Ytjajpdghamecoaa
