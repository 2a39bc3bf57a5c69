/- Reading names: scanDn of the program. -/
import Derived.Test.YtjajpdghamecoaaScan2
namespace Go.Proofs.Ytjajpdghamecoaa
open Go.RowKit

def strOf : Value → ByteArray
  | .string s => s
  | _ => ByteArray.empty
theorem takeWhile_len (l : List UInt8) : (att l).length ≤ l.length := by unfold att; exact (List.takeWhile_sublist _).length_le
theorem vlu_len (l : List UInt8) : (vlu l).length ≤ l.length := by
  unfold vlu
  rw [List.length_drop]
  have : (l.dropWhile (· != 61)).length ≤ l.length := (List.dropWhile_sublist _).length_le
  omega
theorem toS_size (l : List UInt8) : (toS l).size = l.length := by rw [← size_len, toS_list]
theorem scan_step (s : ByteArray) (h : 0 < s.size) : scanL s.data.toList = [rdn1 (s.data.toList.take (endF false s.data.toList))] ++ scanL (s.data.toList.drop (endF false s.data.toList + 1)) := by
  rw [scanL_cons (by intro e; have := size_len s; rw [e] at this; simp at this; omega)]; rfl
set_option maxRecDepth 100000 in
set_option maxHeartbeats 1000000 in
theorem scanDn_any (t : ByteArray) (w : World) (ht : t.size ≤ 8000) :
    Calls Try.prog 52 #[.string t] w fun e w' => (∃ v, e = .returned v ∧ w'.ownsRow w.heap.size 61 2 v (scanL t.data.toList).length (rs (scanL t.data.toList))) ∧ Below w.heap.size w w' := by
  have hsl := scanL_len t.data.toList
  rw [size_len] at hsl
  go_enter Try.func52, Try.ntmps52
  go_wp2
  go_loopw [0, 3] (fun u v wr => ∃ (s : ByteArray) (pre : RdnL), u = .string s ∧ s.size ≤ 8000 ∧ scanL t.data.toList = pre ++ scanL s.data.toList ∧ wr.ownsRow w.heap.size 61 2 v pre.length (rs pre) ∧ Below w.heap.size w wr) (fun u _ _ => (strOf u).size)
  case atStart => exact ⟨t, [], rfl, ht, rfl, ⟨rfl, .inl ⟨rfl, rfl⟩⟩, Below.refl _ _⟩
  case round =>
    obtain ⟨s, pre, rfl, hs, hS, hown, hbel⟩ := hrel
    have hpl : pre.length ≤ 8000 := by
      have := congrArg List.length hS
      rw [List.length_append] at this; omega
    have HS := Lib.hid hS; clear hS
    have HO := Lib.hid hown; clear hown
    have hsz := hbel.size
    by_cases h0 : 0 < s.size
    · have hle := endF_le false s.data.toList
      rw [size_len] at hle
      have HST := Lib.hid (scan_step s h0)
      have HEn := Lib.hid (fun w => rdnEnd_any s w (by omega))
      generalize hn : endF false s.data.toList = n at *
      clear hn
      have g1 : (0 : Int) ≤ (n : Int) := by omega
      have g2 : (n : Int) ≤ (s.size : Int) := by omega
      go_wp2_with fail
      refine (HEn.out _).mono ?_
      rintro e w1 ⟨rfl, rfl⟩
      have HX := Lib.hid (ext_take s n)
      have hxs : (s.extract 0 n).size ≤ 1048576 := by rw [HX.out, toS_size, List.length_take]; omega
      have HC := Lib.hid (fun w => cut_any (s.extract 0 n) w hxs)
      go_wp2_with fail
      refine (HC.out _).mono ?_
      rintro e w2 ⟨⟨fl, rfl⟩, hb2⟩
      have B2 := Lib.hid (hbel.trans (hb2.mono hsz))
      have HO2 := Lib.hid (own_below HO.out hb2)
      clear hb2
      have HA : Hid ((s.extract 0 n).data.toList = s.data.toList.take n) := Lib.hid (by rw [HX.out, toS_list])
      have ha : (toS (att (s.extract 0 n).data.toList)).size ≤ 1000000 := by
        rw [toS_size]; refine Nat.le_trans (takeWhile_len _) ?_; rw [size_len]; rw [HX.out, toS_size, List.length_take]; omega
      have hv : (toS (vlu (s.extract 0 n).data.toList)).size ≤ 1048576 := by
        rw [toS_size]; refine Nat.le_trans (vlu_len _) ?_; rw [size_len]; exact hxs
      have HR : Hid (rdn1 (s.data.toList.take n) = (toS (att (s.extract 0 n).data.toList), toS (unescF false (toS (vlu (s.extract 0 n).data.toList)).data.toList))) := Lib.hid (by rw [toS_list, HA.out]; rfl)
      generalize toS (att (s.extract 0 n).data.toList) = A at *
      generalize toS (vlu (s.extract 0 n).data.toList) = V at *
      go_wp2_with fail
      refine (concat_one A w2 ha).mono ?_
      rintro e w3 ⟨rfl, hb3⟩
      have B3 := Lib.hid (B2.out.trans (hb3.mono B2.out.size))
      have HO3 := Lib.hid (own_below HO2.out hb3)
      clear hb3
      go_wp2_with fail
      refine (unescapeValue_any V w3 hv).mono ?_
      rintro e w4 ⟨rfl, hb4⟩
      have B4 := Lib.hid (B3.out.trans (hb4.mono B3.out.size))
      have HO4 := Lib.hid (own_below HO3.out hb4)
      clear hb4
      generalize toS (unescF false V.data.toList) = U at *
      have HD : Hid ((s.extract (min ((n : Int) + 1) (s.size : Int)).toNat s.size).data.toList = s.data.toList.drop (n + 1)) := Lib.hid (by
        rw [ext_drop, toS_list]
        by_cases he : n < s.size
        · rw [show (min ((n : Int) + 1) (s.size : Int)).toNat = n + 1 by omega]
        · rw [List.drop_eq_nil_of_le (by rw [size_len]; omega), List.drop_eq_nil_of_le (by rw [size_len]; omega)])
      have HL : Hid ((s.extract (min ((n : Int) + 1) (s.size : Int)).toNat s.size).size < s.size) := Lib.hid (by
        rw [← size_len, HD.out, List.length_drop, size_len]; omega)
      go_wp2_with (first | (at_builtin; refine append_rdn w.heap.size rfl _ _ rfl _ pre rfl HO4.out (A, U) rfl (by omega) B4.out.size B4.out ?_; intro v' w5 hown5 hbel5 hsz5; have HO5 := Lib.hid hown5; clear hown5) | (fail "none"))
      refine ⟨⟨_, pre ++ [(A, U)], rfl, by have := HL.out; omega, ?_, HO5.out, hbel5⟩, HL.out⟩
      rw [HS.out, HST.out, HR.out, HD.out, List.append_assoc]
    · have HE : Hid (scanL t.data.toList = pre) := Lib.hid (by
        rw [HS.out, List.eq_nil_of_length_eq_zero (show s.data.toList.length = 0 by rw [size_len]; omega), scanL_nil, List.append_nil])
      go_wp2
      go_ret
      exact ⟨⟨_, rfl, by rw [HE.out]; exact HO.out⟩, hbel⟩
end Go.Proofs.Ytjajpdghamecoaa
