/- The law FnNums: its walk. -/
import Derived.Test.YtifcplmgdndmhaaDoorDraw
import Derived.Test.YtifcplmgdndmhaaDoorNumsMath
namespace Go.Proofs.YtifcplmgdndmhaaDoor
open Go.RowKit

theorem Handle.grown {w w' : World} (h : Handle w) (hg : w.grownBy w' none) : Handle w' := h.below (below_of_grown hg)
theorem field26 (a b c : Int) (w : World) : (Instr.field 26 (.agg #[.int .i64 a, .int .i64 b, .int .i64 c]) 2).run Tryd.prog w = .ok (.int .i64 c) w := by kernel_rfl
theorem field31 (t : ByteArray) (b c : Int) (w : World) : (Instr.field 31 (.agg #[.string t, .int .i64 b, .int .i64 c]) 2).run Tryd.prog w = .ok (.int .i64 c) w := by kernel_rfl

/-- the number is got back from the middle of a text -/
theorem got_mid (n : Int) (w : World) (h0 : -9223372036854775808 ≤ n) (h1 : n ≤ 9223372036854775807) (hg : Handle w) :
    Calls Tryd.prog 9 #[.string ({ data := #[120, 121] } ++ encS n ++ { data := #[122] }), .int .i64 2] w fun r w' => r = .returned (.agg #[.int .i64 n, .int .i64 (((encS n).size : Int) + 2), .int .i64 0]) ∧ Below w.heap.size w w' := by
  have hsz := encS_size n
  have hz : (({ data := #[120, 121] } : ByteArray) ++ encS n ++ { data := #[122] }).size ≤ 8000 := by
    have : (({ data := #[120, 121] } : ByteArray) ++ encS n ++ { data := #[122] }).size = 2 + (encS n).size + 1 := by simp; rfl
    omega
  obtain ⟨a, b, c⟩ := num_got (({ data := #[120, 121] } : ByteArray) ++ encS n ++ { data := #[122] }) [120, 121] [122] n h0 h1 (by simp [encS_data]) hz 2 rfl
  have h := GetNum_any (({ data := #[120, 121] } : ByteArray) ++ encS n ++ { data := #[122] }) 2 w hg (by unfold maxLen; omega) (by decide)
  rw [a, b, c, ← encS_len] at h
  have e : (2 : Int) + ((encS n).size : Nat) = ((encS n).size : Int) + 2 := by omega
  rw [e] at h
  exact h
/-- without its last byte it is too short -/
theorem got_cut (n : Int) (w : World) (hg : Handle w) :
    Calls Tryd.prog 9 #[.string ((encS n).extract 0 ((encS n).size - 1)), .int .i64 0] w fun r w' => (∃ a b : Int, r = .returned (.agg #[.int .i64 a, .int .i64 b, .int .i64 4])) ∧ Below w.heap.size w w' := by
  have hsz := encS_size n
  have c := num_cut ((encS n).extract 0 ((encS n).size - 1)) n (by rw [Lib.extract_data, encS_data, encS_len]; simp)
  have h := GetNum_any ((encS n).extract 0 ((encS n).size - 1)) 0 w hg (by unfold maxLen; simp; omega) (by decide)
  rw [c] at h
  exact h.mono fun e w' ⟨he, hb⟩ => ⟨⟨_, _, he⟩, hb⟩
theorem text_mid (u : ByteArray) (w : World) (h : u.size ≤ 8000) (hp : (putTextV u).size + 1 ≤ 8000) (hg : Handle w) :
    Calls Tryd.prog 13 #[.string ({ data := #[120] } ++ putTextV u), .int .i64 1] w fun r w' => r = .returned (.agg #[.string u, .int .i64 (((putTextV u).size : Int) + 1), .int .i64 0]) ∧ Below w.heap.size w w' := by
  have hz : (({ data := #[120] } : ByteArray) ++ putTextV u).size ≤ 8000 := by
    have : (({ data := #[120] } : ByteArray) ++ putTextV u).size = 1 + (putTextV u).size := by simp; rfl
    omega
  obtain ⟨a, b, c⟩ := txt_got u (({ data := #[120] } : ByteArray) ++ putTextV u) h 120 (by simp) hz
  have h2 := GetText_any (({ data := #[120] } : ByteArray) ++ putTextV u) 1 w hg (by unfold maxLen; omega) (by decide)
  rw [a, b, c] at h2
  exact h2
theorem text_cut (u : ByteArray) (w : World) (h : u.size ≤ 8000) (hp : (putTextV u).size ≤ 8000) (hg : Handle w) :
    Calls Tryd.prog 13 #[.string ((putTextV u).extract 0 ((putTextV u).size - 1)), .int .i64 0] w fun r w' => (∃ (a : ByteArray) (b : Int), r = .returned (.agg #[.string a, .int .i64 b, .int .i64 4])) ∧ Below w.heap.size w w' := by
  have c := txt_cut u ((putTextV u).extract 0 ((putTextV u).size - 1)) h hp (by rw [Lib.extract_data]; simp)
  have h2 := GetText_any ((putTextV u).extract 0 ((putTextV u).size - 1)) 0 w hg (by unfold maxLen; simp; omega) (by decide)
  rw [c] at h2
  exact h2.mono fun e w' ⟨he, hb⟩ => ⟨⟨_, _, he⟩, hb⟩

set_option maxRecDepth 100000 in
set_option maxHeartbeats 4000000 in
theorem FnNums_walk (a0 a1 : Option Addr) (len0 cap0 len1 cap1 : Nat) (w : World) (hH : Handle w) (hR0 : Row w w.heap.size a0 len0) (hR1 : Row w w.heap.size a1 len1) (hl0 : len0 ≤ 1048576) (hl1 : len1 ≤ 1048576) :
    Calls Tryd.prog 3 #[.slice a0 len0 cap0, .slice a1 len1 cap1] w fun e w' => e = .returned (.bool true) ∧ Below w.heap.size w w' := by
  have R0 := Lib.hid hR0; have R1 := Lib.hid hR1; have H0 := Lib.hid hH; clear hR0 hR1 hH
  go_enter Tryd.func3, Tryd.ntmps3
  go_wp2_with fail
  refine (DrawPutNum_any a0 len0 cap0 w R0.out hl0).mono ?_
  rintro e w1 ⟨⟨n, rfl, hn0, hn1⟩, hg1⟩
  have G1 := Lib.hid hg1; clear hg1
  go_wp2_with fail
  refine (PutNum_any n w1 hn0 hn1).mono ?_
  rintro e w2 ⟨rfl, hb2⟩
  have G2 := Lib.hid (grown_trans G1.out (grown_of_below hb2)); clear hb2
  go_wp2_with fail
  refine (SpecPutNum_any n w2 hn0 hn1).mono ?_
  rintro e w3 ⟨rfl, hb3⟩
  have G3 := Lib.hid (grown_trans G2.out (grown_of_below hb3)); clear hb3
  have hE1 : 1 ≤ (encS n).size := by rw [encS_len]; exact enc_pos _
  have hE2 : (encS n).size ≤ 10 := encS_size n
  go_wp2_with fail
  refine (got_mid n w3 hn0 hn1 (H0.out.grown G3.out)).mono ?_
  rintro e w4 ⟨rfl, hb4⟩
  have G4 := Lib.hid (grown_trans G3.out (grown_of_below hb4)); clear hb4
  go_wp2_with fail
  refine (got_cut n _ ((H0.out.grown G4.out).alloc _)).mono ?_
  rintro e w5 ⟨⟨x, y, rfl⟩, hb5⟩
  have G5 := Lib.hid (grown_trans G4.out (grown_of_below (below_past hb5 rfl rfl rfl rfl))); clear hb5
  have hf5 := field26 x y 4 w5
  go_wp2_with fail
  refine (DrawPutText_any a1 len1 cap1 w5 (R1.out.on G5.out) hl1).mono ?_
  rintro e w6 ⟨⟨u, rfl, hu⟩, hg6⟩
  have G6 := Lib.hid (grown_trans G5.out hg6); clear hg6 hf5
  have huM : u.size ≤ maxLen := by unfold maxLen; omega
  go_wp2_with fail
  refine (PutText_any u w6 huM).mono ?_
  rintro e w7 ⟨rfl, hb7⟩
  have G7 := Lib.hid (grown_trans G6.out (grown_of_below hb7)); clear hb7
  go_wp2_with fail
  refine (SpecPutText_any u w7 huM).mono ?_
  rintro e w8 ⟨rfl, hb8⟩
  have G8 := Lib.hid (grown_trans G7.out (grown_of_below hb8)); clear hb8
  by_cases hul : u.size ≤ 8000
  · have hps := putText_size u hul
    have hp1 : 1 ≤ (putTextV u).size := by rw [hps]; have := enc_pos (foldN (u.size : Int)); omega
    have hp2 : (putTextV u).size ≤ 8010 := by rw [hps]; have := (enc_len (foldN (u.size : Int))).2; omega
    have hne : (putTextV u).toList.isEmpty = false := by
      rw [Lib.toList_data, List.isEmpty_eq_false_iff]
      intro h
      have := congrArg List.length h
      rw [size_len, List.length_nil] at this
      omega
    clear hps
    by_cases hbig : 8000 < (putTextV u).size + 1
    · have hbig' : (8000 : Int) < ((putTextV u).size : Int) + 1 := by omega
      go_wp2
      go_ret
      exact ⟨rfl, below_of_grown G8.out⟩
    · have hbig' : ((putTextV u).size : Int) + 1 ≤ 8000 := by omega
      go_wp2_with fail
      refine (text_mid u w8 hul (by omega) (H0.out.grown G8.out)).mono ?_
      rintro e w9 ⟨rfl, hb9⟩
      have G9 := Lib.hid (grown_trans G8.out (grown_of_below hb9)); clear hb9
      go_wp2_with fail
      refine (text_cut u w9 hul (by omega) (H0.out.grown G9.out)).mono ?_
      rintro e w10 ⟨⟨x2, y2, rfl⟩, hb10⟩
      have G10 := Lib.hid (grown_trans G9.out (grown_of_below hb10)); clear hb10
      have hf10 := field31 x2 y2 4 w10
      go_wp2
      go_ret
      exact ⟨rfl, below_of_grown G10.out⟩
  · have hpe : putTextV u = ByteArray.empty := putTextV_out u hul
    rw [hpe]
    have HP := Lib.hid hpe; clear hpe
    go_wp2_with fail
    refine (SpecPutText_any u w8 huM).mono ?_
    rintro e w9 ⟨rfl, hb9⟩
    have G9 := Lib.hid (grown_trans G8.out (grown_of_below hb9)); clear hb9
    rw [HP.out]
    go_wp2
    go_ret
    exact ⟨rfl, below_of_grown G9.out⟩
end Go.Proofs.YtifcplmgdndmhaaDoor
