/- Merged texts: BerI. -/
import Derived.Test.YtohcdpoffpnfhaaM1
/- BER: BerInt and BerIntRead, on both sides. -/
namespace Go.Proofs.Ytohcdpoffpnfhaa
open Go.RowKit
set_option linter.unusedVariables false

theorem intS_le {n : Int} (hn : -9223372036854775808 ≤ n ∧ n ≤ 9223372036854775807) : (intS n).size ≤ 8 := by
  rw [intS_size]; exact (cntI_is hn.1 hn.2).2.1
set_option maxRecDepth 100000 in
set_option maxHeartbeats 1000000 in
theorem BerInt_any (tg n : Int) (w : World) (ht : -9223372036854775808 ≤ tg ∧ tg ≤ 9223372036854775807) (hn : -9223372036854775808 ≤ n ∧ n ≤ 9223372036854775807) :
    Calls Try.prog 20 #[.int .i64 tg, .int .i64 n] w fun e w' => e = .returned (.string (putV tg (intS n))) ∧ Below w.heap.size w w' := by
  have CB := Lib.hid (fun W => intBody_any n W hn)
  have CP := Lib.hid (fun W => BerPut_any tg (intS n) W ht (by have := intS_le hn; unfold maxLen; omega))
  go_enter Try.func20, Try.ntmps20
  go_wp2_with fail
  refine (CB.out _).mono ?_
  rintro e w1 ⟨rfl, hb1⟩
  go_wp2_with fail
  refine (CP.out _).mono ?_
  rintro e w2 ⟨rfl, hb2⟩
  have BB := Lib.hid (hb1.trans (hb2.mono hb1.size)); clear hb1 hb2
  go_wp2
  go_ret
  exact ⟨rfl, BB.out⟩
set_option maxRecDepth 100000 in
set_option maxHeartbeats 1000000 in
theorem SpecBerInt_any (tg n : Int) (w : World) (ht : -9223372036854775808 ≤ tg ∧ tg ≤ 9223372036854775807) (hn : -9223372036854775808 ≤ n ∧ n ≤ 9223372036854775807) :
    Calls Try.prog 19 #[.int .i64 tg, .int .i64 n] w fun e w' => e = .returned (.string (putV tg (intS n))) ∧ Below w.heap.size w w' := by
  have CB := Lib.hid (fun W => l09Bytes_any n W hn)
  have hz := intS_le hn
  by_cases h : tagOk tg
  · have CP := Lib.hid (fun W => l09Put_any tg (intS n) W h.1 h.2.1 (by omega))
    have HR := Lib.hid (putV_in (body := intS n) h (by omega))
    have HT : Hid (decide (tagOk tg) = true) := Lib.hid (decide_eq_true h)
    clear h hz
    generalize intS n = s at *
    go_enter Try.func19, Try.ntmps19
    go_wp2_with fail
    refine (l09Tag_any tg _).mono ?_
    rintro e w1 ⟨rfl, rfl⟩
    rw [HT.out]
    go_wp2_with fail
    refine (CB.out _).mono ?_
    rintro e w1 ⟨rfl, hb1⟩
    go_wp2_with fail
    refine (CP.out _).mono ?_
    rintro e w2 ⟨rfl, hb2⟩
    have BB := Lib.hid (hb1.trans (hb2.mono hb1.size)); clear hb1 hb2
    go_wp2
    go_ret
    exact ⟨ret_str HR.out.symm, BB.out⟩
  · have HR := Lib.hid (putV_tag (body := intS n) h)
    have HT : Hid (decide (tagOk tg) = false) := Lib.hid (decide_eq_false h)
    clear h hz
    go_enter Try.func19, Try.ntmps19
    go_wp2_with fail
    refine (l09Tag_any tg _).mono ?_
    rintro e w1 ⟨rfl, rfl⟩
    rw [HT.out]
    go_wp2
    go_ret
    exact ⟨ret_str HR.out.symm, Below.refl _ _⟩
def bytN (s : ByteArray) (k : Nat) : Nat := if h : k < s.size then s[k].toNat else 0
theorem bytN_is {s : ByteArray} {k : Nat} (h : k < s.size) : bytN s k = s[k].toNat := by unfold bytN; rw [dif_pos h]
def stepI (n : Int) (b : Nat) : Int := bits .or .i64 (wrap64 (n * 256)) (b : Int)
def rdS (s : ByteArray) : Nat → Int
  | 0 => if bytN s 0 < 128 then 0 else -1
  | k + 1 => stepI (rdS s k) (bytN s k)
theorem stepI_range (n : Int) (b : Nat) : -9223372036854775808 ≤ stepI n b ∧ stepI n b ≤ 9223372036854775807 := by
  unfold stepI
  simp only [bits, IntKind.wrap_i64]
  omega
theorem rdS_range (s : ByteArray) (k : Nat) : -9223372036854775808 ≤ rdS s k ∧ rdS s k ≤ 9223372036854775807 := by
  cases k with
  | zero => unfold rdS; split <;> omega
  | succ k => exact stepI_range _ _
theorem step_first : ∀ b : Fin 256, stepI (if b.val < 128 then 0 else -1) b.val = wrap64 (IntKind.i8.wrap (b.val : Int)) := by decide +kernel
theorem rdS_one (s : ByteArray) (h : 0 < s.size) : wrap64 (IntKind.i8.wrap (s[0].toNat : Int)) = rdS s 1 := by
  have := step_first ⟨s[0].toNat, s[0].toNat_lt⟩
  rw [← this]
  unfold rdS rdS
  rw [bytN_is h]
def rdOk (s : ByteArray) : Bool := (intS (rdS s s.size)).toList == s.toList
def rdV (s : ByteArray) : Int × Int × Int :=
  if 8000 < s.size then (0, 0, 2) else if 1 ≤ s.size ∧ s.size ≤ 8 ∧ rdOk s = true then (rdS s s.size, 0, 0) else (0, 0, 3)
def numAgg (r : Int × Int × Int) : Ending := .returned (.agg #[.int .i64 r.1, .int .i64 r.2.1, .int .i64 r.2.2])
theorem rdV_ok {s : ByteArray} (h1 : 1 ≤ s.size) (h2 : s.size ≤ 8) (h : rdOk s = true) : rdV s = (rdS s s.size, 0, 0) := by unfold rdV; rw [if_neg (by omega), if_pos ⟨h1, h2, h⟩]
theorem rdV_bad {s : ByteArray} (h1 : ¬ 8000 < s.size) (h : ¬ (1 ≤ s.size ∧ s.size ≤ 8 ∧ rdOk s = true)) : rdV s = (0, 0, 3) := by unfold rdV; rw [if_neg h1, if_neg h]
theorem rdV_long {s : ByteArray} (h1 : 8000 < s.size) : rdV s = (0, 0, 2) := by unfold rdV; rw [if_pos h1]
attribute [local go_sem ↓] Go.wp_at_zero Go.wp_at_succ
set_option maxRecDepth 100000 in
set_option maxHeartbeats 2000000 in
theorem BerIntRead_in (s : ByteArray) (w : World) (h0 : 1 ≤ s.size) (h1 : s.size ≤ 8) (q : Bool) (hq : rdOk s = q) :
    Calls Try.prog 22 #[.string s] w fun e w' => e = numAgg (if q then (rdS s s.size, 0, 0) else (0, 0, 3)) ∧ Below w.heap.size w w' := by
  have c0 := s[0].toNat_lt
  have g0 : (0 : Int) < (s.size : Int) := by omega
  have HE : Hid (((intS (rdS s s.size)).toList == s.toList) = q) := Lib.hid hq
  have H1 := Lib.hid (rdS_one s (by omega))
  have HR := Lib.hid (fun k => rdS_range s k)
  clear hq
  go_enter Try.func22, Try.ntmps22
  go_wp2_with fail
  refine wp_world (fun W => Below w.heap.size w W ∧ Blk W w.heap.size [.int .i64 0, .int .i64 0, .int .i64 0]) ⟨more' (Below.refl _ _) _, Blk.new _ _ _⟩ ?_
  rintro W1 ⟨b1, t1⟩
  have T1 := Lib.hid t1; have B1 := Lib.hid b1; clear t1 b1
  rw [H1.out]
  go_loopw [3, 4] (fun n i wr => ∃ k : Nat, 1 ≤ k ∧ k ≤ s.size ∧ i = .int .i64 (k : Int) ∧ n = .int .i64 (rdS s k) ∧ wr = W1) (fun _ i _ => s.size - (intOf i).toNat)
  case atStart => exact ⟨1, Nat.le_refl _, h0, rfl, rfl, rfl⟩
  case round =>
    obtain ⟨k, hk1, hk, rfl, rfl, rfl⟩ := hrel
    by_cases hlt : k < s.size
    · have g1 : (k : Int) < (s.size : Int) := by omega
      have HS : Hid (rdS s (k + 1) = stepI (rdS s k) s[k].toNat) := Lib.hid (by show stepI _ (bytN s k) = _; rw [bytN_is hlt])
      have hr := HR.out k
      have ck := s[k].toNat_lt
      generalize rdS s k = n at *
      go_wp2_with fail
      go_roundw
      case rel => exact ⟨k + 1, by omega, by omega, by go_num, by rw [HS.out]; rfl, trivial⟩
      case measure => simp [intOf]; omega
    · have hke : k = s.size := by omega
      have g1 : ¬ (k : Int) < (s.size : Int) := by omega
      have CB := Lib.hid (fun W => intBody_any (rdS s k) W (HR.out k))
      have HEk : Hid (((intS (rdS s k)).toList == s.toList) = q) := Lib.hid (by rw [hke]; exact HE.out)
      have HQk : Hid (rdS s s.size = rdS s k) := Lib.hid (by rw [hke])
      clear HE H1 HR hke
      generalize rdS s k = n at *
      go_wp2_with fail
      refine (CB.out _).mono ?_
      rintro e w2 ⟨rfl, hb⟩
      have B2 := Lib.hid (B1.out.trans (hb.mono B1.out.size)); have T2 := Lib.hid (T1.out.below hb)
      have hq := HEk.out
      clear CB hb T1 B1
      cases q
      · skip
        have rf0 := T2.out.soft 0; have rz0 := T2.out.cell 0 rfl
        have rf1 := T2.out.soft 1; have rz1 := T2.out.cell 1 rfl
        have rf2 := T2.out.soft 2; have rz2 := T2.out.cell 2 rfl
        have TE := (((T2.out.set 0 (.int .i64 0)).set 1 (.int .i64 0)).set 2 (.int .i64 3))
        have rj0 := TE.cell 0 rfl
        have rj1 := TE.cell 1 rfl
        have rj2 := TE.cell 2 rfl
        clear TE
        have BE := Lib.hid (((B2.out.setCell (p := ⟨w.heap.size, 0, none⟩) (by show w.heap.size ≤ w.heap.size; omega) (.int .i64 0)).setCell (p := ⟨w.heap.size, 1, none⟩) (by show w.heap.size ≤ w.heap.size; omega) (.int .i64 0)).setCell (p := ⟨w.heap.size, 2, none⟩) (by show w.heap.size ≤ w.heap.size; omega) (.int .i64 3))
        go_wp2
        refine bodyPost_ret (v := .agg #[.int .i64 0, .int .i64 0, .int .i64 3]) (by simp [results, Try.results22, go_sem, rj0, rj1, rj2]) rfl ?_
        exact ⟨rfl, BE.out⟩
      · skip
        have rf0 := T2.out.soft 0; have rz0 := T2.out.cell 0 rfl
        have rf1 := T2.out.soft 1; have rz1 := T2.out.cell 1 rfl
        have rf2 := T2.out.soft 2; have rz2 := T2.out.cell 2 rfl
        have TE := (((T2.out.set 0 (.int .i64 n)).set 1 (.int .i64 0)).set 2 (.int .i64 0))
        have rj0 := TE.cell 0 rfl
        have rj1 := TE.cell 1 rfl
        have rj2 := TE.cell 2 rfl
        clear TE
        have BE := Lib.hid (((B2.out.setCell (p := ⟨w.heap.size, 0, none⟩) (by show w.heap.size ≤ w.heap.size; omega) (.int .i64 n)).setCell (p := ⟨w.heap.size, 1, none⟩) (by show w.heap.size ≤ w.heap.size; omega) (.int .i64 0)).setCell (p := ⟨w.heap.size, 2, none⟩) (by show w.heap.size ≤ w.heap.size; omega) (.int .i64 0))
        go_wp2
        refine bodyPost_ret (v := .agg #[.int .i64 n, .int .i64 0, .int .i64 0]) (by simp [results, Try.results22, go_sem, rj0, rj1, rj2]) rfl ?_
        exact ⟨by rw [HQk.out]; rfl, BE.out⟩
set_option maxRecDepth 100000 in
set_option maxHeartbeats 1000000 in
theorem BerIntRead_any (s : ByteArray) (w : World) (hm : s.size ≤ maxLen) :
    Calls Try.prog 22 #[.string s] w fun e w' => e = numAgg (rdV s) ∧ Below w.heap.size w w' := by
  by_cases h : 8000 < s.size
  · have HR := Lib.hid (rdV_long h)
    unfold maxLen at hm
    have h' : (8000 : Int) < (s.size : Int) := by omega
    go_enter Try.func22, Try.ntmps22
    go_wp2
    exact bodyPost_ret (v := .agg #[.int .i64 0, .int .i64 0, .int .i64 2]) (by simp [results, Try.results22, go_sem]) rfl ⟨by rw [HR.out]; rfl, more' (Below.refl _ _) _⟩
  by_cases h0 : 1 ≤ s.size
  · by_cases h1 : s.size ≤ 8
    · cases hq : rdOk s with
      | true => rw [rdV_ok h0 h1 hq]; exact BerIntRead_in s w h0 h1 true hq
      | false => rw [rdV_bad h (fun x => by rw [hq] at x; exact absurd x.2.2 (by decide))]; exact BerIntRead_in s w h0 h1 false hq
    · have HR := Lib.hid (rdV_bad h (fun x => h1 x.2.1))
      have h' : ¬ (8000 : Int) < (s.size : Int) := by omega
      have h2 : ¬ (s.size : Int) < 1 := by omega
      have h3 : (8 : Int) < (s.size : Int) := by omega
      clear h h0 h1
      go_enter Try.func22, Try.ntmps22
      go_wp2
      exact bodyPost_ret (v := .agg #[.int .i64 0, .int .i64 0, .int .i64 3]) (by simp [results, Try.results22, go_sem]) rfl ⟨by rw [HR.out]; rfl, more' (Below.refl _ _) _⟩
  · have HR := Lib.hid (rdV_bad h (fun x => h0 x.1))
    have h' : ¬ (8000 : Int) < (s.size : Int) := by omega
    have h2 : (s.size : Int) < 1 := by omega
    clear h h0
    go_enter Try.func22, Try.ntmps22
    go_wp2
    exact bodyPost_ret (v := .agg #[.int .i64 0, .int .i64 0, .int .i64 3]) (by simp [results, Try.results22, go_sem]) rfl ⟨by rw [HR.out]; rfl, more' (Below.refl _ _) _⟩
set_option maxRecDepth 100000 in
set_option maxHeartbeats 2000000 in
theorem l09Int_in (s : ByteArray) (w : World) (h0 : 1 ≤ s.size) (h1 : s.size ≤ 8) (q : Bool) (hq : rdOk s = q) :
    Calls Try.prog 45 #[.string s] w fun e w' => e = .returned (.tuple #[.int .i64 (rdS s s.size), .bool q]) ∧ Below w.heap.size w w' := by
  have c0 := s[0].toNat_lt
  have g0 : (0 : Int) < (s.size : Int) := by omega
  have HE : Hid (((intS (rdS s s.size)).toList == s.toList) = q) := Lib.hid hq
  have HR := Lib.hid (fun k => rdS_range s k)
  clear hq
  by_cases hb : s[0].toNat < 128
  · have H1 : Hid (rdS s 0 = 0) := Lib.hid (by unfold rdS; rw [bytN_is (by omega), if_pos hb])
    have hb' : ¬ (128 : Int) ≤ (s[0].toNat : Int) := by omega
    go_enter Try.func45, Try.ntmps45
    go_wp2_with fail
    go_loopw [4, 5] (fun n i wr => ∃ k : Nat, k ≤ s.size ∧ i = .int .i64 (k : Int) ∧ n = .int .i64 (rdS s k) ∧ wr = w) (fun _ i _ => s.size - (intOf i).toNat)
    case atStart => exact ⟨0, Nat.zero_le _, rfl, by rw [H1.out], rfl⟩
    case round =>
      obtain ⟨k, hk, rfl, rfl, rfl⟩ := hrel
      by_cases hlt : k < s.size
      · have g1 : (k : Int) < (s.size : Int) := by omega
        have HS : Hid (rdS s (k + 1) = stepI (rdS s k) s[k].toNat) := Lib.hid (by show stepI _ (bytN s k) = _; rw [bytN_is hlt])
        have hr := HR.out k
        have ck := s[k].toNat_lt
        generalize rdS s k = n at *
        go_wp2_with fail
        go_roundw
        case rel => exact ⟨k + 1, by omega, by go_num, by rw [HS.out]; rfl, trivial⟩
        case measure => simp [intOf]; omega
      · have hke : k = s.size := by omega
        have g1 : ¬ (k : Int) < (s.size : Int) := by omega
        have CB := Lib.hid (fun W => l09Bytes_any (rdS s k) W (HR.out k))
        have HEk : Hid (((intS (rdS s k)).toList == s.toList) = q) := Lib.hid (by rw [hke]; exact HE.out)
        have HQk : Hid (rdS s s.size = rdS s k) := Lib.hid (by rw [hke])
        clear HE H1 HR hke
        generalize rdS s k = n at *
        go_wp2_with fail
        refine (CB.out _).mono ?_
        rintro e w2 ⟨rfl, hb2⟩
        have hq := HEk.out
        clear CB
        go_wp2
        go_ret2
        exact ⟨by rw [HQk.out]; rfl, hb2⟩
  · have H1 : Hid (rdS s 0 = -1) := Lib.hid (by unfold rdS; rw [bytN_is (by omega), if_neg hb])
    have hb' : (128 : Int) ≤ (s[0].toNat : Int) := by omega
    go_enter Try.func45, Try.ntmps45
    go_wp2_with fail
    go_loopw [4, 5] (fun n i wr => ∃ k : Nat, k ≤ s.size ∧ i = .int .i64 (k : Int) ∧ n = .int .i64 (rdS s k) ∧ wr = w) (fun _ i _ => s.size - (intOf i).toNat)
    case atStart => exact ⟨0, Nat.zero_le _, rfl, by rw [H1.out], rfl⟩
    case round =>
      obtain ⟨k, hk, rfl, rfl, rfl⟩ := hrel
      by_cases hlt : k < s.size
      · have g1 : (k : Int) < (s.size : Int) := by omega
        have HS : Hid (rdS s (k + 1) = stepI (rdS s k) s[k].toNat) := Lib.hid (by show stepI _ (bytN s k) = _; rw [bytN_is hlt])
        have hr := HR.out k
        have ck := s[k].toNat_lt
        generalize rdS s k = n at *
        go_wp2_with fail
        go_roundw
        case rel => exact ⟨k + 1, by omega, by go_num, by rw [HS.out]; rfl, trivial⟩
        case measure => simp [intOf]; omega
      · have hke : k = s.size := by omega
        have g1 : ¬ (k : Int) < (s.size : Int) := by omega
        have CB := Lib.hid (fun W => l09Bytes_any (rdS s k) W (HR.out k))
        have HEk : Hid (((intS (rdS s k)).toList == s.toList) = q) := Lib.hid (by rw [hke]; exact HE.out)
        have HQk : Hid (rdS s s.size = rdS s k) := Lib.hid (by rw [hke])
        clear HE H1 HR hke
        generalize rdS s k = n at *
        go_wp2_with fail
        refine (CB.out _).mono ?_
        rintro e w2 ⟨rfl, hb2⟩
        have hq := HEk.out
        clear CB
        go_wp2
        go_ret2
        exact ⟨by rw [HQk.out]; rfl, hb2⟩
set_option maxRecDepth 100000 in
set_option maxHeartbeats 1000000 in
theorem l09Int_out (s : ByteArray) (w : World) (hm : s.size ≤ 8000) (h : ¬ (1 ≤ s.size ∧ s.size ≤ 8)) :
    Calls Try.prog 45 #[.string s] w fun e w' => e = .returned (.tuple #[.int .i64 0, .bool false]) ∧ Below w.heap.size w w' := by
  by_cases h2 : s.size < 1
  · have h2' : (s.size : Int) < 1 := by omega
    go_enter Try.func45, Try.ntmps45
    go_wp2
    go_ret2
    exact ⟨rfl, Below.refl _ _⟩
  · have h2' : ¬ (s.size : Int) < 1 := by omega
    have h3' : (8 : Int) < (s.size : Int) := by omega
    go_enter Try.func45, Try.ntmps45
    go_wp2
    go_ret2
    exact ⟨rfl, Below.refl _ _⟩
set_option maxRecDepth 100000 in
set_option maxHeartbeats 1000000 in
theorem SpecBerIntRead_any (s : ByteArray) (w : World) (hm : s.size ≤ maxLen) :
    Calls Try.prog 21 #[.string s] w fun e w' => e = numAgg (rdV s) ∧ Below w.heap.size w w' := by
  by_cases h : 8000 < s.size
  · have HR := Lib.hid (rdV_long h)
    unfold maxLen at hm
    have h' : (8000 : Int) < (s.size : Int) := by omega
    go_enter Try.func21, Try.ntmps21
    go_wp2
    exact bodyPost_ret (v := .agg #[.int .i64 0, .int .i64 0, .int .i64 2]) (by simp [results, Try.results21, go_sem]) rfl ⟨by rw [HR.out]; rfl, more' (Below.refl _ _) _⟩
  have h' : ¬ (8000 : Int) < (s.size : Int) := by omega
  obtain ⟨n, q, hr, CI⟩ : ∃ (n : Int) (q : Bool), Hid (numAgg (rdV s) = numAgg (if q then (n, 0, 0) else (0, 0, 3))) ∧ Hid (∀ W : World, Calls Try.prog 45 #[.string s] W fun e w' => e = .returned (.tuple #[.int .i64 n, .bool q]) ∧ Below W.heap.size W w') := by
    by_cases hi : 1 ≤ s.size ∧ s.size ≤ 8
    · cases hq : rdOk s with
      | true => exact ⟨rdS s s.size, true, Lib.hid (by rw [rdV_ok hi.1 hi.2 hq]; rfl), Lib.hid (fun W => l09Int_in s W hi.1 hi.2 true hq)⟩
      | false => exact ⟨rdS s s.size, false, Lib.hid (by rw [rdV_bad h (fun x => by rw [hq] at x; exact absurd x.2.2 (by decide))]; rfl), Lib.hid (fun W => l09Int_in s W hi.1 hi.2 false hq)⟩
    · exact ⟨0, false, Lib.hid (by rw [rdV_bad h (fun x => hi ⟨x.1, x.2.1⟩)]; rfl), Lib.hid (fun W => l09Int_out s W (by omega) hi)⟩
  clear h
  go_enter Try.func21, Try.ntmps21
  go_wp2_with fail
  refine calls_by (fun W => Below w.heap.size w W ∧ Blk W w.heap.size [.int .i64 0, .int .i64 0, .int .i64 0]) ⟨more' (Below.refl _ _) _, Blk.new _ _ _⟩ ?_
  rintro W1 ⟨b1, t1⟩
  have T1 := Lib.hid t1; clear t1
  refine (CI.out W1).mono ?_
  rintro e w2 ⟨rfl, hb⟩
  have B2 := Lib.hid (b1.trans (hb.mono b1.size)); have T2 := Lib.hid (T1.out.below hb)
  clear b1 hb T1 CI
  cases q
  · skip
    have rf0 := T2.out.soft 0; have rz0 := T2.out.cell 0 rfl
    have rf1 := T2.out.soft 1; have rz1 := T2.out.cell 1 rfl
    have rf2 := T2.out.soft 2; have rz2 := T2.out.cell 2 rfl
    have TE := (((T2.out.set 0 (.int .i64 0)).set 1 (.int .i64 0)).set 2 (.int .i64 3))
    have rj0 := TE.cell 0 rfl
    have rj1 := TE.cell 1 rfl
    have rj2 := TE.cell 2 rfl
    clear TE
    have BE := Lib.hid (((B2.out.setCell (p := ⟨w.heap.size, 0, none⟩) (by show w.heap.size ≤ w.heap.size; omega) (.int .i64 0)).setCell (p := ⟨w.heap.size, 1, none⟩) (by show w.heap.size ≤ w.heap.size; omega) (.int .i64 0)).setCell (p := ⟨w.heap.size, 2, none⟩) (by show w.heap.size ≤ w.heap.size; omega) (.int .i64 3))
    go_wp2
    refine bodyPost_ret (v := .agg #[.int .i64 0, .int .i64 0, .int .i64 3]) (by simp [results, Try.results21, go_sem, rj0, rj1, rj2]) rfl ?_
    exact ⟨hr.out.symm, BE.out⟩
  · skip
    have rf0 := T2.out.soft 0; have rz0 := T2.out.cell 0 rfl
    have rf1 := T2.out.soft 1; have rz1 := T2.out.cell 1 rfl
    have rf2 := T2.out.soft 2; have rz2 := T2.out.cell 2 rfl
    have TE := (((T2.out.set 0 (.int .i64 n)).set 1 (.int .i64 0)).set 2 (.int .i64 0))
    have rj0 := TE.cell 0 rfl
    have rj1 := TE.cell 1 rfl
    have rj2 := TE.cell 2 rfl
    clear TE
    have BE := Lib.hid (((B2.out.setCell (p := ⟨w.heap.size, 0, none⟩) (by show w.heap.size ≤ w.heap.size; omega) (.int .i64 n)).setCell (p := ⟨w.heap.size, 1, none⟩) (by show w.heap.size ≤ w.heap.size; omega) (.int .i64 0)).setCell (p := ⟨w.heap.size, 2, none⟩) (by show w.heap.size ≤ w.heap.size; omega) (.int .i64 0))
    go_wp2
    refine bodyPost_ret (v := .agg #[.int .i64 n, .int .i64 0, .int .i64 0]) (by simp [results, Try.results21, go_sem, rj0, rj1, rj2]) rfl ?_
    exact ⟨hr.out.symm, BE.out⟩
end Go.Proofs.Ytohcdpoffpnfhaa
