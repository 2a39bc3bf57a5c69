/- The helpers of the laws: marks laid into a name, and found there again. -/
import Derived.Test.YtadbjpfgjkicaaaMark
namespace Go.Proofs.Ytadbjpfgjkicaaa
open Go.RowKit
attribute [local go_sem ↓] Go.wp_at_zero Go.wp_at_succ

theorem grown_of {a b : World} (h : Below a.heap.size a b) (row : Option Nat) : a.grownBy b row := ⟨h.os, h.tape, h.output, h.size, fun k hk _ => h.block k hk⟩
theorem grown_tr {a b c : World} {r : Option Nat} (h : a.grownBy b r) (g : b.grownBy c r) : a.grownBy c r :=
  ⟨g.os.trans h.os, g.tape.trans h.tape, g.output.trans h.output, Nat.le_trans h.size g.size, fun k hk hne => (g.block k (Nat.lt_of_lt_of_le hk h.size) hne).trans (h.block k hk hne)⟩
theorem block_at {w : World} {g j n : Nat} {C : Array Value} (h : w.heap[g]? = some (.cells C 39 (0, 0))) (hC : C.size = n * 2) (hj : j < n * 2) :
    (∃ x, w.cell? ⟨g, j, none⟩ = some x) ∧ w.frozen? ⟨g, j, none⟩ = false := by
  refine ⟨⟨C[j]'(by omega), ?_⟩, ?_⟩
  · rw [cell_of_row w g _ C 39 (0, 0) h]; exact Array.getElem?_eq_getElem (by omega)
  · simp [World.frozen?, h]
set_option maxRecDepth 100000 in
set_option maxHeartbeats 2000000 in
theorem markRdnS_some (g n cap k : Nat) (w : World) (hn : n ≤ cap) (hm : n ≤ 1048576) (hk1 : 0 < k) (hk2 : k ≤ 1000) (hB : ∃ C : Array Value, w.heap[g]? = some (.cells C 39 (0, 0)) ∧ C.size = cap * 2) :
    Calls Try.prog 49 #[.slice (some ⟨g, 0, none⟩) n cap, .int .i64 k] w fun e w' => e = .returned (.int .i64 ((k + 2 * n : Nat) : Int)) ∧ RowTo w' g cap (marks k n) ∧ w.grownBy w' (some g) := by
  have hg : g < w.heap.size := by obtain ⟨C, h, _⟩ := hB; exact (Array.getElem?_eq_some_iff.1 h).1
  have HB := Lib.hid hB; clear hB
  go_enter Try.func49, Try.ntmps49
  go_wp2
  go_loopw [1, 5] (fun t i wr => ∃ j : Nat, j ≤ n ∧ i = .int .i64 j ∧ t = .int .i64 ((k + 2 * j : Nat) : Int) ∧ RowTo wr g cap (marks k j) ∧ w.grownBy wr (some g)) (fun _ i _ => n - (intOf i).toNat)
  case atStart =>
    obtain ⟨C, h1, h2⟩ := HB.out
    exact ⟨0, Nat.zero_le _, rfl, rfl, ⟨C, h1, h2, by simp [marks, rs]⟩, ⟨rfl, rfl, rfl, Nat.le_refl _, fun _ _ _ => rfl⟩⟩
  case round =>
    obtain ⟨j, hj, rfl, rfl, hR, hG⟩ := hrel
    by_cases hlt : j < n
    · obtain ⟨C, h1, h2, h3⟩ := hR
      rw [marks_len] at h3
      have HC := Lib.hid h1; have H2 := Lib.hid h2; have H3 := Lib.hid h3; have HG := Lib.hid hG
      clear h1 h2 h3 hG
      go_wp2_with fail
      refine (markText_any (k + 2 * j) wr (by omega) (by omega)).mono ?_
      rintro e w2 ⟨rfl, hb2⟩
      have HC2 : Hid (w2.heap[g]? = some (.cells C 39 (0, 0))) := Lib.hid ((hb2.block g (Array.getElem?_eq_some_iff.1 HC.out).1).trans HC.out)
      have HG2 := Lib.hid (grown_tr HG.out (grown_of hb2 _))
      clear hb2
      obtain ⟨⟨x0, c0⟩, f0⟩ := block_at (j := j * 2) HC2.out H2.out (by omega)
      have HM := Lib.hid (fun W => markText_any (k + 2 * j + 1) W (by omega) (by omega))
      rw [show ((k + 2 * j + 1 : Nat) : Int) = (k : Int) + 2 * (j : Int) + 1 by omega] at HM
      have HMk : Hid (marks k (j + 1) = marks k j ++ [(mkT (k + 2 * j), mkT (k + 2 * j + 1))]) := Lib.hid rfl
      generalize mkT (k + 2 * j) = A at *
      generalize mkT (k + 2 * j + 1) = V at *
      go_wp2_with fail
      refine (HM.out _).mono ?_
      rintro e w3 ⟨rfl, hb3⟩
      have HC3 : Hid (w3.heap[g]? = some (.cells (C.setIfInBounds (j * 2) (.string A)) 39 (0, 0))) := Lib.hid (by
        have h := heap_set (j := j * 2) (.string A) HC2.out
        exact (hb3.block g (Array.getElem?_eq_some_iff.1 h).1).trans h)
      have HG3 := Lib.hid (grown_tr (grown_tr HG2.out (grown_set w2 g (j * 2) (.string A))) (grown_of hb3 _))
      clear hb3 c0 f0
      obtain ⟨⟨x1, c1⟩, f1⟩ := block_at (j := j * 2 + 1) HC3.out (by rw [Array.size_setIfInBounds]; exact H2.out) (by omega)
      go_wp2
      go_roundw
      case rel =>
        refine ⟨j + 1, by omega, by go_num, ?_, ⟨_, heap_set _ HC3.out, ?_, ?_⟩, grown_tr HG3.out (grown_set _ _ _ _)⟩
        · rw [show ((k + 2 * (j + 1) : Nat) : Int) = (k : Int) + 2 * (j : Int) + 1 + 1 by omega]
        · rw [Array.size_setIfInBounds, Array.size_setIfInBounds]; exact H2.out
        · rw [marks_len, HMk.out, rs_append]
          exact take_set2 (by rw [H2.out]; omega) H3.out (marks_len k j)
      case measure => simp [intOf]; omega
    · have e : j = n := by omega
      subst e
      have HR := Lib.hid hR; clear hR
      go_wp2
      go_ret
      exact ⟨ret_int' (by omega), HR.out, hG⟩
set_option maxHeartbeats 400000 in
theorem markRdnS_none (ao : Option Addr) (cap k : Nat) (w : World) :
    Calls Try.prog 49 #[.slice ao 0 cap, .int .i64 k] w fun e w' => e = .returned (.int .i64 (k : Int)) ∧ w = w' := by
  go_enter Try.func49, Try.ntmps49
  go_wp2
  go_loop [1, 5] (fun t i => t = .int .i64 k ∧ i = .int .i64 0) (fun _ _ => 0)
  case atStart => exact ⟨rfl, rfl⟩
  case round =>
    obtain ⟨rfl, rfl⟩ := hrel
    go_wp2
    go_ret
    exact ⟨rfl, rfl⟩
/-- a name of the call's own is marked -/
theorem markRdnS_any (v : Value) (d : RdnL) (B k : Nat) (w : World) (hown : w.ownsRow B 39 2 v d.length (rs d)) (hm : d.length ≤ 1048576) (hk1 : 0 < k) (hk2 : k ≤ 1000) :
    Calls Try.prog 49 #[v, .int .i64 k] w fun e w' => e = .returned (.int .i64 ((k + 2 * d.length : Nat) : Int)) ∧ w'.ownsRow B 39 2 v (marks k d.length).length (rs (marks k d.length)) ∧ w.grownBy w' v.ownBlock := by
  by_cases h0 : d.length = 0
  · obtain ⟨ao, cap, rfl⟩ := own_slice hown
    have hd0 : d = [] := List.length_eq_zero_iff.1 h0
    subst hd0
    exact (markRdnS_none ao cap k w).mono fun e w' ⟨he, hw⟩ => by
      subst hw
      exact ⟨he, hown, ⟨rfl, rfl, rfl, Nat.le_refl _, fun _ _ _ => rfl⟩⟩
  · rcases hown.2 with ⟨rfl, hh⟩ | ⟨g, cap, cur, rfl, hb, hh, hc1, hc2, hc3, _⟩
    · omega
    · refine (markRdnS_some g d.length cap k w hc1 hm hk1 hk2 ⟨cur, hh, hc3⟩).mono fun e w' ⟨he, ⟨C, r1, r2, r3⟩, hg⟩ => ⟨he, ?_, hg⟩
      rw [marks_len] at r3 ⊢
      exact ⟨by rw [rs_length, marks_len], .inr ⟨g, cap, C, rfl, hb, r1, hc1, hc2, r2, r3⟩⟩
theorem markText_from (w0 : World) (n : Nat) (w : World) (h0 : 0 < n) (hn : n ≤ 1000000000) (hB : Below w0.heap.size w0 w) :
    Calls Try.prog 77 #[.int .i64 n] w fun e w' => e = .returned (.string (mkT n)) ∧ Below w0.heap.size w0 w' :=
  (markText_any n w h0 hn).mono fun _ _ ⟨he, hb⟩ => ⟨he, hB.trans (hb.mono hB.size)⟩
set_option maxRecDepth 100000 in
set_option maxHeartbeats 2000000 in
theorem heldRdnS_any (ao : Option Addr) (n cap k : Nat) (w : World) (hd : DnAt w ao (marks k n)) (hm : n ≤ 1048576) (hk1 : 0 < k) (hk2 : k ≤ 1000) :
    Calls Try.prog 50 #[.slice ao n cap, .int .i64 k] w fun e w' => e = .returned (.int .i64 ((k + 2 * n : Nat) : Int)) ∧ Below w.heap.size w w' := by
  have HD := Lib.hid hd; clear hd
  go_enter Try.func50, Try.ntmps50
  go_wp2
  go_loopw [1, 5] (fun t i wr => ∃ j : Nat, j ≤ n ∧ i = .int .i64 j ∧ t = .int .i64 ((k + 2 * j : Nat) : Int) ∧ Below w.heap.size w wr) (fun _ i _ => n - (intOf i).toNat)
  case atStart => exact ⟨0, Nat.zero_le _, rfl, rfl, Below.refl _ _⟩
  case round =>
    obtain ⟨j, hj, rfl, rfl, hbel⟩ := hrel
    by_cases hlt : j < n
    · have hl := marks_len k n
      obtain ⟨b, off, rfl, hb0, hd1, hd2⟩ := HD.out.at (k := j) (by omega)
      rw [marks_get k n j hlt] at hd1 hd2
      clear hl
      have HM1 := Lib.hid (fun W h => markText_from w (k + 2 * j) W (by omega) (by omega) h)
      have HM2 := Lib.hid (fun W h => markText_from w (k + 2 * j + 1) W (by omega) (by omega) h)
      rw [show ((k + 2 * j + 1 : Nat) : Int) = (k : Int) + 2 * (j : Int) + 1 by omega] at HM2
      rw [show ((k + 2 * j : Nat) : Int) = (k : Int) + 2 * (j : Int) by omega] at HM1 ⊢
      generalize mkT (k + 2 * j) = A at *
      generalize mkT (k + 2 * j + 1) = V at *
      have SK : Hid (∀ W : World, Below w.heap.size w W → (Below w.heap.size w W ∧ W.cell? ⟨b, off + j * 2, none⟩ = some (.string A) ∧ W.cell? ⟨b, off + j * 2 + 1, none⟩ = some (.string V))) :=
        Lib.hid (fun W h => ⟨h, (h.cell (p := ⟨b, _, none⟩) hb0).trans hd1, (h.cell (p := ⟨b, _, none⟩) hb0).trans hd2⟩)
      clear hd1 hd2
      have g1 : (0 : Int) ≤ (j : Int) := by omega
      have g2 : (j : Int) < (n : Int) := by omega
      have hbd := hbel.drew
      go_wp2_with fail
      go_region_held3 (fun W => Below w.heap.size w W ∧ W.cell? ⟨b, off + j * 2, none⟩ = some (.string A) ∧ W.cell? ⟨b, off + j * 2 + 1, none⟩ = some (.string V))
        (exact SK.out _ (by assumption))
        (first | (go_at_call 77; refine (HM1.out _ (by assumption)).mono ?_; rintro e w2 ⟨rfl, hb2⟩) | (fail "none"))
      have hb2d := hb2.drew
      clear hbel hbd
      go_wp2_with fail
      go_region_held3 (fun W => Below w.heap.size w W ∧ W.cell? ⟨b, off + j * 2, none⟩ = some (.string A) ∧ W.cell? ⟨b, off + j * 2 + 1, none⟩ = some (.string V))
        (exact SK.out _ (by assumption))
        (first | (go_at_call 77; refine (HM2.out _ (by assumption)).mono ?_; rintro e w3 ⟨rfl, hb3⟩) | (fail "none"))
      go_wp2
      go_roundw
      case rel => exact ⟨j + 1, by omega, by go_num, by rw [show ((k + 2 * (j + 1) : Nat) : Int) = (k : Int) + 2 * (j : Int) + 1 + 1 by omega], hb3⟩
      case measure => simp [intOf]; omega
    · have e : j = n := by omega
      subst e
      go_wp2
      go_ret
      exact ⟨ret_int' (by omega), hbel⟩
end Go.Proofs.Ytadbjpfgjkicaaa
