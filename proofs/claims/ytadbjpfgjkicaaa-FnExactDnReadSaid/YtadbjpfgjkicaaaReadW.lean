/- The law FnExactDnRead: its walk. -/
import Derived.Test.YtadbjpfgjkicaaaHeld
namespace Go.Proofs.Ytadbjpfgjkicaaa
open Go.RowKit

theorem calls_world {P : Program} {f : Nat} {args : Array Value} {w : World} {Q : Ending → World → Prop} (R : World → Prop) (h : R w) (k : ∀ W, R W → Calls P f args W Q) : Calls P f args w Q := k w h
theorem read_len (s : ByteArray) (hm : s.size ≤ 1048576) : (readD s).length ≤ 1048576 := by
  unfold readD
  split
  · have := scanL_len s.data.toList; rw [size_len] at this; omega
  · simp
theorem eqOut_same (p0 p1 : Option Addr) (D : RdnL) (c0 c1 : Nat) (c : Int) (w : World) (h0 : DnAt w p0 D) (h1 : DnAt w p1 D) (hl : D.length ≤ 1048576) :
    Calls Try.prog 46 #[.agg #[.slice p0 D.length c0, .int .i64 c], .agg #[.slice p1 D.length c1, .int .i64 c]] w fun e w' => e = .returned (.bool true) ∧ Below w.heap.size w w' := eqDnOut_same p0 p1 D c0 c1 c w h0 h1 hl
set_option maxRecDepth 100000 in
set_option maxHeartbeats 4000000 in
theorem DnRead_walk (s : ByteArray) (w : World) (hs : s.size ≤ maxLen) :
    Calls Try.prog 10 #[.string s] w fun e w' => e = .returned (.bool true) ∧ Below w.heap.size w w' := by
  have hM := hs
  unfold maxLen at hs
  by_cases hbig : 1048576 < s.size
  · go_enter Try.func10, Try.ntmps10
    go_wp2
    go_ret
    exact ⟨rfl, Below.refl _ _⟩
  · have hl := read_len s (by omega)
    have HS := Lib.hid (fun W => SpecDnRead_any s W hM)
    have HI := Lib.hid (fun W => DnRead_any s W hM)
    generalize readD s = D at *
    generalize readC s = c at *
    have hpos : ¬ (1 : Int) + 2 * (D.length : Int) < 0 := by omega
    go_enter Try.func10, Try.ntmps10
    go_wp2_with fail
    refine (HS.out _).mono ?_
    rintro e w1 ⟨⟨v0, rfl, o1⟩, b1⟩
    obtain ⟨p0, c0, rfl⟩ := own_slice o1
    have B1 := Lib.hid b1
    have V1 := Lib.hid (own_of_copy o1)
    clear o1 b1
    go_wp2_with fail
    refine calls_world (fun W => Cel W w1.heap.size 33 (.slice p0 D.length c0) (.int .i64 c) ∧ Own W w.heap.size w1.heap.size (.slice p0 D.length c0) D ∧ Below w.heap.size w W) ⟨Cel.new _ _ _ _, V1.out.below (more (Below.refl _ _) _), more B1.out _⟩ ?_
    rintro W2 ⟨k2, v2, b2⟩
    have C2 := Lib.hid k2; have V2 := Lib.hid v2; have B2 := Lib.hid b2; clear k2 v2 b2
    generalize w1.heap.size = R0 at *
    refine (HI.out _).mono ?_
    rintro e w3 ⟨⟨v1, rfl, o3⟩, b3⟩
    obtain ⟨p1, c1, rfl⟩ := own_slice o3
    have B3 := Lib.hid (B2.out.trans (b3.mono B2.out.size))
    have V3 := Lib.hid (V2.out.below b3)
    have C3 := Lib.hid (C2.out.below b3)
    have G3 := Lib.hid (own_of_copy o3)
    have L2 : Hid (R0 ≤ W2.heap.size) := Lib.hid (Nat.le_of_lt C2.out.lt)
    have L2' : Hid (w.heap.size ≤ W2.heap.size) := Lib.hid B2.out.size
    clear o3 b3
    obtain ⟨q0, q1⟩ := C3.out.cells
    have q0' := (World.cell?_alloc_lt w3 (.cells #[.slice p1 D.length c1, .int .i64 c] 33) ⟨R0, 0, none⟩ C3.out.lt).trans q0
    have q1' := (World.cell?_alloc_lt w3 (.cells #[.slice p1 D.length c1, .int .i64 c] 33) ⟨R0, 1, none⟩ C3.out.lt).trans q1
    go_wp2_with fail
    clear q0 q1 q0' q1'
    refine calls_world (fun W => Cel W w3.heap.size 33 (.slice p1 D.length c1) (.int .i64 c) ∧ Cel W R0 33 (.slice p0 D.length c0) (.int .i64 c) ∧ Own W w.heap.size R0 (.slice p0 D.length c0) D ∧ Own W W2.heap.size w3.heap.size (.slice p1 D.length c1) D ∧ Below w.heap.size w W)
      ⟨Cel.new _ _ _ _, C3.out.below (more (Below.refl _ _) _), V3.out.below (more (Below.refl _ _) _), G3.out.below (more (Below.refl _ _) _), more B3.out _⟩ ?_
    rintro W4 ⟨e4, k4, v4, g4, b4⟩
    have E4 := Lib.hid e4; have C4 := Lib.hid k4; have V4 := Lib.hid v4; have G4 := Lib.hid g4; have B4 := Lib.hid b4; clear e4 k4 v4 g4 b4
    generalize w3.heap.size = R1 at *
    refine (eqOut_same _ _ D _ _ c _ G4.out.dn V4.out.dn hl).mono ?_
    rintro e w5 ⟨rfl, b5⟩
    have B5 := Lib.hid (B4.out.trans (b5.mono B4.out.size))
    have V5 := Lib.hid (V4.out.below b5)
    have G5 := Lib.hid (G4.out.below b5)
    have C5 := Lib.hid (C4.out.below b5)
    have E5 := Lib.hid (E4.out.below b5)
    clear b5
    obtain ⟨q0, q1⟩ := E5.out.cells
    go_wp2_with fail
    refine (markOut p1 D _ c1 _ _ 1 c _ G5.out hl (by omega) (by omega)).mono ?_
    rintro e w6 ⟨rfl, o6, g6⟩
    have B6 := Lib.hid (below_mark B5.out G5.out g6 B5.out.size L2'.out)
    have V6 := Lib.hid (V5.out.far G5.out g6 (.inl L2.out))
    have C6 := Lib.hid (C5.out.far g6 (G5.out.ne_cel C5.out (by decide)))
    have E6 := Lib.hid (E5.out.far g6 (G5.out.ne_cel E5.out (by decide)))
    have G6 := Lib.hid o6
    clear o6 g6 q0 q1
    obtain ⟨q0, q1⟩ := E6.out.cells
    go_wp2_with fail
    refine (heldOut p1 D _ c1 _ _ 1 c _ G6.out rfl hl (by omega) (by omega)).mono ?_
    rintro e w7 ⟨rfl, b7⟩
    have B7 := Lib.hid (B6.out.trans (b7.mono B6.out.size))
    have V7 := Lib.hid (V6.out.below b7)
    have G7 := Lib.hid (G6.out.below b7)
    have C7 := Lib.hid (C6.out.below b7)
    have E7 := Lib.hid (E6.out.below b7)
    clear b7 q0 q1
    go_wp2_with fail
    refine (HI.out _).mono ?_
    rintro e w8 ⟨⟨v2, rfl, o8⟩, b8⟩
    obtain ⟨p2, c2, rfl⟩ := own_slice o8
    have B8 := Lib.hid (B7.out.trans (b8.mono B7.out.size))
    have V8 := Lib.hid (V7.out.below b8)
    have G8 := Lib.hid (G7.out.below b8)
    have C8 := Lib.hid (C7.out.below b8)
    have E8 := Lib.hid (E7.out.below b8)
    have D8 := Lib.hid (own_dn o8)
    clear o8 b8
    obtain ⟨q0, q1⟩ := C8.out.cells
    have q0' := (World.cell?_alloc_lt w8 (.cells #[.slice p2 D.length c2, .int .i64 c] 33) ⟨R0, 0, none⟩ C8.out.lt).trans q0
    have q1' := (World.cell?_alloc_lt w8 (.cells #[.slice p2 D.length c2, .int .i64 c] 33) ⟨R0, 1, none⟩ C8.out.lt).trans q1
    go_wp2_with fail
    clear q0 q1 q0' q1'
    refine calls_world (fun W => Cel W R1 33 (.slice p1 D.length c1) (.int .i64 c) ∧ DnAt W p0 D ∧ DnAt W p2 D ∧ Own W W2.heap.size R1 (.slice p1 D.length c1) (marks 1 D.length) ∧ Below w.heap.size w W)
      ⟨E8.out.below (more (Below.refl _ _) _), V8.out.dn.below (more (Below.refl _ _) _), D8.out.below (more (Below.refl _ _) _), G8.out.below (more (Below.refl _ _) _), more B8.out _⟩ ?_
    rintro W9 ⟨e9, v9, d9, g9, b9⟩
    have E9 := Lib.hid e9; have V9 := Lib.hid v9; have D9 := Lib.hid d9; have G9 := Lib.hid g9; have B9 := Lib.hid b9; clear e9 v9 d9 g9 b9
    refine (eqOut_same _ _ D _ _ c _ D9.out V9.out hl).mono ?_
    rintro e w10 ⟨rfl, b10⟩
    have B10 := Lib.hid (B9.out.trans (b10.mono B9.out.size))
    have G10 := Lib.hid (G9.out.below b10)
    have E10 := Lib.hid (E9.out.below b10)
    clear b10
    obtain ⟨q0, q1⟩ := E10.out.cells
    go_wp2_with fail
    refine (heldOut p1 D _ c1 _ _ 1 c _ G10.out rfl hl (by omega) (by omega)).mono ?_
    rintro e w11 ⟨rfl, b11⟩
    have B11 := Lib.hid (B10.out.trans (b11.mono B10.out.size))
    clear b11
    go_wp2
    go_ret
    exact ⟨rfl, B11.out⟩
end Go.Proofs.Ytadbjpfgjkicaaa
