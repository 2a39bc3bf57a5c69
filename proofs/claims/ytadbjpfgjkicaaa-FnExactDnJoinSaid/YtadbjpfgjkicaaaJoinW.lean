/- The law FnExactDnJoin: its walk. -/
import Derived.Test.YtadbjpfgjkicaaaReadW
namespace Go.Proofs.Ytadbjpfgjkicaaa
open Go.RowKit

theorem joinD_len (r : ByteArray × ByteArray) (p : RdnL) (h : p.length ≤ 1048576) : (joinD r p).length ≤ 1048576 := by
  rcases join_cases r p with ⟨_, _, h⟩ | ⟨_, _, _, h⟩ | ⟨_, _, _, _, h⟩ | ⟨_, _, _, _, h⟩ | ⟨_, _, h6, _, h⟩
  all_goals rw [h]
  all_goals simp
  omega
set_option maxRecDepth 100000 in
set_option maxHeartbeats 4000000 in
theorem DnJoin_walk (A V : ByteArray) (ao : Option Addr) (d : RdnL) (cap : Nat) (w : World) (hA : A.size ≤ maxLen) (hV : V.size ≤ maxLen) (hd : DnAt w ao d) (hf : Long d) :
    Calls Try.prog 15 #[.agg #[.string A, .string V], .slice ao d.length cap] w fun e w' => e = .returned (.bool true) ∧ Below w.heap.size w w' := by
  have HD := Lib.hid hd; clear hd
  go_enter Try.func15, Try.ntmps15
  go_wp2_with fail
  refine calls_world (fun W => Cel W w.heap.size 53 (.string A) (.string V) ∧ Below w.heap.size w W) ⟨Cel.new _ _ _ _, more (Below.refl _ _) _⟩ ?_
  rintro W1 ⟨r1, b1⟩
  have R1 := Lib.hid r1; have B1 := Lib.hid b1; clear r1 b1
  generalize hRb : w.heap.size = Rb
  have HRb := Lib.hid hRb; clear hRb
  refine (szRdn_any A V 1048576 W1 hA hV (by omega) (by omega)).mono ?_
  rintro e w2 ⟨rfl, b2⟩
  have B2 := Lib.hid (B1.out.trans (b2.mono B1.out.size))
  have R2 := Lib.hid (R1.out.below b2)
  clear b2
  by_cases hfit : ((sizeR (A, V) : Nat) : Int) ≤ 1048576
  · rw [leftR_pos hfit]
    have hA2 : A.size ≤ 1048576 := by (have e : sizeR (A, V) = A.size + V.size := rfl); omega
    have hV2 : V.size ≤ 1048576 := by (have e : sizeR (A, V) = A.size + V.size := rfl); omega
    have h0 : ¬ (1048576 : Int) - ((sizeR (A, V) : Nat) : Int) < 0 := by omega
    have h1 : (1048576 : Int) - ((sizeR (A, V) : Nat) : Int) ≤ 1048576 := by omega
    generalize ((sizeR (A, V) : Nat) : Int) = t at *
    go_wp2_with fail
    refine (szRdnS_any ao d cap (1048576 - t) w2 (HD.out.below B2.out) hf (by omega) (by omega)).mono ?_
    rintro e w3 ⟨rfl, b3⟩
    have B3 := Lib.hid (B2.out.trans (b3.mono B2.out.size))
    have R3 := Lib.hid (R2.out.below b3)
    clear b3
    by_cases hfit2 : ((d.length + sizeS d : Nat) : Int) ≤ 1048576 - t
    · rw [leftR_pos hfit2]
      have HF := Lib.hid (fits_of (d := d) (by omega))
      have hl : d.length ≤ 1048576 := by omega
      have h2 : ¬ (1048576 : Int) - t - ((d.length + sizeS d : Nat) : Int) < 0 := by omega
      generalize ((d.length + sizeS d : Nat) : Int) = t2 at *
      have hjl := joinD_len (A, V) d hl
      have HS := Lib.hid (fun ao' cap' W h => SpecDnJoin_any A V (some ao') d cap' W hA2 hV2 (fun h => by cases h) h HF.out)
      have HI := Lib.hid (fun ao' cap' W hc h => DnJoin_any A V ao' d cap' W hA2 hV2 hc h HF.out)
      generalize joinD (A, V) d = D at *
      generalize joinC (A, V) d = c at *
      have hpos : ¬ (1 : Int) + 2 * (d.length : Int) < 0 := by omega
      have hpos2 : ¬ (1 : Int) + 2 * (D.length : Int) < 0 := by omega
      rw [HRb.out] at R3
      clear R1 R2
      have HB : Hid (Rb = w.heap.size) := Lib.hid HRb.out.symm
      obtain ⟨q0, q1⟩ := R3.out.cells
      go_wp2_with fail
      refine (toRdn_any A V _).mono ?_
      rintro e w4 ⟨rfl, b4⟩
      have B4 := Lib.hid (B3.out.trans (b4.mono B3.out.size))
      have R4 := Lib.hid (R3.out.below b4)
      clear b4 q0 q1
      go_wp2_with fail
      refine (toRdnS_any ao d cap w4 (HD.out.below B4.out) hl).mono ?_
      rintro e w5 ⟨rfl, o5, b5⟩
      have B5 := Lib.hid (B4.out.trans (b5.mono B4.out.size))
      have R5 := Lib.hid (R4.out.below b5)
      have D5 := Lib.hid (own_dn o5)
      clear b5 o5
      go_wp2_with fail
      refine (HS.out _ _ _ D5.out).mono ?_
      rintro e w6 ⟨⟨v0, rfl, o6⟩, b6⟩
      obtain ⟨p0, c0, rfl⟩ := own_slice o6
      have B6 := Lib.hid (B5.out.trans (b6.mono B5.out.size))
      have R6 := Lib.hid (R5.out.below b6)
      have V6 := Lib.hid (own_of_copy o6)
      have M6 : Hid (w.heap.size ≤ w5.heap.size) := Lib.hid B5.out.size
      clear b6 o6
      go_wp2_with fail
      refine calls_world (fun W => Cel W w6.heap.size 33 (.slice p0 D.length c0) (.int .i64 c) ∧ Cel W Rb 53 (.string A) (.string V) ∧ Own W w5.heap.size w6.heap.size (.slice p0 D.length c0) D ∧ Below w.heap.size w W)
        ⟨Cel.new _ _ _ _, R6.out.below (more (Below.refl _ _) _), V6.out.below (more (Below.refl _ _) _), more B6.out _⟩ ?_
      rintro W7 ⟨k7, r7, v7, b7⟩
      have C7 := Lib.hid k7; have R7 := Lib.hid r7; have V7 := Lib.hid v7; have B7 := Lib.hid b7; clear k7 r7 v7 b7
      have L67 : Hid (w6.heap.size ≤ W7.heap.size) := Lib.hid (Nat.le_of_lt C7.out.lt)
      generalize w6.heap.size = S6 at *
      refine (toRdnS_any ao d cap W7 (HD.out.below B7.out) hl).mono ?_
      rintro e w8 ⟨rfl, o8, b8⟩
      have B8 := Lib.hid (B7.out.trans (b8.mono B7.out.size))
      have R8 := Lib.hid (R7.out.below b8)
      have C8 := Lib.hid (C7.out.below b8)
      have V8 := Lib.hid (V7.out.below b8)
      have X8 := Lib.hid (own_of_copy o8)
      have M7 : Hid (w.heap.size ≤ W7.heap.size) := Lib.hid B7.out.size
      have L78 := Lib.hid b8.size
      clear b8 o8
      obtain ⟨q0, q1⟩ := R8.out.cells
      go_wp2_with fail
      refine (toRdn_any A V _).mono ?_
      rintro e w9 ⟨rfl, b9⟩
      have B9 := Lib.hid (B8.out.trans (b9.mono B8.out.size))
      have R9 := Lib.hid (R8.out.below b9)
      have C9 := Lib.hid (C8.out.below b9)
      have V9 := Lib.hid (V8.out.below b9)
      have X9 := Lib.hid (X8.out.below b9)
      have L89 := Lib.hid b9.size
      clear b9 q0 q1
      go_wp2_with fail
      refine (HI.out _ _ _ (Nat.le_refl _) X9.out.dn).mono ?_
      rintro e w10 ⟨⟨v1, rfl, o10⟩, b10⟩
      obtain ⟨p1, c1, rfl⟩ := own_slice o10
      have B10 := Lib.hid (B9.out.trans (b10.mono B9.out.size))
      have R10 := Lib.hid (R9.out.below b10)
      have C10 := Lib.hid (C9.out.below b10)
      have V10 := Lib.hid (V9.out.below b10)
      have X10 := Lib.hid (X9.out.below b10)
      have G10 := Lib.hid (own_of_copy o10)
      have M9 : Hid (w.heap.size ≤ w9.heap.size) := Lib.hid B9.out.size
      clear b10 o10
      obtain ⟨q0, q1⟩ := C10.out.cells
      have q0' := (World.cell?_alloc_lt w10 (.cells #[.slice p1 D.length c1, .int .i64 c] 33) ⟨S6, 0, none⟩ C10.out.lt).trans q0
      have q1' := (World.cell?_alloc_lt w10 (.cells #[.slice p1 D.length c1, .int .i64 c] 33) ⟨S6, 1, none⟩ C10.out.lt).trans q1
      go_wp2_with fail
      clear q0 q1 q0' q1'
      refine calls_world (fun W => Cel W w10.heap.size 33 (.slice p1 D.length c1) (.int .i64 c) ∧ Cel W S6 33 (.slice p0 D.length c0) (.int .i64 c) ∧ Cel W Rb 53 (.string A) (.string V) ∧ Own W w5.heap.size S6 (.slice p0 D.length c0) D ∧ Own W W7.heap.size w8.heap.size (.slice (some ⟨W7.heap.size, 0, none⟩) d.length d.length) d ∧ Own W w9.heap.size w10.heap.size (.slice p1 D.length c1) D ∧ Below w.heap.size w W)
        ⟨Cel.new _ _ _ _, C10.out.below (more (Below.refl _ _) _), R10.out.below (more (Below.refl _ _) _), V10.out.below (more (Below.refl _ _) _), X10.out.below (more (Below.refl _ _) _), G10.out.below (more (Below.refl _ _) _), more B10.out _⟩ ?_
      rintro W11 ⟨e11, k11, r11, v11, x11, g11, b11⟩
      have E11 := Lib.hid e11; have C11 := Lib.hid k11; have R11 := Lib.hid r11; have V11 := Lib.hid v11; have X11 := Lib.hid x11; have G11 := Lib.hid g11; have B11 := Lib.hid b11; clear e11 k11 r11 v11 x11 g11 b11
      generalize w10.heap.size = S10 at *
      refine (eqOut_same _ _ D _ _ c _ G11.out.dn V11.out.dn hjl).mono ?_
      rintro e w12 ⟨rfl, b12⟩
      have B12 := Lib.hid (B11.out.trans (b12.mono B11.out.size))
      have R12 := Lib.hid (R11.out.below b12)
      have C12 := Lib.hid (C11.out.below b12)
      have E12 := Lib.hid (E11.out.below b12)
      have V12 := Lib.hid (V11.out.below b12)
      have X12 := Lib.hid (X11.out.below b12)
      have G12 := Lib.hid (G11.out.below b12)
      clear b12
      go_wp2_with fail
      refine (toRdnS_any ao d cap w12 (HD.out.below B12.out) hl).mono ?_
      rintro e w13 ⟨rfl, o13, b13⟩
      have B13 := Lib.hid (B12.out.trans (b13.mono B12.out.size))
      have R13 := Lib.hid (R12.out.below b13)
      have C13 := Lib.hid (C12.out.below b13)
      have E13 := Lib.hid (E12.out.below b13)
      have V13 := Lib.hid (V12.out.below b13)
      have X13 := Lib.hid (X12.out.below b13)
      have G13 := Lib.hid (G12.out.below b13)
      have D13 := Lib.hid (own_dn o13)
      clear b13 o13
      go_wp2_with fail
      refine (eqRdnS_same _ _ d _ _ _ X13.out.dn D13.out hl).mono ?_
      rintro e w14 ⟨rfl, b14⟩
      have B14 := Lib.hid (B13.out.trans (b14.mono B13.out.size))
      have R14 := Lib.hid (R13.out.below b14)
      have C14 := Lib.hid (C13.out.below b14)
      have E14 := Lib.hid (E13.out.below b14)
      have V14 := Lib.hid (V13.out.below b14)
      have X14 := Lib.hid (X13.out.below b14)
      have G14 := Lib.hid (G13.out.below b14)
      clear b14
      go_wp2_with fail
      refine (markDn _ d _ _ 1 _ X14.out hl (by omega) (by omega)).mono ?_
      rintro e w15 ⟨rfl, o15, g15⟩
      have B15 := Lib.hid (below_mark B14.out X14.out g15 B14.out.size M7.out)
      have R15 := Lib.hid (R14.out.far g15 (X14.out.ne_cel R14.out (by decide)))
      have C15 := Lib.hid (C14.out.far g15 (X14.out.ne_cel C14.out (by decide)))
      have E15 := Lib.hid (E14.out.far g15 (X14.out.ne_cel E14.out (by decide)))
      have V15 := Lib.hid (V14.out.far X14.out g15 (.inl L67.out))
      have G15 := Lib.hid (G14.out.far X14.out g15 (.inr L89.out))
      clear o15 g15
      obtain ⟨q0, q1⟩ := C15.out.cells
      obtain ⟨q2, q3⟩ := E15.out.cells
      go_wp2_with fail
      refine (eqOut_same _ _ D _ _ c _ G15.out.dn V15.out.dn hjl).mono ?_
      rintro e w16 ⟨rfl, b16⟩
      have B16 := Lib.hid (B15.out.trans (b16.mono B15.out.size))
      have R16 := Lib.hid (R15.out.below b16)
      have C16 := Lib.hid (C15.out.below b16)
      have E16 := Lib.hid (E15.out.below b16)
      have V16 := Lib.hid (V15.out.below b16)
      have G16 := Lib.hid (G15.out.below b16)
      clear b16 q0 q1 q2 q3
      obtain ⟨q2, q3⟩ := E16.out.cells
      go_wp2_with fail
      refine (markOut p1 D _ c1 _ _ 1 c _ G16.out hjl (by omega) (by omega)).mono ?_
      rintro e w17 ⟨rfl, o17, g17⟩
      have B17 := Lib.hid (below_mark B16.out G16.out g17 B16.out.size M9.out)
      have R17 := Lib.hid (R16.out.far g17 (G16.out.ne_cel R16.out (by decide)))
      have C17 := Lib.hid (C16.out.far g17 (G16.out.ne_cel C16.out (by decide)))
      have E17 := Lib.hid (E16.out.far g17 (G16.out.ne_cel E16.out (by decide)))
      have V17 := Lib.hid (V16.out.far G16.out g17 (.inl (Nat.le_trans L67.out (Nat.le_trans L78.out L89.out))))
      have G17 := Lib.hid o17
      clear o17 g17 q2 q3
      obtain ⟨q2, q3⟩ := E17.out.cells
      go_wp2_with fail
      refine (heldOut p1 D _ c1 _ _ 1 c _ G17.out rfl hjl (by omega) (by omega)).mono ?_
      rintro e w18 ⟨rfl, b18⟩
      have B18 := Lib.hid (B17.out.trans (b18.mono B17.out.size))
      have R18 := Lib.hid (R17.out.below b18)
      have C18 := Lib.hid (C17.out.below b18)
      have E18 := Lib.hid (E17.out.below b18)
      have V18 := Lib.hid (V17.out.below b18)
      have G18 := Lib.hid (G17.out.below b18)
      clear b18 q2 q3
      obtain ⟨q0, q1⟩ := R18.out.cells
      go_wp2_with fail
      refine (toRdn_any A V _).mono ?_
      rintro e w19 ⟨rfl, b19⟩
      have B19 := Lib.hid (B18.out.trans (b19.mono B18.out.size))
      have C19 := Lib.hid (C18.out.below b19)
      have E19 := Lib.hid (E18.out.below b19)
      have V19 := Lib.hid (V18.out.below b19)
      have G19 := Lib.hid (G18.out.below b19)
      clear b19 q0 q1
      go_wp2_with fail
      refine (toRdnS_any ao d cap w19 (HD.out.below B19.out) hl).mono ?_
      rintro e w20 ⟨rfl, o20, b20⟩
      have B20 := Lib.hid (B19.out.trans (b20.mono B19.out.size))
      have C20 := Lib.hid (C19.out.below b20)
      have E20 := Lib.hid (E19.out.below b20)
      have V20 := Lib.hid (V19.out.below b20)
      have G20 := Lib.hid (G19.out.below b20)
      have D20 := Lib.hid (own_dn o20)
      clear b20 o20
      go_wp2_with fail
      refine (HI.out _ _ _ (Nat.le_refl _) D20.out).mono ?_
      rintro e w21 ⟨⟨v2, rfl, o21⟩, b21⟩
      obtain ⟨p2, c2, rfl⟩ := own_slice o21
      have B21 := Lib.hid (B20.out.trans (b21.mono B20.out.size))
      have C21 := Lib.hid (C20.out.below b21)
      have E21 := Lib.hid (E20.out.below b21)
      have V21 := Lib.hid (V20.out.below b21)
      have G21 := Lib.hid (G20.out.below b21)
      have D21 := Lib.hid (own_dn o21)
      clear b21 o21
      obtain ⟨q0, q1⟩ := C21.out.cells
      have q0' := (World.cell?_alloc_lt w21 (.cells #[.slice p2 D.length c2, .int .i64 c] 33) ⟨S6, 0, none⟩ C21.out.lt).trans q0
      have q1' := (World.cell?_alloc_lt w21 (.cells #[.slice p2 D.length c2, .int .i64 c] 33) ⟨S6, 1, none⟩ C21.out.lt).trans q1
      go_wp2_with fail
      clear q0 q1 q0' q1'
      refine calls_world (fun W => Cel W S10 33 (.slice p1 D.length c1) (.int .i64 c) ∧ DnAt W p0 D ∧ DnAt W p2 D ∧ Own W w9.heap.size S10 (.slice p1 D.length c1) (marks 1 D.length) ∧ Below w.heap.size w W)
        ⟨E21.out.below (more (Below.refl _ _) _), V21.out.dn.below (more (Below.refl _ _) _), D21.out.below (more (Below.refl _ _) _), G21.out.below (more (Below.refl _ _) _), more B21.out _⟩ ?_
      rintro W22 ⟨e22, v22, d22, g22, b22⟩
      have E22 := Lib.hid e22; have V22 := Lib.hid v22; have D22 := Lib.hid d22; have G22 := Lib.hid g22; have B22 := Lib.hid b22; clear e22 v22 d22 g22 b22
      refine (eqOut_same _ _ D _ _ c _ D22.out V22.out hjl).mono ?_
      rintro e w23 ⟨rfl, b23⟩
      have B23 := Lib.hid (B22.out.trans (b23.mono B22.out.size))
      have G23 := Lib.hid (G22.out.below b23)
      have E23 := Lib.hid (E22.out.below b23)
      clear b23
      obtain ⟨q0, q1⟩ := E23.out.cells
      go_wp2_with fail
      refine (heldOut p1 D _ c1 _ _ 1 c _ G23.out rfl hjl (by omega) (by omega)).mono ?_
      rintro e w24 ⟨rfl, b24⟩
      have B24 := Lib.hid (B23.out.trans (b24.mono B23.out.size))
      clear b24
      go_wp2
      go_ret
      exact ⟨rfl, B24.out⟩
    · rw [leftR_neg hfit2]
      clear hfit2
      go_wp2
      go_ret
      exact ⟨rfl, B3.out⟩
  · rw [leftR_neg hfit]
    clear hfit
    go_wp2
    go_ret
    exact ⟨rfl, B2.out⟩
end Go.Proofs.Ytadbjpfgjkicaaa
