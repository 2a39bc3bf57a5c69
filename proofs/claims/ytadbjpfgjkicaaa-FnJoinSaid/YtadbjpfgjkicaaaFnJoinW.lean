/- The law FnJoin: its walk. -/
import Derived.Test.YtadbjpfgjkicaaaDraw5
import Derived.Test.YtadbjpfgjkicaaaLw
import Derived.Test.YtadbjpfgjkicaaaJoinD2
namespace Go.Proofs.Ytadbjpfgjkicaaa
open Go.RowKit

theorem Short.fits {d : RdnL} (h : Short d) (hl : d.length ≤ 7) : Fits d := ⟨by omega, fun r hr => ⟨by have := (h r hr).1; omega, by have := (h r hr).2; omega⟩⟩
theorem own_nilcap {w : World} {B e z n m cap : Nat} {xs : List Value} (h : w.ownsRow B e z (.slice none m cap) n xs) : cap = 0 := by
  rcases h.2 with ⟨h, _⟩ | ⟨_, _, _, h, _⟩
  · injection h
  · injection h with h; cases h

theorem PairAt.below {w w' : World} {R : Nat} {A V : ByteArray} (h : PairAt w R A V) (hb : Below w.heap.size w w') : PairAt w' R A V := (hb.block R h.lt).trans h
/-- an outcome lies in block R -/
def OutAt (w : World) (R : Nat) (v : Value) (c : Int) : Prop := w.heap[R]? = some (.cells #[v, .int .i64 c] 33)
theorem OutAt.lt {w : World} {R : Nat} {v : Value} {c : Int} (h : OutAt w R v c) : R < w.heap.size := (Array.getElem?_eq_some_iff.1 h).1
theorem OutAt.below {w w' : World} {R : Nat} {v : Value} {c : Int} (h : OutAt w R v c) (hb : Below w.heap.size w w') : OutAt w' R v c := (hb.block R h.lt).trans h
theorem OutAt.cells {w : World} {R : Nat} {v : Value} {c : Int} (h : OutAt w R v c) : w.cell? ⟨R, 0, none⟩ = some v ∧ w.cell? ⟨R, 1, none⟩ = some (.int .i64 c) := by
  constructor <;> (unfold World.cell?; rw [h]; rfl)
theorem field33a (v : Value) (c : Int) (w : World) : (Instr.field 33 (.agg #[v, .int .i64 c]) 0).run Try.prog w = .ok v w := by kernel_rfl
theorem field33b (v : Value) (c : Int) (w : World) : (Instr.field 33 (.agg #[v, .int .i64 c]) 1).run Try.prog w = .ok (.int .i64 c) w := by kernel_rfl
theorem lw_from (w0 : World) (ao bo : Option Addr) (d : RdnL) (ca cb : Nat) (w : World) (hda : DnAt w ao d) (hdb : DnAt w bo d) (hb : Below w0.heap.size w0 w) (hl : d.length ≤ 1048576) :
    Calls Try.prog 25 #[.slice ao d.length ca, .slice bo d.length cb] w fun e w' => e = .returned (.bool true) ∧ Below w0.heap.size w0 w' :=
  (lwDn_same ao bo d ca cb w hda hdb hl).mono fun _ _ h => ⟨h.1, hb.trans (h.2.mono hb.size)⟩
theorem join_good (r : ByteArray × ByteArray) (p : RdnL) : joinC r p ≠ 0 ∨ (joinC r p = 0 ∧ parentL (joinD r p) = p ∧ underB (joinD r p) p = true ∧ (joinD r p).length = p.length + 1) := by
  rcases join_cases r p with ⟨_, h, _⟩ | ⟨_, _, h, _⟩ | ⟨_, _, _, h, _⟩ | ⟨_, _, _, h, _⟩ | ⟨h1, h2, h3, h4, h5⟩
  · left; rw [h]; decide
  · left; rw [h]; decide
  · left; rw [h]; decide
  · left; rw [h]; decide
  · right
    have hd : dnB (r :: p) = true := by
      unfold dnB at h1 ⊢
      simp at h1 ⊢
      exact ⟨by omega, h2, h1.2⟩
    refine ⟨h4, ?_, ?_, ?_⟩
    · rw [h5]; unfold parentL; rw [if_pos hd]; rfl
    · rw [h5]; unfold underB; rw [hd, h1]
      have e : (r :: p).length - p.length = 1 := by simp
      rw [e]
      simp [sameB]
    · rw [h5]; rfl
/-- an outcome whose name lies behind its slice -/
def OutDn (w0 : World) (d : RdnL) (c : Int) (e : Ending) (w' : World) : Prop := (∃ vo vc, e = .returned (.agg #[.slice vo d.length vc, .int .i64 c]) ∧ DnAt w' vo d) ∧ Below w0.heap.size w0 w'
theorem GivesOut.dn {w0 w : World} {d : RdnL} {c : Int} {e : Ending} {w' : World} (h : GivesOut w d c e w') (hb : Below w0.heap.size w0 w) : OutDn w0 d c e w' := by
  obtain ⟨⟨v, h1, h2⟩, h3⟩ := h
  obtain ⟨vo, vc, rfl⟩ := own_slice h2
  exact ⟨⟨vo, vc, h1, own_dn h2⟩, hb.trans (h3.mono hb.size)⟩
def OneDn (w0 w : World) (d : RdnL) (e : Ending) (w' : World) : Prop := (∃ vo vc, e = .returned (.slice vo d.length vc) ∧ DnAt w' vo d) ∧ Below w0.heap.size w0 w' ∧ ∀ ao b, DnAt w ao b → DnAt w' ao b
theorem GivesDn.dn {w0 w : World} {d : RdnL} {e : Ending} {w' : World} (h : GivesDn w d e w') (hb : Below w0.heap.size w0 w) : OneDn w0 w d e w' := by
  obtain ⟨⟨v, h1, h2⟩, h3⟩ := h
  obtain ⟨vo, vc, rfl⟩ := own_slice h2
  exact ⟨⟨vo, vc, h1, own_dn h2⟩, hb.trans (h3.mono hb.size), fun _ _ h => h.below h3⟩
set_option maxRecDepth 100000 in
set_option maxHeartbeats 2000000 in
theorem FnJoin_walk (a0 a1 : Option Addr) (len0 cap0 len1 cap1 : Nat) (w : World) (hR0 : Row w w.heap.size a0 len0) (hR1 : Row w w.heap.size a1 len1) (hl0 : len0 ≤ 1048576) (hl1 : len1 ≤ 1048576) :
    Calls Try.prog 6 #[.slice a0 len0 cap0, .slice a1 len1 cap1] w fun e w' => e = .returned (.bool true) ∧ Below w.heap.size w w' := by
  have R0 := Lib.hid hR0; have R1 := Lib.hid hR1; clear hR0 hR1
  go_enter Try.func6, Try.ntmps6
  go_wp2_with fail
  refine (DrawDnJoin_any a0 len0 cap0 w R0.out hl0).mono ?_
  rintro e w1 ⟨⟨A, V, v, p, rfl, hA, hV, hp, hsh, hown⟩, hg1⟩
  obtain ⟨ao, cap, rfl⟩ := own_slice hown
  have B1 := Lib.hid (below_of_grown hg1); have O1 := Lib.hid hown; have F := Lib.hid (hsh.fits hp); clear hg1 hown hsh
  have hc : p.length ≤ cap := own_cap O1.out
  have HSJ := Lib.hid (fun cap W (hz : ao = none → cap = 0) (h : DnAt W ao p) => SpecDnJoin_any A V ao p cap W (by omega) (by omega) hz h F.out)
  have hz : ao = none → cap = 0 := by rintro rfl; exact own_nilcap O1.out
  have HZ := Lib.hid hz; clear hz
  go_wp2_with fail
  refine calls_any (fun W => Below w.heap.size w W ∧ PairAt W w1.heap.size A V ∧ DnAt W ao p) ⟨more B1.out _, look_z1 w1 _, (own_dn O1.out).below (more (Below.refl _ _) _)⟩ ?_
  generalize w1.heap.size = Rr
  clear O1 B1
  rintro W1 ⟨hb1, hp1, hd1⟩
  refine (DnJoin_any A V ao p cap W1 (by omega) (by omega) hc hd1 F.out).mono ?_
  rintro e w2 ⟨⟨v, rfl, ho2⟩, hb2⟩
  obtain ⟨xo, xc, rfl⟩ := own_slice ho2
  have B2 := Lib.hid (hb1.trans (hb2.mono hb1.size)); have P2 := Lib.hid (hp1.below hb2); have D2 := Lib.hid (hd1.below hb2)
  have X2 := Lib.hid (own_dn ho2); have hxc : (joinD (A, V) p).length ≤ xc := own_cap ho2
  clear hb1 hb2 hp1 hd1 ho2
  go_wp2_with fail
  refine calls_any (fun W => Below w.heap.size w W ∧ PairAt W Rr A V ∧ DnAt W ao p ∧ OutAt W w2.heap.size (.slice xo (joinD (A, V) p).length xc) (joinC (A, V) p) ∧ DnAt W xo (joinD (A, V) p)) ⟨more B2.out _, P2.out.below (more (Below.refl _ _) _), D2.out.below (more (Below.refl _ _) _), look_z1 w2 _, X2.out.below (more (Below.refl _ _) _)⟩ ?_
  generalize w2.heap.size = Rx
  clear B2 P2 D2 X2
  rintro W3 ⟨hb3, hp3, hd3, hx3, hy3⟩
  refine (DrawDnParent_any a1 len1 cap1 W3 (R1.out.on (grown_of_below hb3)) hl1).mono ?_
  rintro e w4 ⟨⟨v, d, rfl, hd, hsh, hown⟩, hg4⟩
  obtain ⟨yo, yc, rfl⟩ := own_slice hown
  have hb4 := below_of_grown hg4
  have B4 := Lib.hid (hb3.trans (hb4.mono hb3.size)); have P4 := Lib.hid (hp3.below hb4); have D4 := Lib.hid (hd3.below hb4); have X4 := Lib.hid (hx3.below hb4); have Y4 := Lib.hid (hy3.below hb4)
  have E4 := Lib.hid (own_dn hown); have hyc : d.length ≤ yc := own_cap hown
  have G := Lib.hid (hsh.fits hd)
  clear hb3 hp3 hd3 hx3 hy3 hg4 hb4 hown hsh
  have HJ : Hid (∀ W, Below w4.heap.size w4 W → Calls Try.prog 40 #[.agg #[.string A, .string V], .slice ao p.length cap] W fun e w' => OutDn w4 (joinD (A, V) p) (joinC (A, V) p) e w') :=
    Lib.hid (fun W hb => (SpecDnJoin_any A V ao p cap W (by omega) (by omega) HZ.out (D4.out.below hb) F.out).mono fun e w' h => h.dn hb)
  have HI : Hid (∀ W, Below w4.heap.size w4 W → Calls Try.prog 41 #[.slice yo d.length yc] W fun e w' => OneDn w4 W (parentL d) e w') :=
    Lib.hid (fun W hb => (DnParent_any yo d yc W hyc (E4.out.below hb) G.out).mono fun e w' h => h.dn hb)
  have HK : Hid (∀ W, Below w4.heap.size w4 W → Calls Try.prog 42 #[.slice yo d.length yc] W fun e w' => OneDn w4 W (parentL d) e w') :=
    Lib.hid (fun W hb => (SpecDnParent_any yo d yc W hyc (E4.out.below hb) G.out).mono fun e w' h => h.dn hb)
  have HL : (joinD (A, V) p).length ≤ 1048576 := by
    rcases join_cases (A, V) p with ⟨_, _, h⟩ | ⟨_, _, _, h⟩ | ⟨_, _, _, _, h⟩ | ⟨_, _, _, _, h⟩ | ⟨_, _, h6, _, h⟩
    all_goals rw [h]
    all_goals simp
    omega
  have HPl : (parentL d).length ≤ 1048576 := by
    unfold parentL; split <;> simp <;> omega
  have HC := Lib.hid (join_good (A, V) p)
  have hFD : Fits (joinD (A, V) p) := by
    refine ⟨HL, fun r hr => ?_⟩
    rcases join_cases (A, V) p with ⟨_, _, h⟩ | ⟨_, _, _, h⟩ | ⟨_, _, _, _, h⟩ | ⟨_, _, _, _, h⟩ | ⟨_, _, h6, _, h⟩
    all_goals rw [h] at hr
    all_goals first | (simp at hr; done) | skip
    rcases List.mem_cons.1 hr with rfl | hr
    · exact ⟨by show A.size ≤ _; omega, by show V.size ≤ _; omega⟩
    · exact F.out.2 r hr
  have FD := Lib.hid hFD; clear hFD
  generalize joinD (A, V) p = D at *
  generalize joinC (A, V) p = c at *
  generalize parentL d = Pd at *
  clear HSJ
  have SK : Hid (∀ W : World, Below w4.heap.size w4 W → (Below w4.heap.size w4 W ∧ W.cell? ⟨Rr, 0, none⟩ = some (.string A) ∧ W.cell? ⟨Rr, 1, none⟩ = some (.string V) ∧ W.cell? ⟨Rx, 0, none⟩ = some (.slice xo D.length xc) ∧ W.cell? ⟨Rx, 1, none⟩ = some (.int .i64 c))) :=
    Lib.hid (fun W h => ⟨h, (P4.out.below h).cells.1.1, (P4.out.below h).cells.1.2, (X4.out.below h).cells.1, (X4.out.below h).cells.2⟩)
  have hb0 : Below w4.heap.size w4 w4 := Below.refl _ _
  have hbd := hb0.drew
  have hcc : (c != c) = false := by simp
  have hf1 := field33b
  have hf0 := field33a
  go_wp2_with fail
  go_region_held3 (fun W => Below w4.heap.size w4 W ∧ W.cell? ⟨Rr, 0, none⟩ = some (.string A) ∧ W.cell? ⟨Rr, 1, none⟩ = some (.string V) ∧ W.cell? ⟨Rx, 0, none⟩ = some (.slice xo D.length xc) ∧ W.cell? ⟨Rx, 1, none⟩ = some (.int .i64 c))
    (exact SK.out _ (by assumption))
    (first
      | (go_at_call 40; refine (HJ.out _ (by assumption)).mono ?_; rintro e w5 ⟨⟨vo, vc, rfl, hv5⟩, hb5⟩; have V5 := Lib.hid hv5; clear hv5)
      | (go_at_call 41; refine (HI.out _ (by assumption)).mono ?_; rintro e w6 ⟨⟨uo, uc, rfl, hv6⟩, hb6, hk6⟩; have V6 := Lib.hid hv6; clear hv6 hk6)
      | (go_at_call 42; refine (HK.out _ (by assumption)).mono ?_; rintro e w7 ⟨⟨to, tc, rfl, hv7⟩, hb7, hk7⟩; have V7 := Lib.hid hv7; have V8 := Lib.hid (hk7 _ _ V6.out); clear hv7 hk7)
      | (go_at_call 25; refine (lw_from w4 _ _ _ _ _ _ ?_ ?_ (by assumption) ?_).mono ?_; (focus (first | exact Y4.out.below (by assumption) | exact V8.out | exact V8.out.below ((Below.refl _ _).drew))); (focus (first | exact V5.out | exact V5.out.below ((Below.refl _ _).drew) | exact V7.out | exact V7.out.below ((Below.refl _ _).drew))); (focus (assumption)); rintro e w8 ⟨rfl, hb8⟩)
      | (fail "none"))
  all_goals
    obtain ⟨_, p0, p1, x0, x1⟩ := SK.out _ hb8
    have B8 := Lib.hid (B4.out.trans (hb8.mono B4.out.size))
    have Y8 := Lib.hid (Y4.out.below hb8)
    have D8 := Lib.hid (D4.out.below hb8)
    clear V5 V6 V7 V8 HJ HI HK hb5 hb6 hb7
    rcases HC.out with hc0 | ⟨rfl, hpar, hund, hlen⟩
    · have hc1 : (c != 0) = true := by simpa using hc0
      go_wp2
      go_ret
      exact ⟨rfl, B8.out⟩
    · have HLen := Lib.hid hlen; clear hlen
      have HPar := Lib.hid hpar; have HUnd := Lib.hid hund; clear hpar hund
      go_wp2_with fail
      refine (DnParent_any xo D xc w8 hxc Y8.out FD.out).mono ?_
      rw [HPar.out]
      rintro e w9 ⟨⟨v, rfl, ho9⟩, hb9⟩
      obtain ⟨so, sc, rfl⟩ := own_slice ho9
      have B9 := Lib.hid (B8.out.trans (hb9.mono B8.out.size)); have Y9 := Lib.hid (Y8.out.below hb9); have D9 := Lib.hid (D8.out.below hb9); have S9 := Lib.hid (own_dn ho9)
      have hb89 : Below w4.heap.size w4 w9 := hb8.trans (hb9.mono hb8.size)
      obtain ⟨_, q0, q1, y0, y1⟩ := SK.out _ hb89
      clear ho9 hb9
      go_wp2_with fail
      refine (lwDn_same so ao p sc cap w9 S9.out D9.out (by omega)).mono ?_
      rintro e w10 ⟨rfl, hb10⟩
      have B10 := Lib.hid (B9.out.trans (hb10.mono B9.out.size)); have Y10 := Lib.hid (Y9.out.below hb10); have D10 := Lib.hid (D9.out.below hb10)
      have hb90 : Below w4.heap.size w4 w10 := hb89.trans (hb10.mono hb89.size)
      obtain ⟨_, r0, r1, z0, z1⟩ := SK.out _ hb90
      clear hb10
      go_wp2_with fail
      refine (DnUnder_any xo ao D p xc cap w10 hxc Y10.out D10.out FD.out F.out).mono ?_
      rintro e w11 ⟨rfl, hb11⟩
      have B11 := Lib.hid (B10.out.trans (hb11.mono B10.out.size))
      have hb91 : Below w4.heap.size w4 w11 := hb90.trans (hb11.mono hb90.size)
      obtain ⟨_, s0, s1, t0, t1⟩ := SK.out _ hb91
      clear hb11
      rw [HUnd.out]
      have hlen2 : ((D.length : Int) == (p.length : Int) + 1) = true := by have := HLen.out; rw [beq_iff_eq]; omega
      go_wp2
      go_ret
      exact ⟨rfl, B11.out⟩
end Go.Proofs.Ytadbjpfgjkicaaa
