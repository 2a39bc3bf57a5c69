/- Merged texts: ViewOfW. -/
import Derived.Test.YtglgkocjdockdaaM1
import Derived.Test.YtglgkocjdockdaaM10
import Derived.Test.YtglgkocjdockdaaM6
import Derived.Test.YtglgkocjdockdaaM11
/- The law FnExactViewOf: its walk. -/
namespace Go.Proofs.Ytglgkocjdockdaa
open Go.RowKit
attribute [local go_sem ↓] Go.wp_at_zero Go.wp_at_succ

set_option maxRecDepth 100000 in
set_option maxHeartbeats 4000000 in
theorem ViewOf_walk (v0 : Value) (d0 : List RuleT) (s1 : ByteArray) (a200 : (List RdnT)) (a201 : (List AttrT)) (v200 v201 : Value) (w : World) (h0 : SlAt ruleE (All w) w d0 v0) (f0 : (slE ruleE).long d0) (f1 : s1.size ≤ maxLen) (h2 : SlAt rdnE (All w) w a200 v200 ∧ SlAt attrE (All w) w a201 v201) (f2 : entryE.long (a200, a201)) :
    Calls Try.prog 5 #[v0, .string s1, .agg #[v200, v201]] w fun e w' => e = .returned (.bool true) ∧ Below w.heap.size w w' := by
  have HQ0 : Hid (d0.length + szL ruleE d0 ≤ 1048576 → ∀ (Y : World) (S S' : Bs) (x u : Value), SlAt ruleE S Y d0 x → SlAt ruleE S' Y d0 u → Calls Try.prog 16 #[x, u] Y fun e w' => e = .returned (.bool true) ∧ Below Y.heap.size Y w') := Lib.hid (fun z Y S S' x u h1 h2 => eqRuleS_at x u d0 Y h1 h2 z)
  have HS0 : Hid (∀ (l : Int) (W : World), Below w.heap.size w W → 0 ≤ l → l ≤ 1048576 → Calls Try.prog 12 #[v0, .int .i64 l] W fun e w' => e = .returned (.int .i64 (leftR (d0.length + szL ruleE d0) l)) ∧ Below W.heap.size W w') := Lib.hid (fun l W b p q => szRuleS_at v0 d0 l W (h0.frame (Same.of_below' b)) f0 p q)
  have HT0 : Hid (d0.length + szL ruleE d0 ≤ 1048576 → ∀ Y : World, Below w.heap.size w Y → Calls Try.prog 14 #[v0] Y fun e w' => ∃ u, e = .returned u ∧ SlOwn ruleE (Fresh Y w') w' d0 u ∧ Below Y.heap.size Y w') := Lib.hid (fun z Y b => toRuleS_at v0 d0 Y (h0.frame (Same.of_below' b)) z)
  have HQ2 : Hid (entryE.sz (a200, a201) ≤ 1048576 → ∀ (Y : World) (S S' : Bs) (x200 x201 u200 u201 : Value), SlAt rdnE S Y a200 x200 → SlAt attrE S Y a201 x201 → SlAt rdnE S' Y a200 u200 → SlAt attrE S' Y a201 u201 → Calls Try.prog 27 #[.agg #[x200, x201], .agg #[u200, u201]] Y fun e w' => e = .returned (.bool true) ∧ Below Y.heap.size Y w') := Lib.hid (fun z Y S S' x200 x201 u200 u201 g200 g201 k200 k201 => eqEntry_at Y a200 a201 x200 x201 u200 u201 Y (Below.refl _ _) g200 g201 k200 k201 z)
  have HS2 : Hid (∀ (l : Int) (W : World), Below w.heap.size w W → 0 ≤ l → l ≤ 1048576 → Calls Try.prog 22 #[.agg #[v200, v201], .int .i64 l] W fun e w' => e = .returned (.int .i64 (leftR (entryE.sz (a200, a201)) l)) ∧ Below W.heap.size W w') := Lib.hid (fun l W b p q => szEntry_at a200 a201 v200 v201 l W (h2.1.frame (Same.of_below' b)) (h2.2.frame (Same.of_below' b)) f2 p q)
  have HT2 : Hid (entryE.sz (a200, a201) ≤ 1048576 → ∀ Y : World, Below w.heap.size w Y → Calls Try.prog 24 #[.agg #[v200, v201]] Y fun e w' => ∃ u200 u201, e = .returned (.agg #[u200, u201]) ∧ entryE.Own (Fresh Y w') w' (a200, a201) [u200, u201] ∧ Below Y.heap.size Y w') := Lib.hid (fun z Y b => toEntry_at a200 a201 v200 v201 Y (h2.1.frame (Same.of_below' b)) (h2.2.frame (Same.of_below' b)) z)
  have HSp : Hid (d0.length + szL ruleE d0 ≤ 1048576 → entryE.sz (a200, a201) ≤ 1048576 → s1.size ≤ 1048576 → ∀ (Y : World) (S0 S1 S2 : Bs) (u0 u200 u201 : Value), SlAt ruleE S0 Y d0 u0 → SlAt rdnE S1 Y a200 u200 → SlAt attrE S2 Y a201 u201 → Calls Try.prog 23 #[u0, .string s1, .agg #[u200, u201]] Y fun e w' => (∃ u900 u901 : Value, e = .returned (.agg #[u900, u901, .int .i64 (viewR d0 s1 a200 a201).2]) ∧ entryOutE.Own (Fresh Y w') w' (viewR d0 s1 a200 a201) [u900, u901, .int .i64 (viewR d0 s1 a200 a201).2]) ∧ Below Y.heap.size Y w') := Lib.hid (fun z0 z2 z1 Y S0 S1 S2 u0 u200 u201 h0 h200 h201 => (SpecViewOf_any u0 d0 s1 a200 a201 u200 u201 Y h0 h200 h201 z0 z2 z1).mono fun e w' ⟨x, y, k1, k2, k3⟩ => ⟨⟨x, y, k1, k2⟩, k3⟩)
  have HIm : Hid (d0.length + szL ruleE d0 ≤ 1048576 → entryE.sz (a200, a201) ≤ 1048576 → s1.size ≤ 1048576 → ∀ (Y : World) (S0 S1 S2 : Bs) (u0 u200 u201 : Value), SlAt ruleE S0 Y d0 u0 → SlAt rdnE S1 Y a200 u200 → SlAt attrE S2 Y a201 u201 → Calls Try.prog 25 #[u0, .string s1, .agg #[u200, u201]] Y fun e w' => (∃ u900 u901 : Value, e = .returned (.agg #[u900, u901, .int .i64 (viewR d0 s1 a200 a201).2]) ∧ entryOutE.Own (Fresh Y w') w' (viewR d0 s1 a200 a201) [u900, u901, .int .i64 (viewR d0 s1 a200 a201).2]) ∧ Below Y.heap.size Y w') := Lib.hid (fun z0 z2 z1 Y S0 S1 S2 u0 u200 u201 h0 h200 h201 => (ViewOf_any u0 d0 s1 a200 a201 u200 u201 Y h0 h200 h201 z0 z2 z1).mono fun e w' ⟨x, y, k1, k2, k3⟩ => ⟨⟨x, y, k1, k2⟩, k3⟩)
  by_cases y1 : s1.size ≤ 1048576
  rotate_left
  · have y1' : (1048576 : Int) < (s1.size : Int) := by omega
    unfold maxLen at *
    obtain ⟨o0, k0, rfl⟩ := h0.sl
    obtain ⟨o200, k200, rfl⟩ := h2.1.sl; obtain ⟨o201, k201, rfl⟩ := h2.2.sl
    go_enter Try.func5, Try.ntmps5
    go_wp2
    go_ret
    first | exact ⟨rfl, Below.refl _ _⟩ | exact ⟨rfl, more' (Below.refl _ _) _⟩ | exact ⟨rfl, more' (more' (Below.refl _ _) _) _⟩
  have y1' : ¬ (1048576 : Int) < (s1.size : Int) := by omega
  clear f1
  obtain ⟨o0, k0, rfl⟩ := h0.sl
  obtain ⟨o200, k200, rfl⟩ := h2.1.sl; obtain ⟨o201, k201, rfl⟩ := h2.2.sl
  clear h0 f0
  clear h2 f2
  go_enter Try.func5, Try.ntmps5
  go_wp2_with fail
  refine calls_by (fun W => Below w.heap.size w W ∧ Blk W (w.heap.size) [.slice o200 a200.length k200, .slice o201 a201.length k201]) ⟨more' (Below.refl _ _) _, Blk.new _ _ _⟩ ?_
  rintro W0 ⟨b0, t2⟩
  have B := Lib.hid b0; clear b0
  have HP2 := Lib.hid t2; clear t2
  refine (HS0.out (1048576) W0 B.out (by omega) (by omega)).mono ?_
  rintro e W1 ⟨rfl, hb⟩
  have P := Lib.hid (HP2.out.below hb); clear HP2; have HP2 := P; clear P
  have B1 := Lib.hid (B.out.trans (hb.mono B.out.size)); clear B; have B := B1; clear B1
  have O0 := Lib.hid (hb.size)
  clear hb HS0
  by_cases g0 : ((d0.length + szL ruleE d0 : Nat) : Int) ≤ 1048576
  rotate_left
  · rw [leftR_neg g0]
    clear g0
    go_wp2
    go_ret
    exact ⟨rfl, B.out⟩
  rw [leftR_pos g0]
  have HZ0 : Hid (d0.length + szL ruleE d0 ≤ 1048576) := Lib.hid (by omega)
  have p0 : (0 : Int) ≤ ((d0.length + szL ruleE d0 : Nat) : Int) := by omega
  have c0 : ¬ 1048576 - ((d0.length + szL ruleE d0 : Nat) : Int) < 0 := by omega
  generalize ((d0.length + szL ruleE d0 : Nat) : Int) = t0 at *
  have pm0 := HP2.out.cell 0 rfl
  have pm1 := HP2.out.cell 1 rfl
  go_wp2_with fail
  clear pm0 pm1
  refine (HS2.out (1048576 - t0) W1 B.out (by omega) (by omega)).mono ?_
  rintro e W2 ⟨rfl, hb⟩
  have P := Lib.hid (HP2.out.below hb); clear HP2; have HP2 := P; clear P
  have B1 := Lib.hid (B.out.trans (hb.mono B.out.size)); clear B; have B := B1; clear B1
  have O1 := Lib.hid (hb.size)
  clear hb HS2
  by_cases g2 : ((entryE.sz (a200, a201) : Nat) : Int) ≤ 1048576 - t0
  rotate_left
  · rw [leftR_neg g2]
    clear g2
    go_wp2
    go_ret
    exact ⟨rfl, B.out⟩
  rw [leftR_pos g2]
  have HZ2 : Hid (entryE.sz (a200, a201) ≤ 1048576) := Lib.hid (by omega)
  have p2 : (0 : Int) ≤ ((entryE.sz (a200, a201) : Nat) : Int) := by omega
  have c2 : ¬ 1048576 - t0 - ((entryE.sz (a200, a201) : Nat) : Int) < 0 := by omega
  generalize ((entryE.sz (a200, a201) : Nat) : Int) = t2 at *
  have HT := Lib.hid (HT0.out HZ0.out); clear HT0; have HT0 := HT; clear HT
  have HQ := Lib.hid (HQ0.out HZ0.out); clear HQ0; have HQ0 := HQ; clear HQ
  have HT := Lib.hid (HT2.out HZ2.out); clear HT2; have HT2 := HT; clear HT
  have HQ := Lib.hid (HQ2.out HZ2.out); clear HQ2; have HQ2 := HQ; clear HQ
  have HS := Lib.hid (HSp.out HZ0.out HZ2.out y1); have HI := Lib.hid (HIm.out HZ0.out HZ2.out y1); clear HSp HIm
  have O2 := Lib.hid (B.out.size)
  have O3 := Lib.hid (HP2.out.lt)
  have HRz : Hid (entryOutE.sz (viewR d0 s1 a200 a201) ≤ 1048576) := Lib.hid (Nat.le_trans (viewR_sz d0 s1 a200 a201) HZ2.out)
  generalize viewR d0 s1 a200 a201 = R at *
  obtain ⟨⟨a900, a901⟩, a902⟩ := R
  dsimp only at HS HI
  have HQR : Hid (∀ (Y : World) (S S' : Bs) (x900 x901 u900 u901 : Value), SlAt rdnE S Y a900 x900 → SlAt attrE S Y a901 x901 → SlAt rdnE S' Y a900 u900 → SlAt attrE S' Y a901 u901 → Calls Try.prog 26 #[.agg #[x900, x901, .int .i64 a902], .agg #[u900, u901, .int .i64 a902]] Y fun e w' => e = .returned (.bool true) ∧ Below Y.heap.size Y w') := Lib.hid (fun Y S S' x900 x901 u900 u901 h900 h901 k900 k901 => eqEntryOut_at Y a900 a901 a902 x900 x901 u900 u901 Y (Below.refl _ _) h900 h901 k900 k901 HRz.out)
  go_wp2
  have SK : Hid (∀ Z' : World, Below W2.heap.size W2 Z' → Z'.cell? ⟨w.heap.size, 0, none⟩ = some (.slice o200 a200.length k200) ∧ Z'.cell? ⟨w.heap.size, 1, none⟩ = some (.slice o201 a201.length k201)) := Lib.hid (fun Z' h => ⟨(HP2.out.below h).cell 0 rfl, (HP2.out.below h).cell 1 rfl⟩)
  refine region_join (fun A0 a2 w2 => ∃ (g : Nat) (t0 t1 t2 t3 t4 t5 : Value) (pw900 : Option Addr) (cw900 : Nat) (pw901 : Option Addr) (cw901 : Nat), a2 = (((((((A0.put (some 29) t0).put (some 30) t1).put (some 31) t2).put (some 32) t3).put (some 33) t4).put (some 34) t5).put (some 8) (.pointer (some ⟨g, 0, none⟩))) ∧ Below W2.heap.size W2 w2 ∧ W2.heap.size ≤ g ∧ Blk w2 g [.slice pw900 a900.length cw900, .slice pw901 a901.length cw901, .int .i64 a902] ∧ entryOutE.At (Fresh W2 w2) w2 ((a900, a901), a902) [.slice pw900 a900.length cw900, .slice pw901 a901.length cw901, .int .i64 a902]) ?_ ?_
  · have HBD : Hid (Below W2.heap.size W2 W2.drew) := Lib.hid (Below.refl _ _).drew
    refine wp_region_held_drew (S := (fun Z' => Z'.cell? ⟨w.heap.size, 0, none⟩ = some (.slice o200 a200.length k200) ∧ Z'.cell? ⟨w.heap.size, 1, none⟩ = some (.slice o201 a201.length k201))) (by kernel_rfl) ?_ (fun hHeld => ?_)
    · (try dsimp only)
      exact SK.out _ HBD.out
    refine wpAnyH_take (i := 0) (oi := { dst := some 29, op := Op.move (Operand.tmp 0), type := 22, pos := "exact.go:3903", after := #[], guard := none }) (v := ?_) rfl (by kernel_rfl) (by kernel_rfl) (by kernel_rfl) (fun _ _ _ h => h) (Or.inl ⟨by rfl, ?_⟩) (by assumption) ?_
    rotate_left
    · intro w hSw; (try dsimp only at hSw); go_simp; (try with_reducible rfl)
    (try simp only [Act.put, List.setIfInBounds_toArray, List.set_cons_zero, List.set_cons_succ])
    refine wpAnyH_take (i := 2) (oi := { dst := some 31, op := Op.move (Operand.tmp 1), type := 9, pos := "exact.go:3903", after := #[], guard := none }) (v := ?_) rfl (by kernel_rfl) (by kernel_rfl) (by kernel_rfl) (fun _ _ _ h => h) (Or.inl ⟨by rfl, ?_⟩) (by assumption) ?_
    rotate_left
    · intro w hSw; (try dsimp only at hSw); go_simp; (try with_reducible rfl)
    (try simp only [Act.put, List.setIfInBounds_toArray, List.set_cons_zero, List.set_cons_succ])
    refine wpAnyH_take (i := 3) (oi := { dst := some 32, op := Op.load 38 (Operand.tmp 5), type := 38, pos := "exact.go:3903", after := #[], guard := none }) (v := ?_) rfl (by kernel_rfl) (by kernel_rfl) (by kernel_rfl) (fun _ _ _ h => h) (Or.inl ⟨by rfl, ?_⟩) (by assumption) ?_
    rotate_left
    · intro w hSw; (try dsimp only at hSw); go_simp; (try with_reducible rfl)
    (try simp only [Act.put, List.setIfInBounds_toArray, List.set_cons_zero, List.set_cons_succ])
    refine wpAnyH_ready (rs := [1, 6]) (by kernel_rfl) (by simp) ?_
    refine AllReadyH.cons (o := { dst := some 30, op := Op.call { callee := Callee.value (Operand.func 14), args := #[Operand.tmp 29], argTypes := #[22] }, type := 25, pos := "exact.go:3903", after := #[{ on := 0, ground := Ground.data }], guard := none }) rfl (fun K hK => ?_) (AllReadyH.cons (o := { dst := some 8, op := Op.alloc 44, type := 0, pos := "exact.go:3903", after := #[], guard := none }) rfl (fun K hK => ?_) (AllReadyH.nil))
    · go_simp
      refine (HT0.out _ (B.out.trans (HBD.out.mono B.out.size))).mono ?_
      rintro e ww0 ⟨x0, rfl, q, hb⟩
      have HBD := Lib.hid (HBD.out.trans (hb.mono HBD.out.size))
      have QX0 := Lib.hid q.at; clear q hb
      obtain ⟨px0, cx0, rfl⟩ := QX0.out.sl
      clear hHeld
      refine hK.out _ _ ?_ (fun hHeld => ?_)
      · (try dsimp only)
        exact SK.out _ HBD.out
      clear hK K
      (try simp only [Act.put, List.setIfInBounds_toArray, List.set_cons_zero, List.set_cons_succ])
      refine wpAnyH_ready (rs := [4, 6]) (by kernel_rfl) (by simp) ?_
      refine AllReadyH.cons (o := { dst := some 33, op := Op.call { callee := Callee.value (Operand.func 24), args := #[Operand.tmp 32], argTypes := #[38] }, type := 42, pos := "exact.go:3903", after := #[{ on := 3, ground := Ground.data }, { on := 1, ground := Ground.chain }], guard := none }) rfl (fun K hK => ?_) (AllReadyH.cons (o := { dst := some 8, op := Op.alloc 44, type := 0, pos := "exact.go:3903", after := #[], guard := none }) rfl (fun K hK => ?_) (AllReadyH.nil))
      · go_simp
        refine (HT2.out _ (B.out.trans (HBD.out.mono B.out.size))).mono ?_
        rintro e ww1 ⟨x200, x201, rfl, q, hb⟩
        have HBD := Lib.hid (HBD.out.trans (hb.mono HBD.out.size))
        have P := Lib.hid (QX0.out.frame (Same.of_below' hb)); clear QX0; have QX0 := P; clear P
        have QX2 := Lib.hid (entryE.ownAt q); clear q hb
        have Z := entry_atp QX2.out
        obtain ⟨px200, cx200, rfl⟩ := Z.1.sl
        obtain ⟨px201, cx201, rfl⟩ := Z.2.sl
        clear Z
        clear hHeld
        refine hK.out _ _ ?_ (fun hHeld => ?_)
        · (try dsimp only)
          exact SK.out _ HBD.out
        clear hK K
        (try simp only [Act.put, List.setIfInBounds_toArray, List.set_cons_zero, List.set_cons_succ])
        refine wpAnyH_ready (rs := [5, 6]) (by kernel_rfl) (by simp) ?_
        refine AllReadyH.cons (o := { dst := some 34, op := Op.call { callee := Callee.value (Operand.func 23), args := #[Operand.tmp 30, Operand.tmp 31, Operand.tmp 33], argTypes := #[25, 9, 42] }, type := 44, pos := "exact.go:3903", after := #[{ on := 1, ground := Ground.data }, { on := 2, ground := Ground.data }, { on := 4, ground := Ground.data }, { on := 4, ground := Ground.chain }], guard := none }) rfl (fun K hK => ?_) (AllReadyH.cons (o := { dst := some 8, op := Op.alloc 44, type := 0, pos := "exact.go:3903", after := #[], guard := none }) rfl (fun K hK => ?_) (AllReadyH.nil))
        · go_simp
          have hpl : W2.heap.size ≤ (ww1).heap.size := HBD.out.size
          refine (HS.out _ _ _ _ _ _ _ QX0.out (entry_atp QX2.out).1 (entry_atp QX2.out).2).mono ?_
          rintro e ww2 ⟨⟨u900, u901, rfl, q⟩, hb⟩
          have HBD := Lib.hid (HBD.out.trans (hb.mono HBD.out.size))
          have QR := Lib.hid (entryOutE.ownAt q); clear q hb
          have Z := entryOut_atp QR.out
          obtain ⟨pw900, cw900, rfl⟩ := Z.1.sl
          obtain ⟨pw901, cw901, rfl⟩ := Z.2.sl
          clear Z
          clear hHeld
          refine hK.out _ _ ?_ (fun hHeld => ?_)
          · (try dsimp only)
            exact SK.out _ HBD.out
          clear hK K
          (try simp only [Act.put, List.setIfInBounds_toArray, List.set_cons_zero, List.set_cons_succ])
          refine wpAnyH_ready (rs := [6]) (by kernel_rfl) (by simp) ?_
          refine AllReadyH.cons (o := { dst := some 8, op := Op.alloc 44, type := 0, pos := "exact.go:3903", after := #[], guard := none }) rfl (fun K hK => ?_) (AllReadyH.nil)
          go_simp
          have HBDp := HBD
          have QRp := QR
          have hb : Below (ww2).heap.size (ww2) ((ww2).alloc (.cells #[.slice none 0 0, .slice none 0 0, .int .i64 0] 44)) := more' (Below.refl _ _) _
          have hg : W2.heap.size ≤ (ww2).heap.size := HBD.out.size
          have HBD := Lib.hid (HBD.out.trans (hb.mono HBD.out.size))
          have P := Lib.hid (entryOutE.frame QR.out (Same.of_below' hb)); clear QR; have QR := P; clear P
          have HA : Hid (Blk ((ww2).alloc (.cells #[.slice none 0 0, .slice none 0 0, .int .i64 0] 44)) (ww2).heap.size [.slice none 0 0, .slice none 0 0, .int .i64 0]) := Lib.hid (Blk.new _ _ _)
          clear hb
          have ng : ¬ Fresh (ww1) ww2 ((ww2).heap.size) := by intro h; have := h.2; omega
          clear hHeld
          refine hK.out _ _ ?_ (fun hHeld => ?_)
          · (try dsimp only)
            exact SK.out _ HBD.out
          clear hK K
          (try simp only [Act.put, List.setIfInBounds_toArray, List.set_cons_zero, List.set_cons_succ])
          refine wpAnyH_ready (rs := [7]) (by kernel_rfl) (by simp) ?_
          refine AllReadyH.cons (o := { dst := none, op := Op.store 44 (Operand.tmp 8) (Operand.tmp 34), type := 0, pos := "exact.go:3903", after := #[{ on := 6, ground := Ground.data }, { on := 5, ground := Ground.data }, { on := 5, ground := Ground.chain }, { on := 0, ground := Ground.phase }, { on := 1, ground := Ground.phase }, { on := 2, ground := Ground.phase }, { on := 3, ground := Ground.phase }, { on := 4, ground := Ground.phase }, { on := 5, ground := Ground.phase }, { on := 6, ground := Ground.phase }], guard := none }) rfl (fun K hK => ?_) (AllReadyH.nil)
          go_simp
          have HBD : Hid (Below W2.heap.size W2 ((ww2).alloc (.cells #[.slice pw900 a900.length cw900, .slice pw901 a901.length cw901, .int .i64 a902] 44))) := Lib.hid (more' HBDp.out _)
          clear hHeld
          refine hK.out _ _ ?_ (fun hHeld => ?_)
          · (try dsimp only)
            exact SK.out _ HBD.out
          clear hK K
          (try simp only [Act.put, List.setIfInBounds_toArray, List.set_cons_zero, List.set_cons_succ])
          refine wpAnyH_done (by kernel_rfl) ?_ _
          refine ⟨(ww2).heap.size, .slice o0 d0.length k0, .slice px0 d0.length cx0, .string s1, .agg #[.slice o200 a200.length k200, .slice o201 a201.length k201], .agg #[.slice px200 a200.length cx200, .slice px201 a201.length cx201], .agg #[.slice pw900 a900.length cw900, .slice pw901 a901.length cw901, .int .i64 a902], _, _, _, _, ?_, HBD.out, hg, Blk.new _ _ _, entryOutE.wide (entryOutE.frame QRp.out (Same.of_below' (more' (Below.refl _ _) _))) (fun k hk => ⟨by have := hk.1; omega, by have h1 := hk.2; simp only [World.size_alloc]; omega⟩)⟩
          first | rfl | (simp only [Act.put, List.setIfInBounds_toArray, List.set_cons_zero, List.set_cons_succ]; done) | (simp only [Act.put, List.setIfInBounds_toArray, List.set_cons_zero, List.set_cons_succ]; rfl)
        · go_simp
          have hb : Below (ww1).heap.size (ww1) ((ww1).alloc (.cells #[.slice none 0 0, .slice none 0 0, .int .i64 0] 44)) := more' (Below.refl _ _) _
          have hg : W2.heap.size ≤ (ww1).heap.size := HBD.out.size
          have HBD := Lib.hid (HBD.out.trans (hb.mono HBD.out.size))
          have P := Lib.hid (QX0.out.frame (Same.of_below' hb)); clear QX0; have QX0 := P; clear P
          have P := Lib.hid (entryE.frame QX2.out (Same.of_below' hb)); clear QX2; have QX2 := P; clear P
          have HA : Hid (Blk ((ww1).alloc (.cells #[.slice none 0 0, .slice none 0 0, .int .i64 0] 44)) (ww1).heap.size [.slice none 0 0, .slice none 0 0, .int .i64 0]) := Lib.hid (Blk.new _ _ _)
          clear hb
          clear hHeld
          refine hK.out _ _ ?_ (fun hHeld => ?_)
          · (try dsimp only)
            exact SK.out _ HBD.out
          clear hK K
          (try simp only [Act.put, List.setIfInBounds_toArray, List.set_cons_zero, List.set_cons_succ])
          refine wpAnyH_ready (rs := [5]) (by kernel_rfl) (by simp) ?_
          refine AllReadyH.cons (o := { dst := some 34, op := Op.call { callee := Callee.value (Operand.func 23), args := #[Operand.tmp 30, Operand.tmp 31, Operand.tmp 33], argTypes := #[25, 9, 42] }, type := 44, pos := "exact.go:3903", after := #[{ on := 1, ground := Ground.data }, { on := 2, ground := Ground.data }, { on := 4, ground := Ground.data }, { on := 4, ground := Ground.chain }], guard := none }) rfl (fun K hK => ?_) (AllReadyH.nil)
          go_simp
          have hpl : W2.heap.size ≤ (((ww1).alloc (.cells #[.slice none 0 0, .slice none 0 0, .int .i64 0] 44))).heap.size := HBD.out.size
          have hgl := HA.out.lt
          refine (HS.out _ _ _ _ _ _ _ QX0.out (entry_atp QX2.out).1 (entry_atp QX2.out).2).mono ?_
          rintro e ww2 ⟨⟨u900, u901, rfl, q⟩, hb⟩
          have HBD := Lib.hid (HBD.out.trans (hb.mono HBD.out.size))
          have P := Lib.hid (HA.out.below hb); clear HA; have HA := P; clear P
          have QR := Lib.hid (entryOutE.ownAt q); clear q hb
          have Z := entryOut_atp QR.out
          obtain ⟨pw900, cw900, rfl⟩ := Z.1.sl
          obtain ⟨pw901, cw901, rfl⟩ := Z.2.sl
          clear Z
          have ng : ¬ Fresh (((ww1).alloc (.cells #[.slice none 0 0, .slice none 0 0, .int .i64 0] 44))) ww2 ((ww1).heap.size) := by intro h; have := h.1; omega
          clear hHeld
          refine hK.out _ _ ?_ (fun hHeld => ?_)
          · (try dsimp only)
            exact SK.out _ HBD.out
          clear hK K
          (try simp only [Act.put, List.setIfInBounds_toArray, List.set_cons_zero, List.set_cons_succ])
          refine wpAnyH_ready (rs := [7]) (by kernel_rfl) (by simp) ?_
          refine AllReadyH.cons (o := { dst := none, op := Op.store 44 (Operand.tmp 8) (Operand.tmp 34), type := 0, pos := "exact.go:3903", after := #[{ on := 6, ground := Ground.data }, { on := 5, ground := Ground.data }, { on := 5, ground := Ground.chain }, { on := 0, ground := Ground.phase }, { on := 1, ground := Ground.phase }, { on := 2, ground := Ground.phase }, { on := 3, ground := Ground.phase }, { on := 4, ground := Ground.phase }, { on := 5, ground := Ground.phase }, { on := 6, ground := Ground.phase }], guard := none }) rfl (fun K hK => ?_) (AllReadyH.nil)
          have bx0 := HA.out.cell 0 rfl
          have bx1 := HA.out.cell 1 rfl
          have bx2 := HA.out.cell 2 rfl
          have bf0 := HA.out.soft 0
          have bf1 := HA.out.soft 1
          have bf2 := HA.out.soft 2
          go_simp
          clear bx0 bf0 bx1 bf1 bx2 bf2
          have HBD0 := HBD
          have HBD : Hid (Below W2.heap.size W2 ((((ww2).setCell ⟨(ww1).heap.size, 0, none⟩ (.slice pw900 a900.length cw900)).setCell ⟨(ww1).heap.size, 1, none⟩ (.slice pw901 a901.length cw901)).setCell ⟨(ww1).heap.size, 2, none⟩ (.int .i64 a902))) := Lib.hid (((HBD.out.setCell (p := ⟨(ww1).heap.size, 0, none⟩) hg (.slice pw900 a900.length cw900)).setCell (p := ⟨(ww1).heap.size, 1, none⟩) hg (.slice pw901 a901.length cw901)).setCell (p := ⟨(ww1).heap.size, 2, none⟩) hg (.int .i64 a902))
          clear hHeld
          refine hK.out _ _ ?_ (fun hHeld => ?_)
          · (try dsimp only)
            exact SK.out _ HBD.out
          clear hK K
          (try simp only [Act.put, List.setIfInBounds_toArray, List.set_cons_zero, List.set_cons_succ])
          refine wpAnyH_done (by kernel_rfl) ?_ _
          refine ⟨(ww1).heap.size, .slice o0 d0.length k0, .slice px0 d0.length cx0, .string s1, .agg #[.slice o200 a200.length k200, .slice o201 a201.length k201], .agg #[.slice px200 a200.length cx200, .slice px201 a201.length cx201], .agg #[.slice pw900 a900.length cw900, .slice pw901 a901.length cw901, .int .i64 a902], _, _, _, _, ?_, HBD.out, hg, (((HA.out.set 0 (.slice pw900 a900.length cw900)).set 1 (.slice pw901 a901.length cw901)).set 2 (.int .i64 a902)), entryOutE.wide (entryOutE.frame (entryOutE.frame (entryOutE.frame QR.out (Same.set _ (g := (ww1).heap.size) 0 _ ng)) (Same.set _ (g := (ww1).heap.size) 1 _ ng)) (Same.set _ (g := (ww1).heap.size) 2 _ ng)) (fun k hk => ⟨by have := hk.1; omega, by have h1 := hk.2; simp only [setCell_size, World.size_alloc]; omega⟩)⟩
          first | rfl | (simp only [Act.put, List.setIfInBounds_toArray, List.set_cons_zero, List.set_cons_succ]; done) | (simp only [Act.put, List.setIfInBounds_toArray, List.set_cons_zero, List.set_cons_succ]; rfl)
      · go_simp
        have hb : Below (ww0).heap.size (ww0) ((ww0).alloc (.cells #[.slice none 0 0, .slice none 0 0, .int .i64 0] 44)) := more' (Below.refl _ _) _
        have hg : W2.heap.size ≤ (ww0).heap.size := HBD.out.size
        have HBD := Lib.hid (HBD.out.trans (hb.mono HBD.out.size))
        have P := Lib.hid (QX0.out.frame (Same.of_below' hb)); clear QX0; have QX0 := P; clear P
        have HA : Hid (Blk ((ww0).alloc (.cells #[.slice none 0 0, .slice none 0 0, .int .i64 0] 44)) (ww0).heap.size [.slice none 0 0, .slice none 0 0, .int .i64 0]) := Lib.hid (Blk.new _ _ _)
        clear hb
        clear hHeld
        refine hK.out _ _ ?_ (fun hHeld => ?_)
        · (try dsimp only)
          exact SK.out _ HBD.out
        clear hK K
        (try simp only [Act.put, List.setIfInBounds_toArray, List.set_cons_zero, List.set_cons_succ])
        refine wpAnyH_ready (rs := [4]) (by kernel_rfl) (by simp) ?_
        refine AllReadyH.cons (o := { dst := some 33, op := Op.call { callee := Callee.value (Operand.func 24), args := #[Operand.tmp 32], argTypes := #[38] }, type := 42, pos := "exact.go:3903", after := #[{ on := 3, ground := Ground.data }, { on := 1, ground := Ground.chain }], guard := none }) rfl (fun K hK => ?_) (AllReadyH.nil)
        go_simp
        refine (HT2.out _ (B.out.trans (HBD.out.mono B.out.size))).mono ?_
        rintro e ww1 ⟨x200, x201, rfl, q, hb⟩
        have HBD := Lib.hid (HBD.out.trans (hb.mono HBD.out.size))
        have P := Lib.hid (QX0.out.frame (Same.of_below' hb)); clear QX0; have QX0 := P; clear P
        have P := Lib.hid (HA.out.below hb); clear HA; have HA := P; clear P
        have QX2 := Lib.hid (entryE.ownAt q); clear q hb
        have Z := entry_atp QX2.out
        obtain ⟨px200, cx200, rfl⟩ := Z.1.sl
        obtain ⟨px201, cx201, rfl⟩ := Z.2.sl
        clear Z
        clear hHeld
        refine hK.out _ _ ?_ (fun hHeld => ?_)
        · (try dsimp only)
          exact SK.out _ HBD.out
        clear hK K
        (try simp only [Act.put, List.setIfInBounds_toArray, List.set_cons_zero, List.set_cons_succ])
        refine wpAnyH_ready (rs := [5]) (by kernel_rfl) (by simp) ?_
        refine AllReadyH.cons (o := { dst := some 34, op := Op.call { callee := Callee.value (Operand.func 23), args := #[Operand.tmp 30, Operand.tmp 31, Operand.tmp 33], argTypes := #[25, 9, 42] }, type := 44, pos := "exact.go:3903", after := #[{ on := 1, ground := Ground.data }, { on := 2, ground := Ground.data }, { on := 4, ground := Ground.data }, { on := 4, ground := Ground.chain }], guard := none }) rfl (fun K hK => ?_) (AllReadyH.nil)
        go_simp
        have hpl : W2.heap.size ≤ (ww1).heap.size := HBD.out.size
        have hgl := HA.out.lt
        refine (HS.out _ _ _ _ _ _ _ QX0.out (entry_atp QX2.out).1 (entry_atp QX2.out).2).mono ?_
        rintro e ww2 ⟨⟨u900, u901, rfl, q⟩, hb⟩
        have HBD := Lib.hid (HBD.out.trans (hb.mono HBD.out.size))
        have P := Lib.hid (HA.out.below hb); clear HA; have HA := P; clear P
        have QR := Lib.hid (entryOutE.ownAt q); clear q hb
        have Z := entryOut_atp QR.out
        obtain ⟨pw900, cw900, rfl⟩ := Z.1.sl
        obtain ⟨pw901, cw901, rfl⟩ := Z.2.sl
        clear Z
        have ng : ¬ Fresh (ww1) ww2 ((ww0).heap.size) := by intro h; have := h.1; omega
        clear hHeld
        refine hK.out _ _ ?_ (fun hHeld => ?_)
        · (try dsimp only)
          exact SK.out _ HBD.out
        clear hK K
        (try simp only [Act.put, List.setIfInBounds_toArray, List.set_cons_zero, List.set_cons_succ])
        refine wpAnyH_ready (rs := [7]) (by kernel_rfl) (by simp) ?_
        refine AllReadyH.cons (o := { dst := none, op := Op.store 44 (Operand.tmp 8) (Operand.tmp 34), type := 0, pos := "exact.go:3903", after := #[{ on := 6, ground := Ground.data }, { on := 5, ground := Ground.data }, { on := 5, ground := Ground.chain }, { on := 0, ground := Ground.phase }, { on := 1, ground := Ground.phase }, { on := 2, ground := Ground.phase }, { on := 3, ground := Ground.phase }, { on := 4, ground := Ground.phase }, { on := 5, ground := Ground.phase }, { on := 6, ground := Ground.phase }], guard := none }) rfl (fun K hK => ?_) (AllReadyH.nil)
        have bx0 := HA.out.cell 0 rfl
        have bx1 := HA.out.cell 1 rfl
        have bx2 := HA.out.cell 2 rfl
        have bf0 := HA.out.soft 0
        have bf1 := HA.out.soft 1
        have bf2 := HA.out.soft 2
        go_simp
        clear bx0 bf0 bx1 bf1 bx2 bf2
        have HBD0 := HBD
        have HBD : Hid (Below W2.heap.size W2 ((((ww2).setCell ⟨(ww0).heap.size, 0, none⟩ (.slice pw900 a900.length cw900)).setCell ⟨(ww0).heap.size, 1, none⟩ (.slice pw901 a901.length cw901)).setCell ⟨(ww0).heap.size, 2, none⟩ (.int .i64 a902))) := Lib.hid (((HBD.out.setCell (p := ⟨(ww0).heap.size, 0, none⟩) hg (.slice pw900 a900.length cw900)).setCell (p := ⟨(ww0).heap.size, 1, none⟩) hg (.slice pw901 a901.length cw901)).setCell (p := ⟨(ww0).heap.size, 2, none⟩) hg (.int .i64 a902))
        clear hHeld
        refine hK.out _ _ ?_ (fun hHeld => ?_)
        · (try dsimp only)
          exact SK.out _ HBD.out
        clear hK K
        (try simp only [Act.put, List.setIfInBounds_toArray, List.set_cons_zero, List.set_cons_succ])
        refine wpAnyH_done (by kernel_rfl) ?_ _
        refine ⟨(ww0).heap.size, .slice o0 d0.length k0, .slice px0 d0.length cx0, .string s1, .agg #[.slice o200 a200.length k200, .slice o201 a201.length k201], .agg #[.slice px200 a200.length cx200, .slice px201 a201.length cx201], .agg #[.slice pw900 a900.length cw900, .slice pw901 a901.length cw901, .int .i64 a902], _, _, _, _, ?_, HBD.out, hg, (((HA.out.set 0 (.slice pw900 a900.length cw900)).set 1 (.slice pw901 a901.length cw901)).set 2 (.int .i64 a902)), entryOutE.wide (entryOutE.frame (entryOutE.frame (entryOutE.frame QR.out (Same.set _ (g := (ww0).heap.size) 0 _ ng)) (Same.set _ (g := (ww0).heap.size) 1 _ ng)) (Same.set _ (g := (ww0).heap.size) 2 _ ng)) (fun k hk => ⟨by have := hk.1; omega, by have h1 := hk.2; simp only [setCell_size, World.size_alloc]; omega⟩)⟩
        first | rfl | (simp only [Act.put, List.setIfInBounds_toArray, List.set_cons_zero, List.set_cons_succ]; done) | (simp only [Act.put, List.setIfInBounds_toArray, List.set_cons_zero, List.set_cons_succ]; rfl)
    · go_simp
      have hb : Below (W2.drew).heap.size (W2.drew) ((W2.drew).alloc (.cells #[.slice none 0 0, .slice none 0 0, .int .i64 0] 44)) := more' (Below.refl _ _) _
      have hg : W2.heap.size ≤ W2.heap.size := HBD.out.size
      have HBD := Lib.hid (HBD.out.trans (hb.mono HBD.out.size))
      have HA : Hid (Blk ((W2.drew).alloc (.cells #[.slice none 0 0, .slice none 0 0, .int .i64 0] 44)) W2.heap.size [.slice none 0 0, .slice none 0 0, .int .i64 0]) := Lib.hid (Blk.new _ _ _)
      clear hb
      clear hHeld
      refine hK.out _ _ ?_ (fun hHeld => ?_)
      · (try dsimp only)
        exact SK.out _ HBD.out
      clear hK K
      (try simp only [Act.put, List.setIfInBounds_toArray, List.set_cons_zero, List.set_cons_succ])
      refine wpAnyH_ready (rs := [1]) (by kernel_rfl) (by simp) ?_
      refine AllReadyH.cons (o := { dst := some 30, op := Op.call { callee := Callee.value (Operand.func 14), args := #[Operand.tmp 29], argTypes := #[22] }, type := 25, pos := "exact.go:3903", after := #[{ on := 0, ground := Ground.data }], guard := none }) rfl (fun K hK => ?_) (AllReadyH.nil)
      go_simp
      refine (HT0.out _ (B.out.trans (HBD.out.mono B.out.size))).mono ?_
      rintro e ww0 ⟨x0, rfl, q, hb⟩
      have HBD := Lib.hid (HBD.out.trans (hb.mono HBD.out.size))
      have P := Lib.hid (HA.out.below hb); clear HA; have HA := P; clear P
      have QX0 := Lib.hid q.at; clear q hb
      obtain ⟨px0, cx0, rfl⟩ := QX0.out.sl
      clear hHeld
      refine hK.out _ _ ?_ (fun hHeld => ?_)
      · (try dsimp only)
        exact SK.out _ HBD.out
      clear hK K
      (try simp only [Act.put, List.setIfInBounds_toArray, List.set_cons_zero, List.set_cons_succ])
      refine wpAnyH_ready (rs := [4]) (by kernel_rfl) (by simp) ?_
      refine AllReadyH.cons (o := { dst := some 33, op := Op.call { callee := Callee.value (Operand.func 24), args := #[Operand.tmp 32], argTypes := #[38] }, type := 42, pos := "exact.go:3903", after := #[{ on := 3, ground := Ground.data }, { on := 1, ground := Ground.chain }], guard := none }) rfl (fun K hK => ?_) (AllReadyH.nil)
      go_simp
      refine (HT2.out _ (B.out.trans (HBD.out.mono B.out.size))).mono ?_
      rintro e ww1 ⟨x200, x201, rfl, q, hb⟩
      have HBD := Lib.hid (HBD.out.trans (hb.mono HBD.out.size))
      have P := Lib.hid (HA.out.below hb); clear HA; have HA := P; clear P
      have P := Lib.hid (QX0.out.frame (Same.of_below' hb)); clear QX0; have QX0 := P; clear P
      have QX2 := Lib.hid (entryE.ownAt q); clear q hb
      have Z := entry_atp QX2.out
      obtain ⟨px200, cx200, rfl⟩ := Z.1.sl
      obtain ⟨px201, cx201, rfl⟩ := Z.2.sl
      clear Z
      clear hHeld
      refine hK.out _ _ ?_ (fun hHeld => ?_)
      · (try dsimp only)
        exact SK.out _ HBD.out
      clear hK K
      (try simp only [Act.put, List.setIfInBounds_toArray, List.set_cons_zero, List.set_cons_succ])
      refine wpAnyH_ready (rs := [5]) (by kernel_rfl) (by simp) ?_
      refine AllReadyH.cons (o := { dst := some 34, op := Op.call { callee := Callee.value (Operand.func 23), args := #[Operand.tmp 30, Operand.tmp 31, Operand.tmp 33], argTypes := #[25, 9, 42] }, type := 44, pos := "exact.go:3903", after := #[{ on := 1, ground := Ground.data }, { on := 2, ground := Ground.data }, { on := 4, ground := Ground.data }, { on := 4, ground := Ground.chain }], guard := none }) rfl (fun K hK => ?_) (AllReadyH.nil)
      go_simp
      have hpl : W2.heap.size ≤ (ww1).heap.size := HBD.out.size
      have hgl := HA.out.lt
      refine (HS.out _ _ _ _ _ _ _ QX0.out (entry_atp QX2.out).1 (entry_atp QX2.out).2).mono ?_
      rintro e ww2 ⟨⟨u900, u901, rfl, q⟩, hb⟩
      have HBD := Lib.hid (HBD.out.trans (hb.mono HBD.out.size))
      have P := Lib.hid (HA.out.below hb); clear HA; have HA := P; clear P
      have QR := Lib.hid (entryOutE.ownAt q); clear q hb
      have Z := entryOut_atp QR.out
      obtain ⟨pw900, cw900, rfl⟩ := Z.1.sl
      obtain ⟨pw901, cw901, rfl⟩ := Z.2.sl
      clear Z
      have ng : ¬ Fresh (ww1) ww2 (W2.heap.size) := by intro h; have := h.1; omega
      clear hHeld
      refine hK.out _ _ ?_ (fun hHeld => ?_)
      · (try dsimp only)
        exact SK.out _ HBD.out
      clear hK K
      (try simp only [Act.put, List.setIfInBounds_toArray, List.set_cons_zero, List.set_cons_succ])
      refine wpAnyH_ready (rs := [7]) (by kernel_rfl) (by simp) ?_
      refine AllReadyH.cons (o := { dst := none, op := Op.store 44 (Operand.tmp 8) (Operand.tmp 34), type := 0, pos := "exact.go:3903", after := #[{ on := 6, ground := Ground.data }, { on := 5, ground := Ground.data }, { on := 5, ground := Ground.chain }, { on := 0, ground := Ground.phase }, { on := 1, ground := Ground.phase }, { on := 2, ground := Ground.phase }, { on := 3, ground := Ground.phase }, { on := 4, ground := Ground.phase }, { on := 5, ground := Ground.phase }, { on := 6, ground := Ground.phase }], guard := none }) rfl (fun K hK => ?_) (AllReadyH.nil)
      have bx0 := HA.out.cell 0 rfl
      have bx1 := HA.out.cell 1 rfl
      have bx2 := HA.out.cell 2 rfl
      have bf0 := HA.out.soft 0
      have bf1 := HA.out.soft 1
      have bf2 := HA.out.soft 2
      go_simp
      clear bx0 bf0 bx1 bf1 bx2 bf2
      have HBD0 := HBD
      have HBD : Hid (Below W2.heap.size W2 ((((ww2).setCell ⟨W2.heap.size, 0, none⟩ (.slice pw900 a900.length cw900)).setCell ⟨W2.heap.size, 1, none⟩ (.slice pw901 a901.length cw901)).setCell ⟨W2.heap.size, 2, none⟩ (.int .i64 a902))) := Lib.hid (((HBD.out.setCell (p := ⟨W2.heap.size, 0, none⟩) hg (.slice pw900 a900.length cw900)).setCell (p := ⟨W2.heap.size, 1, none⟩) hg (.slice pw901 a901.length cw901)).setCell (p := ⟨W2.heap.size, 2, none⟩) hg (.int .i64 a902))
      clear hHeld
      refine hK.out _ _ ?_ (fun hHeld => ?_)
      · (try dsimp only)
        exact SK.out _ HBD.out
      clear hK K
      (try simp only [Act.put, List.setIfInBounds_toArray, List.set_cons_zero, List.set_cons_succ])
      refine wpAnyH_done (by kernel_rfl) ?_ _
      refine ⟨W2.heap.size, .slice o0 d0.length k0, .slice px0 d0.length cx0, .string s1, .agg #[.slice o200 a200.length k200, .slice o201 a201.length k201], .agg #[.slice px200 a200.length cx200, .slice px201 a201.length cx201], .agg #[.slice pw900 a900.length cw900, .slice pw901 a901.length cw901, .int .i64 a902], _, _, _, _, ?_, HBD.out, hg, (((HA.out.set 0 (.slice pw900 a900.length cw900)).set 1 (.slice pw901 a901.length cw901)).set 2 (.int .i64 a902)), entryOutE.wide (entryOutE.frame (entryOutE.frame (entryOutE.frame QR.out (Same.set _ (g := W2.heap.size) 0 _ ng)) (Same.set _ (g := W2.heap.size) 1 _ ng)) (Same.set _ (g := W2.heap.size) 2 _ ng)) (fun k hk => ⟨by have := hk.1; omega, by have h1 := hk.2; simp only [setCell_size, World.size_alloc]; omega⟩)⟩
      first | rfl | (simp only [Act.put, List.setIfInBounds_toArray, List.set_cons_zero, List.set_cons_succ]; done) | (simp only [Act.put, List.setIfInBounds_toArray, List.set_cons_zero, List.set_cons_succ]; rfl)
  clear SK
  rintro a2 W3 ⟨gw, t0, t1, t2, t3, t4, t5, pw900, cw900, pw901, cw901, rfl, hb, hg, t, q⟩
  try simp only [Act.put, List.setIfInBounds_toArray, List.set_cons_zero, List.set_cons_succ]
  have P := Lib.hid (HP2.out.below hb); clear HP2; have HP2 := P; clear P
  have B1 := Lib.hid (B.out.trans (hb.mono B.out.size)); clear B; have B := B1; clear B1
  have O4 := Lib.hid (hb.size)
  have O5 := Lib.hid (hg)
  have O6 := Lib.hid (t.lt)
  have HXw := Lib.hid t; have QRw := Lib.hid q; clear t q hb hg
  go_wp2_with fail
  refine (HT0.out _ B.out).mono ?_
  rintro e W4 ⟨y0, rfl, q, hb⟩
  have P := Lib.hid (HP2.out.below hb); clear HP2; have HP2 := P; clear P
  have P := Lib.hid (HXw.out.below hb); clear HXw; have HXw := P; clear P
  have P := Lib.hid (entryOutE.frame QRw.out (Same.of_below' hb)); clear QRw; have QRw := P; clear P
  have B1 := Lib.hid (B.out.trans (hb.mono B.out.size)); clear B; have B := B1; clear B1
  have O7 := Lib.hid (hb.size)
  have Qy0 := Lib.hid q.at; have OY0 := Lib.hid q; clear q hb
  obtain ⟨py0, cy0, rfl⟩ := Qy0.out.sl
  have pm0 := HP2.out.cell 0 rfl
  have pm1 := HP2.out.cell 1 rfl
  go_wp2_with fail
  clear pm0 pm1
  refine (HT2.out _ B.out).mono ?_
  rintro e W5 ⟨y200, y201, rfl, q, hb⟩
  have P := Lib.hid (HP2.out.below hb); clear HP2; have HP2 := P; clear P
  have P := Lib.hid (HXw.out.below hb); clear HXw; have HXw := P; clear P
  have P := Lib.hid (entryOutE.frame QRw.out (Same.of_below' hb)); clear QRw; have QRw := P; clear P
  have P := Lib.hid (Qy0.out.frame (Same.of_below' hb)); clear Qy0; have Qy0 := P; clear P
  have P := Lib.hid (OY0.out.frame (Same.of_below' hb)); clear OY0; have OY0 := P; clear P
  have B1 := Lib.hid (B.out.trans (hb.mono B.out.size)); clear B; have B := B1; clear B1
  have O8 := Lib.hid (hb.size)
  have Qy2 := Lib.hid (entryE.ownAt q); have OY2 := Lib.hid q; clear q hb
  have Z := entry_atp Qy2.out
  obtain ⟨py200, cy200, rfl⟩ := Z.1.sl
  obtain ⟨py201, cy201, rfl⟩ := Z.2.sl
  clear Z
  have bm0 := HXw.out.cell 0 rfl
  have bm1 := HXw.out.cell 1 rfl
  have bm2 := HXw.out.cell 2 rfl
  go_wp2_with fail
  clear bm0 bm1 bm2
  refine calls_by (fun W => Below W5.heap.size W5 W ∧ Blk W W5.heap.size [.slice py200 a200.length cy200, .slice py201 a201.length cy201]) ⟨more' (Below.refl _ _) _, Blk.new _ _ _⟩ ?_
  rintro V5 ⟨hb, t⟩
  have P := Lib.hid (HP2.out.below hb); clear HP2; have HP2 := P; clear P
  have P := Lib.hid (HXw.out.below hb); clear HXw; have HXw := P; clear P
  have P := Lib.hid (entryOutE.frame QRw.out (Same.of_below' hb)); clear QRw; have QRw := P; clear P
  have P := Lib.hid (Qy0.out.frame (Same.of_below' hb)); clear Qy0; have Qy0 := P; clear P
  have P := Lib.hid (OY0.out.frame (Same.of_below' hb)); clear OY0; have OY0 := P; clear P
  have P := Lib.hid (entryE.frame Qy2.out (Same.of_below' hb)); clear Qy2; have Qy2 := P; clear P
  have P := Lib.hid (entryE.ownFrame OY2.out (Same.of_below' hb)); clear OY2; have OY2 := P; clear P
  have B1 := Lib.hid (B.out.trans (hb.mono B.out.size)); clear B; have B := B1; clear B1
  have O9 := Lib.hid (hb.size)
  clear hb
  have HX2 := Lib.hid t; clear t
  have O10 := Lib.hid (HX2.out.lt)
  refine (HI.out _ _ _ _ _ _ _ Qy0.out (entry_atp Qy2.out).1 (entry_atp Qy2.out).2).mono ?_
  rintro e W6 ⟨⟨u900, u901, rfl, q⟩, hb⟩
  have P := Lib.hid (HP2.out.below hb); clear HP2; have HP2 := P; clear P
  have P := Lib.hid (HXw.out.below hb); clear HXw; have HXw := P; clear P
  have P := Lib.hid (entryOutE.frame QRw.out (Same.of_below' hb)); clear QRw; have QRw := P; clear P
  have P := Lib.hid (Qy0.out.frame (Same.of_below' hb)); clear Qy0; have Qy0 := P; clear P
  have P := Lib.hid (OY0.out.frame (Same.of_below' hb)); clear OY0; have OY0 := P; clear P
  have P := Lib.hid (entryE.frame Qy2.out (Same.of_below' hb)); clear Qy2; have Qy2 := P; clear P
  have P := Lib.hid (entryE.ownFrame OY2.out (Same.of_below' hb)); clear OY2; have OY2 := P; clear P
  have P := Lib.hid (HX2.out.below hb); clear HX2; have HX2 := P; clear P
  have B1 := Lib.hid (B.out.trans (hb.mono B.out.size)); clear B; have B := B1; clear B1
  have O11 := Lib.hid (hb.size)
  have OG := Lib.hid q; clear q hb
  have Z := entryOut_atp (entryOutE.ownAt OG.out)
  obtain ⟨pg900, cg900, rfl⟩ := Z.1.sl
  obtain ⟨pg901, cg901, rfl⟩ := Z.2.sl
  clear Z
  have bm0 := (HXw.out.alloc (.cells #[.slice pg900 a900.length cg900, .slice pg901 a901.length cg901, .int .i64 a902] 44)).cell 0 rfl
  have bm1 := (HXw.out.alloc (.cells #[.slice pg900 a900.length cg900, .slice pg901 a901.length cg901, .int .i64 a902] 44)).cell 1 rfl
  have bm2 := (HXw.out.alloc (.cells #[.slice pg900 a900.length cg900, .slice pg901 a901.length cg901, .int .i64 a902] 44)).cell 2 rfl
  have bm3 := (HX2.out.alloc (.cells #[.slice pg900 a900.length cg900, .slice pg901 a901.length cg901, .int .i64 a902] 44)).cell 0 rfl
  have bm4 := (HX2.out.alloc (.cells #[.slice pg900 a900.length cg900, .slice pg901 a901.length cg901, .int .i64 a902] 44)).cell 1 rfl
  go_wp2_with fail
  clear bm0 bm1 bm2 bm3 bm4
  refine calls_by (fun W => Below W6.heap.size W6 W ∧ Blk W W6.heap.size [.slice pg900 a900.length cg900, .slice pg901 a901.length cg901, .int .i64 a902]) ⟨more' (Below.refl _ _) _, Blk.new _ _ _⟩ ?_
  rintro V6 ⟨hb, t⟩
  have P := Lib.hid (HP2.out.below hb); clear HP2; have HP2 := P; clear P
  have P := Lib.hid (HXw.out.below hb); clear HXw; have HXw := P; clear P
  have P := Lib.hid (entryOutE.frame QRw.out (Same.of_below' hb)); clear QRw; have QRw := P; clear P
  have P := Lib.hid (Qy0.out.frame (Same.of_below' hb)); clear Qy0; have Qy0 := P; clear P
  have P := Lib.hid (OY0.out.frame (Same.of_below' hb)); clear OY0; have OY0 := P; clear P
  have P := Lib.hid (entryE.frame Qy2.out (Same.of_below' hb)); clear Qy2; have Qy2 := P; clear P
  have P := Lib.hid (entryE.ownFrame OY2.out (Same.of_below' hb)); clear OY2; have OY2 := P; clear P
  have P := Lib.hid (HX2.out.below hb); clear HX2; have HX2 := P; clear P
  have P := Lib.hid (entryOutE.ownFrame OG.out (Same.of_below' hb)); clear OG; have OG := P; clear P
  have B1 := Lib.hid (B.out.trans (hb.mono B.out.size)); clear B; have B := B1; clear B1
  have O12 := Lib.hid (hb.size)
  clear hb
  have O13 := Lib.hid (t.lt)
  have HXg := Lib.hid t; clear t
  refine (HQR.out _ _ _ _ _ _ _ (entryOut_atp (entryOutE.ownAt OG.out)).1 (entryOut_atp (entryOutE.ownAt OG.out)).2 (entryOut_atp QRw.out).1 (entryOut_atp QRw.out).2).mono ?_
  rintro e W7 ⟨rfl, hb⟩
  have P := Lib.hid (HP2.out.below hb); clear HP2; have HP2 := P; clear P
  have P := Lib.hid (HXw.out.below hb); clear HXw; have HXw := P; clear P
  have P := Lib.hid (entryOutE.frame QRw.out (Same.of_below' hb)); clear QRw; have QRw := P; clear P
  have P := Lib.hid (Qy0.out.frame (Same.of_below' hb)); clear Qy0; have Qy0 := P; clear P
  have P := Lib.hid (OY0.out.frame (Same.of_below' hb)); clear OY0; have OY0 := P; clear P
  have P := Lib.hid (entryE.frame Qy2.out (Same.of_below' hb)); clear Qy2; have Qy2 := P; clear P
  have P := Lib.hid (entryE.ownFrame OY2.out (Same.of_below' hb)); clear OY2; have OY2 := P; clear P
  have P := Lib.hid (HX2.out.below hb); clear HX2; have HX2 := P; clear P
  have P := Lib.hid (entryOutE.ownFrame OG.out (Same.of_below' hb)); clear OG; have OG := P; clear P
  have P := Lib.hid (HXg.out.below hb); clear HXg; have HXg := P; clear P
  have B1 := Lib.hid (B.out.trans (hb.mono B.out.size)); clear B; have B := B1; clear B1
  have O14 := Lib.hid (hb.size)
  clear hb
  go_wp2_with fail
  refine (HT0.out _ B.out).mono ?_
  rintro e W8 ⟨z0, rfl, q, hb⟩
  have P := Lib.hid (HP2.out.below hb); clear HP2; have HP2 := P; clear P
  have P := Lib.hid (HXw.out.below hb); clear HXw; have HXw := P; clear P
  have P := Lib.hid (entryOutE.frame QRw.out (Same.of_below' hb)); clear QRw; have QRw := P; clear P
  have P := Lib.hid (Qy0.out.frame (Same.of_below' hb)); clear Qy0; have Qy0 := P; clear P
  have P := Lib.hid (OY0.out.frame (Same.of_below' hb)); clear OY0; have OY0 := P; clear P
  have P := Lib.hid (entryE.frame Qy2.out (Same.of_below' hb)); clear Qy2; have Qy2 := P; clear P
  have P := Lib.hid (entryE.ownFrame OY2.out (Same.of_below' hb)); clear OY2; have OY2 := P; clear P
  have P := Lib.hid (HX2.out.below hb); clear HX2; have HX2 := P; clear P
  have P := Lib.hid (entryOutE.ownFrame OG.out (Same.of_below' hb)); clear OG; have OG := P; clear P
  have P := Lib.hid (HXg.out.below hb); clear HXg; have HXg := P; clear P
  have B1 := Lib.hid (B.out.trans (hb.mono B.out.size)); clear B; have B := B1; clear B1
  have O15 := Lib.hid (hb.size)
  have Qz0 := Lib.hid q.at; clear q hb
  obtain ⟨pz0, cz0, rfl⟩ := Qz0.out.sl
  go_wp2_with fail
  refine (HQ0.out _ _ _ _ _ Qy0.out Qz0.out).mono ?_
  rintro e W9 ⟨rfl, hb⟩
  have P := Lib.hid (HP2.out.below hb); clear HP2; have HP2 := P; clear P
  have P := Lib.hid (HXw.out.below hb); clear HXw; have HXw := P; clear P
  have P := Lib.hid (entryOutE.frame QRw.out (Same.of_below' hb)); clear QRw; have QRw := P; clear P
  have P := Lib.hid (Qy0.out.frame (Same.of_below' hb)); clear Qy0; have Qy0 := P; clear P
  have P := Lib.hid (OY0.out.frame (Same.of_below' hb)); clear OY0; have OY0 := P; clear P
  have P := Lib.hid (entryE.frame Qy2.out (Same.of_below' hb)); clear Qy2; have Qy2 := P; clear P
  have P := Lib.hid (entryE.ownFrame OY2.out (Same.of_below' hb)); clear OY2; have OY2 := P; clear P
  have P := Lib.hid (HX2.out.below hb); clear HX2; have HX2 := P; clear P
  have P := Lib.hid (entryOutE.ownFrame OG.out (Same.of_below' hb)); clear OG; have OG := P; clear P
  have P := Lib.hid (HXg.out.below hb); clear HXg; have HXg := P; clear P
  have P := Lib.hid (Qz0.out.frame (Same.of_below' hb)); clear Qz0; have Qz0 := P; clear P
  have B1 := Lib.hid (B.out.trans (hb.mono B.out.size)); clear B; have B := B1; clear B1
  have O16 := Lib.hid (hb.size)
  clear hb
  clear Qz0
  go_wp2
  have hb : Below W9.heap.size W9 W9.drew := (Below.refl _ _).drew
  have SK : Hid (∀ Z' : World, Below W9.heap.size W9 Z' → Z'.cell? ⟨w.heap.size, 0, none⟩ = some (.slice o200 a200.length k200) ∧ Z'.cell? ⟨w.heap.size, 1, none⟩ = some (.slice o201 a201.length k201) ∧ Z'.cell? ⟨gw, 0, none⟩ = some (.slice pw900 a900.length cw900) ∧ Z'.cell? ⟨gw, 1, none⟩ = some (.slice pw901 a901.length cw901) ∧ Z'.cell? ⟨gw, 2, none⟩ = some (.int .i64 a902) ∧ Z'.cell? ⟨W5.heap.size, 0, none⟩ = some (.slice py200 a200.length cy200) ∧ Z'.cell? ⟨W5.heap.size, 1, none⟩ = some (.slice py201 a201.length cy201) ∧ Z'.cell? ⟨W6.heap.size, 0, none⟩ = some (.slice pg900 a900.length cg900) ∧ Z'.cell? ⟨W6.heap.size, 1, none⟩ = some (.slice pg901 a901.length cg901) ∧ Z'.cell? ⟨W6.heap.size, 2, none⟩ = some (.int .i64 a902)) := Lib.hid (fun Z' h => ⟨(HP2.out.below h).cell 0 rfl, (HP2.out.below h).cell 1 rfl, (HXw.out.below h).cell 0 rfl, (HXw.out.below h).cell 1 rfl, (HXw.out.below h).cell 2 rfl, (HX2.out.below h).cell 0 rfl, (HX2.out.below h).cell 1 rfl, (HXg.out.below h).cell 0 rfl, (HXg.out.below h).cell 1 rfl, (HXg.out.below h).cell 2 rfl⟩)
  have BD : Below W9.heap.size W9 W9.drew := hb
  have P := Lib.hid (HP2.out.below hb); clear HP2; have HP2 := P; clear P
  have P := Lib.hid (HXw.out.below hb); clear HXw; have HXw := P; clear P
  have P := Lib.hid (entryOutE.frame QRw.out (Same.of_below' hb)); clear QRw; have QRw := P; clear P
  have P := Lib.hid (Qy0.out.frame (Same.of_below' hb)); clear Qy0; have Qy0 := P; clear P
  have P := Lib.hid (OY0.out.frame (Same.of_below' hb)); clear OY0; have OY0 := P; clear P
  have P := Lib.hid (entryE.frame Qy2.out (Same.of_below' hb)); clear Qy2; have Qy2 := P; clear P
  have P := Lib.hid (entryE.ownFrame OY2.out (Same.of_below' hb)); clear OY2; have OY2 := P; clear P
  have P := Lib.hid (HX2.out.below hb); clear HX2; have HX2 := P; clear P
  have P := Lib.hid (entryOutE.ownFrame OG.out (Same.of_below' hb)); clear OG; have OG := P; clear P
  have P := Lib.hid (HXg.out.below hb); clear HXg; have HXg := P; clear P
  have B1 := Lib.hid (B.out.trans (hb.mono B.out.size)); clear B; have B := B1; clear B1
  have O17 := Lib.hid (hb.size)
  clear hb
  refine wp_region_held_drew (S := (fun Z' => Z'.cell? ⟨w.heap.size, 0, none⟩ = some (.slice o200 a200.length k200) ∧ Z'.cell? ⟨w.heap.size, 1, none⟩ = some (.slice o201 a201.length k201) ∧ Z'.cell? ⟨gw, 0, none⟩ = some (.slice pw900 a900.length cw900) ∧ Z'.cell? ⟨gw, 1, none⟩ = some (.slice pw901 a901.length cw901) ∧ Z'.cell? ⟨gw, 2, none⟩ = some (.int .i64 a902) ∧ Z'.cell? ⟨W5.heap.size, 0, none⟩ = some (.slice py200 a200.length cy200) ∧ Z'.cell? ⟨W5.heap.size, 1, none⟩ = some (.slice py201 a201.length cy201) ∧ Z'.cell? ⟨W6.heap.size, 0, none⟩ = some (.slice pg900 a900.length cg900) ∧ Z'.cell? ⟨W6.heap.size, 1, none⟩ = some (.slice pg901 a901.length cg901) ∧ Z'.cell? ⟨W6.heap.size, 2, none⟩ = some (.int .i64 a902))) (by kernel_rfl) ?_ (fun hHeld => ?_)
  · (try dsimp only)
    first | exact SK.out _ (by assumption) | exact SK.out _ BD
  refine wpAnyH_take (i := 0) (oi := { dst := some 52, op := Op.load 42 (Operand.tmp 10), type := 42, pos := "exact.go:3913", after := #[], guard := none }) (v := ?_) rfl (by kernel_rfl) (by kernel_rfl) (by kernel_rfl) (fun _ _ _ h => h) (Or.inl ⟨by rfl, ?_⟩) (by assumption) ?_
  rotate_left
  · intro w hSw; (try dsimp only at hSw); go_simp; (try with_reducible rfl)
  (try simp only [Act.put, List.setIfInBounds_toArray, List.set_cons_zero, List.set_cons_succ])
  refine wpAnyH_take (i := 1) (oi := { dst := some 53, op := Op.load 38 (Operand.tmp 5), type := 38, pos := "exact.go:3913", after := #[], guard := none }) (v := ?_) rfl (by kernel_rfl) (by kernel_rfl) (by kernel_rfl) (fun _ _ _ h => h) (Or.inl ⟨by rfl, ?_⟩) (by assumption) ?_
  rotate_left
  · intro w hSw; (try dsimp only at hSw); go_simp; (try with_reducible rfl)
  (try simp only [Act.put, List.setIfInBounds_toArray, List.set_cons_zero, List.set_cons_succ])
  refine wpAnyH_ready (rs := [2]) (by kernel_rfl) (by simp) ?_
  refine AllReadyH.cons (o := { dst := some 54, op := Op.call { callee := Callee.value (Operand.func 24), args := #[Operand.tmp 53], argTypes := #[38] }, type := 42, pos := "exact.go:3913", after := #[{ on := 1, ground := Ground.data }], guard := none }) rfl (fun K hK => ?_) (AllReadyH.nil)
  go_simp
  refine (HT2.out _ B.out).mono ?_
  rintro e W10 ⟨z200, z201, rfl, q, hb⟩
  have BD := BD.trans (hb.mono BD.size)
  have P := Lib.hid (HP2.out.below hb); clear HP2; have HP2 := P; clear P
  have P := Lib.hid (HXw.out.below hb); clear HXw; have HXw := P; clear P
  have P := Lib.hid (entryOutE.frame QRw.out (Same.of_below' hb)); clear QRw; have QRw := P; clear P
  have P := Lib.hid (Qy0.out.frame (Same.of_below' hb)); clear Qy0; have Qy0 := P; clear P
  have P := Lib.hid (OY0.out.frame (Same.of_below' hb)); clear OY0; have OY0 := P; clear P
  have P := Lib.hid (entryE.frame Qy2.out (Same.of_below' hb)); clear Qy2; have Qy2 := P; clear P
  have P := Lib.hid (entryE.ownFrame OY2.out (Same.of_below' hb)); clear OY2; have OY2 := P; clear P
  have P := Lib.hid (HX2.out.below hb); clear HX2; have HX2 := P; clear P
  have P := Lib.hid (entryOutE.ownFrame OG.out (Same.of_below' hb)); clear OG; have OG := P; clear P
  have P := Lib.hid (HXg.out.below hb); clear HXg; have HXg := P; clear P
  have B1 := Lib.hid (B.out.trans (hb.mono B.out.size)); clear B; have B := B1; clear B1
  have O18 := Lib.hid (hb.size)
  have Qz2 := Lib.hid (entryE.ownAt q); clear q hb
  have Z := entry_atp Qz2.out
  obtain ⟨pz200, cz200, rfl⟩ := Z.1.sl
  obtain ⟨pz201, cz201, rfl⟩ := Z.2.sl
  clear Z
  clear hHeld
  refine hK.out _ _ ?_ (fun hHeld => ?_)
  · (try dsimp only)
    first | exact SK.out _ (by assumption) | exact SK.out _ BD
  clear hK K
  (try simp only [Act.put, List.setIfInBounds_toArray, List.set_cons_zero, List.set_cons_succ])
  refine wpAnyH_ready (rs := [3]) (by kernel_rfl) (by simp) ?_
  refine AllReadyH.cons (o := { dst := some 55, op := Op.call { callee := Callee.value (Operand.func 27), args := #[Operand.tmp 52, Operand.tmp 54], argTypes := #[42, 42] }, type := 4, pos := "exact.go:3913", after := #[{ on := 0, ground := Ground.data }, { on := 2, ground := Ground.data }, { on := 2, ground := Ground.chain }], guard := none }) rfl (fun K hK => ?_) (AllReadyH.nil)
  go_simp
  refine (HQ2.out _ _ _ _ _ _ _ (entry_atp Qy2.out).1 (entry_atp Qy2.out).2 (entry_atp Qz2.out).1 (entry_atp Qz2.out).2).mono ?_
  rintro e W11 ⟨rfl, hb⟩
  have BD := BD.trans (hb.mono BD.size)
  have P := Lib.hid (HP2.out.below hb); clear HP2; have HP2 := P; clear P
  have P := Lib.hid (HXw.out.below hb); clear HXw; have HXw := P; clear P
  have P := Lib.hid (entryOutE.frame QRw.out (Same.of_below' hb)); clear QRw; have QRw := P; clear P
  have P := Lib.hid (Qy0.out.frame (Same.of_below' hb)); clear Qy0; have Qy0 := P; clear P
  have P := Lib.hid (OY0.out.frame (Same.of_below' hb)); clear OY0; have OY0 := P; clear P
  have P := Lib.hid (entryE.frame Qy2.out (Same.of_below' hb)); clear Qy2; have Qy2 := P; clear P
  have P := Lib.hid (entryE.ownFrame OY2.out (Same.of_below' hb)); clear OY2; have OY2 := P; clear P
  have P := Lib.hid (HX2.out.below hb); clear HX2; have HX2 := P; clear P
  have P := Lib.hid (entryOutE.ownFrame OG.out (Same.of_below' hb)); clear OG; have OG := P; clear P
  have P := Lib.hid (HXg.out.below hb); clear HXg; have HXg := P; clear P
  have P := Lib.hid (entryE.frame Qz2.out (Same.of_below' hb)); clear Qz2; have Qz2 := P; clear P
  have B1 := Lib.hid (B.out.trans (hb.mono B.out.size)); clear B; have B := B1; clear B1
  have O19 := Lib.hid (hb.size)
  clear hb
  clear hHeld
  refine hK.out _ _ ?_ (fun hHeld => ?_)
  · (try dsimp only)
    first | exact SK.out _ (by assumption) | exact SK.out _ BD
  clear hK K
  (try simp only [Act.put, List.setIfInBounds_toArray, List.set_cons_zero, List.set_cons_succ])
  refine wpAnyH_take (i := 4) (oi := { dst := some 56, op := Op.unOp UnOp.not 4 (Operand.tmp 55), type := 4, pos := "exact.go:3913", after := #[{ on := 3, ground := Ground.data }], guard := none }) (v := ?_) rfl (by kernel_rfl) (by kernel_rfl) (by kernel_rfl) (fun _ _ _ h => h) (Or.inl ⟨by rfl, ?_⟩) (by assumption) ?_
  rotate_left
  · intro w hSw; (try dsimp only at hSw); go_simp; (try with_reducible rfl)
  (try simp only [Act.put, List.setIfInBounds_toArray, List.set_cons_zero, List.set_cons_succ])
  refine wpAnyH_done (by kernel_rfl) ?_ _
  clear SK BD
  clear Qz2
  clear Qy0
  clear Qy2
  have bm0 := HXw.out.cell 0 rfl
  have bm1 := HXw.out.cell 1 rfl
  have bm2 := HXw.out.cell 2 rfl
  have bm3 := HX2.out.cell 0 rfl
  have bm4 := HX2.out.cell 1 rfl
  have bm5 := HXg.out.cell 0 rfl
  have bm6 := HXg.out.cell 1 rfl
  have bm7 := HXg.out.cell 2 rfl
  go_wp2_with fail
  clear bm0 bm1 bm2 bm3 bm4 bm5 bm6 bm7
  have mz := HZ0.out; have mc0 := cnt_fit (e := ruleE) d0 (by decide) mz
  refine (markRuleS_at _ d0 (1) _ OY0.out (by omega) (by omega) (by omega) (by omega)).mono ?_
  rintro e W12 ⟨rfl, _, ht⟩
  clear mz
  have P := Lib.hid (HP2.out.turn ht (by rintro ⟨z3, z4⟩; have := O0.out; have := O1.out; have := O2.out; have := O3.out; have := O4.out; have := O5.out; have := O6.out; have := O7.out; have := O8.out; have := O9.out; have := O10.out; have := O11.out; have := O12.out; have := O13.out; have := O14.out; have := O15.out; have := O16.out; have := O17.out; have := O18.out; have := O19.out; omega)); clear HP2; have HP2 := P; clear P
  have P := Lib.hid (HXw.out.turn ht (by rintro ⟨z3, z4⟩; have := O0.out; have := O1.out; have := O2.out; have := O3.out; have := O4.out; have := O5.out; have := O6.out; have := O7.out; have := O8.out; have := O9.out; have := O10.out; have := O11.out; have := O12.out; have := O13.out; have := O14.out; have := O15.out; have := O16.out; have := O17.out; have := O18.out; have := O19.out; omega)); clear HXw; have HXw := P; clear P
  have P := Lib.hid (entryOutE.frame QRw.out (ht.same (by rintro k ⟨z1, z2⟩ ⟨z3, z4⟩; have := O0.out; have := O1.out; have := O2.out; have := O3.out; have := O4.out; have := O5.out; have := O6.out; have := O7.out; have := O8.out; have := O9.out; have := O10.out; have := O11.out; have := O12.out; have := O13.out; have := O14.out; have := O15.out; have := O16.out; have := O17.out; have := O18.out; have := O19.out; omega))); clear QRw; have QRw := P; clear P
  have P := Lib.hid (entryE.ownFrame OY2.out (ht.same (by rintro k ⟨z1, z2⟩ ⟨z3, z4⟩; have := O0.out; have := O1.out; have := O2.out; have := O3.out; have := O4.out; have := O5.out; have := O6.out; have := O7.out; have := O8.out; have := O9.out; have := O10.out; have := O11.out; have := O12.out; have := O13.out; have := O14.out; have := O15.out; have := O16.out; have := O17.out; have := O18.out; have := O19.out; omega))); clear OY2; have OY2 := P; clear P
  have P := Lib.hid (HX2.out.turn ht (by rintro ⟨z3, z4⟩; have := O0.out; have := O1.out; have := O2.out; have := O3.out; have := O4.out; have := O5.out; have := O6.out; have := O7.out; have := O8.out; have := O9.out; have := O10.out; have := O11.out; have := O12.out; have := O13.out; have := O14.out; have := O15.out; have := O16.out; have := O17.out; have := O18.out; have := O19.out; omega)); clear HX2; have HX2 := P; clear P
  have P := Lib.hid (entryOutE.ownFrame OG.out (ht.same (by rintro k ⟨z1, z2⟩ ⟨z3, z4⟩; have := O0.out; have := O1.out; have := O2.out; have := O3.out; have := O4.out; have := O5.out; have := O6.out; have := O7.out; have := O8.out; have := O9.out; have := O10.out; have := O11.out; have := O12.out; have := O13.out; have := O14.out; have := O15.out; have := O16.out; have := O17.out; have := O18.out; have := O19.out; omega))); clear OG; have OG := P; clear P
  have P := Lib.hid (HXg.out.turn ht (by rintro ⟨z3, z4⟩; have := O0.out; have := O1.out; have := O2.out; have := O3.out; have := O4.out; have := O5.out; have := O6.out; have := O7.out; have := O8.out; have := O9.out; have := O10.out; have := O11.out; have := O12.out; have := O13.out; have := O14.out; have := O15.out; have := O16.out; have := O17.out; have := O18.out; have := O19.out; omega)); clear HXg; have HXg := P; clear P
  have B1 := Lib.hid (ht.below B.out (by rintro k ⟨z3, z4⟩; have := O0.out; have := O1.out; have := O2.out; have := O3.out; have := O4.out; have := O5.out; have := O6.out; have := O7.out; have := O8.out; have := O9.out; have := O10.out; have := O11.out; have := O12.out; have := O13.out; have := O14.out; have := O15.out; have := O16.out; have := O17.out; have := O18.out; have := O19.out; omega)); clear B; have B := B1; clear B1
  have O20 := Lib.hid (ht.size)
  clear OY0 ht
  have bm0 := HXw.out.cell 0 rfl
  have bm1 := HXw.out.cell 1 rfl
  have bm2 := HXw.out.cell 2 rfl
  have bm3 := HX2.out.cell 0 rfl
  have bm4 := HX2.out.cell 1 rfl
  have bm5 := HXg.out.cell 0 rfl
  have bm6 := HXg.out.cell 1 rfl
  have bm7 := HXg.out.cell 2 rfl
  go_wp2_with fail
  clear bm0 bm1 bm2 bm3 bm4 bm5 bm6 bm7
  have mz : (a200.length + szL rdnE a200) + ((a201.length + szL attrE a201)) ≤ 1048576 := HZ2.out
  have mc200 := cnt_fit (e := rdnE) a200 (by decide) (by omega)
  have mc201 := cnt_fit (e := attrE) a201 (by decide) (by omega)
  obtain ⟨S0, S1, q0, i0, q1, i1, d01⟩ := entry_ownp OY2.out
  refine (markEntry_fl a200 a201 _ _ S0 S1 (1 + cntL ruleE d0) _ q0 (by omega) (by omega) q1 (by omega) (by omega) d01 (fun b h => by have := (i0 b h).2; have := O0.out; have := O1.out; have := O2.out; have := O3.out; have := O4.out; have := O5.out; have := O6.out; have := O7.out; have := O8.out; have := O9.out; have := O10.out; have := O11.out; have := O12.out; have := O13.out; have := O14.out; have := O15.out; have := O16.out; have := O17.out; have := O18.out; have := O19.out; have := O20.out; omega) (fun b h => by have := (i1 b h).2; have := O0.out; have := O1.out; have := O2.out; have := O3.out; have := O4.out; have := O5.out; have := O6.out; have := O7.out; have := O8.out; have := O9.out; have := O10.out; have := O11.out; have := O12.out; have := O13.out; have := O14.out; have := O15.out; have := O16.out; have := O17.out; have := O18.out; have := O19.out; have := O20.out; omega) (by omega) (by omega)).mono ?_
  rintro e W13 ⟨rfl, _, _, ht⟩
  have ht := ht.wide (fun k z => by rcases z with z | z; exact i0 k z; exact i1 k z)
  clear mz q0 i0 q1 i1 d01
  have P := Lib.hid (HP2.out.turn ht (by rintro ⟨z3, z4⟩; have := O0.out; have := O1.out; have := O2.out; have := O3.out; have := O4.out; have := O5.out; have := O6.out; have := O7.out; have := O8.out; have := O9.out; have := O10.out; have := O11.out; have := O12.out; have := O13.out; have := O14.out; have := O15.out; have := O16.out; have := O17.out; have := O18.out; have := O19.out; have := O20.out; omega)); clear HP2; have HP2 := P; clear P
  have P := Lib.hid (HXw.out.turn ht (by rintro ⟨z3, z4⟩; have := O0.out; have := O1.out; have := O2.out; have := O3.out; have := O4.out; have := O5.out; have := O6.out; have := O7.out; have := O8.out; have := O9.out; have := O10.out; have := O11.out; have := O12.out; have := O13.out; have := O14.out; have := O15.out; have := O16.out; have := O17.out; have := O18.out; have := O19.out; have := O20.out; omega)); clear HXw; have HXw := P; clear P
  have P := Lib.hid (entryOutE.frame QRw.out (ht.same (by rintro k ⟨z1, z2⟩ ⟨z3, z4⟩; have := O0.out; have := O1.out; have := O2.out; have := O3.out; have := O4.out; have := O5.out; have := O6.out; have := O7.out; have := O8.out; have := O9.out; have := O10.out; have := O11.out; have := O12.out; have := O13.out; have := O14.out; have := O15.out; have := O16.out; have := O17.out; have := O18.out; have := O19.out; have := O20.out; omega))); clear QRw; have QRw := P; clear P
  have P := Lib.hid (HX2.out.turn ht (by rintro ⟨z3, z4⟩; have := O0.out; have := O1.out; have := O2.out; have := O3.out; have := O4.out; have := O5.out; have := O6.out; have := O7.out; have := O8.out; have := O9.out; have := O10.out; have := O11.out; have := O12.out; have := O13.out; have := O14.out; have := O15.out; have := O16.out; have := O17.out; have := O18.out; have := O19.out; have := O20.out; omega)); clear HX2; have HX2 := P; clear P
  have P := Lib.hid (entryOutE.ownFrame OG.out (ht.same (by rintro k ⟨z1, z2⟩ ⟨z3, z4⟩; have := O0.out; have := O1.out; have := O2.out; have := O3.out; have := O4.out; have := O5.out; have := O6.out; have := O7.out; have := O8.out; have := O9.out; have := O10.out; have := O11.out; have := O12.out; have := O13.out; have := O14.out; have := O15.out; have := O16.out; have := O17.out; have := O18.out; have := O19.out; have := O20.out; omega))); clear OG; have OG := P; clear P
  have P := Lib.hid (HXg.out.turn ht (by rintro ⟨z3, z4⟩; have := O0.out; have := O1.out; have := O2.out; have := O3.out; have := O4.out; have := O5.out; have := O6.out; have := O7.out; have := O8.out; have := O9.out; have := O10.out; have := O11.out; have := O12.out; have := O13.out; have := O14.out; have := O15.out; have := O16.out; have := O17.out; have := O18.out; have := O19.out; have := O20.out; omega)); clear HXg; have HXg := P; clear P
  have B1 := Lib.hid (ht.below B.out (by rintro k ⟨z3, z4⟩; have := O0.out; have := O1.out; have := O2.out; have := O3.out; have := O4.out; have := O5.out; have := O6.out; have := O7.out; have := O8.out; have := O9.out; have := O10.out; have := O11.out; have := O12.out; have := O13.out; have := O14.out; have := O15.out; have := O16.out; have := O17.out; have := O18.out; have := O19.out; have := O20.out; omega)); clear B; have B := B1; clear B1
  have O21 := Lib.hid (ht.size)
  clear OY2 ht
  have hk : ¬ ((1 + cntL ruleE d0 + cntL rdnE a200 + cntL attrE a201 : Nat) : Int) < 0 := by omega
  have bm0 := HXw.out.cell 0 rfl
  have bm1 := HXw.out.cell 1 rfl
  have bm2 := HXw.out.cell 2 rfl
  have bm3 := HX2.out.cell 0 rfl
  have bm4 := HX2.out.cell 1 rfl
  have bm5 := HXg.out.cell 0 rfl
  have bm6 := HXg.out.cell 1 rfl
  have bm7 := HXg.out.cell 2 rfl
  go_wp2_with fail
  clear bm0 bm1 bm2 bm3 bm4 bm5 bm6 bm7
  refine (HQR.out _ _ _ _ _ _ _ (entryOut_atp (entryOutE.ownAt OG.out)).1 (entryOut_atp (entryOutE.ownAt OG.out)).2 (entryOut_atp QRw.out).1 (entryOut_atp QRw.out).2).mono ?_
  rintro e W14 ⟨rfl, hb⟩
  have P := Lib.hid (HP2.out.below hb); clear HP2; have HP2 := P; clear P
  have P := Lib.hid (HXw.out.below hb); clear HXw; have HXw := P; clear P
  have P := Lib.hid (entryOutE.frame QRw.out (Same.of_below' hb)); clear QRw; have QRw := P; clear P
  have P := Lib.hid (HX2.out.below hb); clear HX2; have HX2 := P; clear P
  have P := Lib.hid (entryOutE.ownFrame OG.out (Same.of_below' hb)); clear OG; have OG := P; clear P
  have P := Lib.hid (HXg.out.below hb); clear HXg; have HXg := P; clear P
  have B1 := Lib.hid (B.out.trans (hb.mono B.out.size)); clear B; have B := B1; clear B1
  have O22 := Lib.hid (hb.size)
  clear hb
  clear hk mc0 mc200 mc201
  have mz : ((a900.length + szL rdnE a900) + ((a901.length + szL attrE a901))) + (0) ≤ 1048576 := HRz.out
  have mc900 := cnt_fit (e := rdnE) a900 (by decide) (by omega)
  have mc901 := cnt_fit (e := attrE) a901 (by decide) (by omega)
  have HH : Hid (∀ (Y : World) (S0 S1 : Bs), SlAt rdnE S0 Y (mkAll rdnE (1) a900) (.slice pg900 a900.length cg900) → SlAt attrE S1 Y (mkAll attrE (1 + cntL rdnE a900) a901) (.slice pg901 a901.length cg901) → Calls Try.prog 31 #[.agg #[.slice pg900 a900.length cg900, .slice pg901 a901.length cg901, .int .i64 a902], .int .i64 1] Y fun e w' => e = .returned (.int .i64 ((1 + cntL rdnE a900 + cntL attrE a901 : Nat) : Int)) ∧ Below Y.heap.size Y w') := Lib.hid (fun Y S0 S1 h0 h1 => heldEntryOut_fl a900 a901 a902 _ _ 1 Y h0 (by omega) (by omega) h1 (by omega) (by omega) (by omega) (by omega))
  have bm0 := HXw.out.cell 0 rfl
  have bm1 := HXw.out.cell 1 rfl
  have bm2 := HXw.out.cell 2 rfl
  have bm3 := HX2.out.cell 0 rfl
  have bm4 := HX2.out.cell 1 rfl
  have bm5 := HXg.out.cell 0 rfl
  have bm6 := HXg.out.cell 1 rfl
  have bm7 := HXg.out.cell 2 rfl
  go_wp2_with fail
  clear bm0 bm1 bm2 bm3 bm4 bm5 bm6 bm7
  obtain ⟨S0, S1, q0, i0, q1, i1, d01⟩ := entryOut_ownp OG.out
  refine (markEntryOut_fl a900 a901 a902 _ _ S0 S1 1 _ q0 (by omega) (by omega) q1 (by omega) (by omega) d01 (fun b h => by have := (i0 b h).2; have := O0.out; have := O1.out; have := O2.out; have := O3.out; have := O4.out; have := O5.out; have := O6.out; have := O7.out; have := O8.out; have := O9.out; have := O10.out; have := O11.out; have := O12.out; have := O13.out; have := O14.out; have := O15.out; have := O16.out; have := O17.out; have := O18.out; have := O19.out; have := O20.out; have := O21.out; have := O22.out; omega) (fun b h => by have := (i1 b h).2; have := O0.out; have := O1.out; have := O2.out; have := O3.out; have := O4.out; have := O5.out; have := O6.out; have := O7.out; have := O8.out; have := O9.out; have := O10.out; have := O11.out; have := O12.out; have := O13.out; have := O14.out; have := O15.out; have := O16.out; have := O17.out; have := O18.out; have := O19.out; have := O20.out; have := O21.out; have := O22.out; omega) (by omega) (by omega)).mono ?_
  rintro e W15 ⟨rfl, r0, r1, ht⟩
  have QM0 := Lib.hid (r0.at.wide i0)
  have QM1 := Lib.hid (r1.at.wide i1)
  have ht := ht.wide (fun k z => by rcases z with z | z; exact i0 k z; exact i1 k z)
  have P := Lib.hid (HP2.out.turn ht (by rintro ⟨z3, z4⟩; have := O0.out; have := O1.out; have := O2.out; have := O3.out; have := O4.out; have := O5.out; have := O6.out; have := O7.out; have := O8.out; have := O9.out; have := O10.out; have := O11.out; have := O12.out; have := O13.out; have := O14.out; have := O15.out; have := O16.out; have := O17.out; have := O18.out; have := O19.out; have := O20.out; have := O21.out; have := O22.out; omega)); clear HP2; have HP2 := P; clear P
  have P := Lib.hid (HXw.out.turn ht (by rintro ⟨z3, z4⟩; have := O0.out; have := O1.out; have := O2.out; have := O3.out; have := O4.out; have := O5.out; have := O6.out; have := O7.out; have := O8.out; have := O9.out; have := O10.out; have := O11.out; have := O12.out; have := O13.out; have := O14.out; have := O15.out; have := O16.out; have := O17.out; have := O18.out; have := O19.out; have := O20.out; have := O21.out; have := O22.out; omega)); clear HXw; have HXw := P; clear P
  have P := Lib.hid (entryOutE.frame QRw.out (ht.same (by rintro k ⟨z1, z2⟩ ⟨z3, z4⟩; have := O0.out; have := O1.out; have := O2.out; have := O3.out; have := O4.out; have := O5.out; have := O6.out; have := O7.out; have := O8.out; have := O9.out; have := O10.out; have := O11.out; have := O12.out; have := O13.out; have := O14.out; have := O15.out; have := O16.out; have := O17.out; have := O18.out; have := O19.out; have := O20.out; have := O21.out; have := O22.out; omega))); clear QRw; have QRw := P; clear P
  have P := Lib.hid (HX2.out.turn ht (by rintro ⟨z3, z4⟩; have := O0.out; have := O1.out; have := O2.out; have := O3.out; have := O4.out; have := O5.out; have := O6.out; have := O7.out; have := O8.out; have := O9.out; have := O10.out; have := O11.out; have := O12.out; have := O13.out; have := O14.out; have := O15.out; have := O16.out; have := O17.out; have := O18.out; have := O19.out; have := O20.out; have := O21.out; have := O22.out; omega)); clear HX2; have HX2 := P; clear P
  have P := Lib.hid (HXg.out.turn ht (by rintro ⟨z3, z4⟩; have := O0.out; have := O1.out; have := O2.out; have := O3.out; have := O4.out; have := O5.out; have := O6.out; have := O7.out; have := O8.out; have := O9.out; have := O10.out; have := O11.out; have := O12.out; have := O13.out; have := O14.out; have := O15.out; have := O16.out; have := O17.out; have := O18.out; have := O19.out; have := O20.out; have := O21.out; have := O22.out; omega)); clear HXg; have HXg := P; clear P
  have B1 := Lib.hid (ht.below B.out (by rintro k ⟨z3, z4⟩; have := O0.out; have := O1.out; have := O2.out; have := O3.out; have := O4.out; have := O5.out; have := O6.out; have := O7.out; have := O8.out; have := O9.out; have := O10.out; have := O11.out; have := O12.out; have := O13.out; have := O14.out; have := O15.out; have := O16.out; have := O17.out; have := O18.out; have := O19.out; have := O20.out; have := O21.out; have := O22.out; omega)); clear B; have B := B1; clear B1
  have O23 := Lib.hid (ht.size)
  clear OG ht q0 i0 r0 q1 i1 r1 d01
  have hq1 : ¬ ((1 + cntL rdnE a900 + cntL attrE a901 : Nat) : Int) < 0 := by omega
  generalize ((1 + cntL rdnE a900 + cntL attrE a901 : Nat) : Int) = Q at *
  have hq2 : (Q != Q) = false := by simp
  clear mz mc900 mc901
  have bm0 := HXw.out.cell 0 rfl
  have bm1 := HXw.out.cell 1 rfl
  have bm2 := HXw.out.cell 2 rfl
  have bm3 := HX2.out.cell 0 rfl
  have bm4 := HX2.out.cell 1 rfl
  have bm5 := HXg.out.cell 0 rfl
  have bm6 := HXg.out.cell 1 rfl
  have bm7 := HXg.out.cell 2 rfl
  go_wp2_with fail
  clear bm0 bm1 bm2 bm3 bm4 bm5 bm6 bm7
  refine (HH.out _ _ _ QM0.out QM1.out).mono ?_
  rintro e W16 ⟨rfl, hb⟩
  have P := Lib.hid (HP2.out.below hb); clear HP2; have HP2 := P; clear P
  have P := Lib.hid (HXw.out.below hb); clear HXw; have HXw := P; clear P
  have P := Lib.hid (entryOutE.frame QRw.out (Same.of_below' hb)); clear QRw; have QRw := P; clear P
  have P := Lib.hid (HX2.out.below hb); clear HX2; have HX2 := P; clear P
  have P := Lib.hid (HXg.out.below hb); clear HXg; have HXg := P; clear P
  have P := Lib.hid (QM0.out.frame (Same.of_below' hb)); clear QM0; have QM0 := P; clear P
  have P := Lib.hid (QM1.out.frame (Same.of_below' hb)); clear QM1; have QM1 := P; clear P
  have B1 := Lib.hid (B.out.trans (hb.mono B.out.size)); clear B; have B := B1; clear B1
  have O24 := Lib.hid (hb.size)
  clear hb
  have bm0 := HXw.out.cell 0 rfl
  have bm1 := HXw.out.cell 1 rfl
  have bm2 := HXw.out.cell 2 rfl
  have bm3 := HX2.out.cell 0 rfl
  have bm4 := HX2.out.cell 1 rfl
  have bm5 := HXg.out.cell 0 rfl
  have bm6 := HXg.out.cell 1 rfl
  have bm7 := HXg.out.cell 2 rfl
  go_wp2
  clear bm0 bm1 bm2 bm3 bm4 bm5 bm6 bm7
  have SK : Hid (∀ Z' : World, Below W16.heap.size W16 Z' → Z'.cell? ⟨w.heap.size, 0, none⟩ = some (.slice o200 a200.length k200) ∧ Z'.cell? ⟨w.heap.size, 1, none⟩ = some (.slice o201 a201.length k201)) := Lib.hid (fun Z' h => ⟨(HP2.out.below h).cell 0 rfl, (HP2.out.below h).cell 1 rfl⟩)
  refine region_join (fun A0 a2 w2 => ∃ (g : Nat) (t0 t1 t2 t3 t4 t5 : Value) (ph900 : Option Addr) (ch900 : Nat) (ph901 : Option Addr) (ch901 : Nat), a2 = (((((((A0.put (some 82) t0).put (some 83) t1).put (some 84) t2).put (some 85) t3).put (some 86) t4).put (some 87) t5).put (some 15) (.pointer (some ⟨g, 0, none⟩))) ∧ Below W16.heap.size W16 w2 ∧ W16.heap.size ≤ g ∧ Blk w2 g [.slice ph900 a900.length ch900, .slice ph901 a901.length ch901, .int .i64 a902] ∧ entryOutE.At (Fresh W16 w2) w2 ((a900, a901), a902) [.slice ph900 a900.length ch900, .slice ph901 a901.length ch901, .int .i64 a902]) ?_ ?_
  · have HBD : Hid (Below W16.heap.size W16 W16.drew) := Lib.hid (Below.refl _ _).drew
    refine wp_region_held_drew (S := (fun Z' => Z'.cell? ⟨w.heap.size, 0, none⟩ = some (.slice o200 a200.length k200) ∧ Z'.cell? ⟨w.heap.size, 1, none⟩ = some (.slice o201 a201.length k201))) (by kernel_rfl) ?_ (fun hHeld => ?_)
    · (try dsimp only)
      exact SK.out _ HBD.out
    refine wpAnyH_take (i := 0) (oi := { dst := some 82, op := Op.move (Operand.tmp 0), type := 22, pos := "exact.go:3932", after := #[], guard := none }) (v := ?_) rfl (by kernel_rfl) (by kernel_rfl) (by kernel_rfl) (fun _ _ _ h => h) (Or.inl ⟨by rfl, ?_⟩) (by assumption) ?_
    rotate_left
    · intro w hSw; (try dsimp only at hSw); go_simp; (try with_reducible rfl)
    (try simp only [Act.put, List.setIfInBounds_toArray, List.set_cons_zero, List.set_cons_succ])
    refine wpAnyH_take (i := 2) (oi := { dst := some 84, op := Op.move (Operand.tmp 1), type := 9, pos := "exact.go:3932", after := #[], guard := none }) (v := ?_) rfl (by kernel_rfl) (by kernel_rfl) (by kernel_rfl) (fun _ _ _ h => h) (Or.inl ⟨by rfl, ?_⟩) (by assumption) ?_
    rotate_left
    · intro w hSw; (try dsimp only at hSw); go_simp; (try with_reducible rfl)
    (try simp only [Act.put, List.setIfInBounds_toArray, List.set_cons_zero, List.set_cons_succ])
    refine wpAnyH_take (i := 3) (oi := { dst := some 85, op := Op.load 38 (Operand.tmp 5), type := 38, pos := "exact.go:3932", after := #[], guard := none }) (v := ?_) rfl (by kernel_rfl) (by kernel_rfl) (by kernel_rfl) (fun _ _ _ h => h) (Or.inl ⟨by rfl, ?_⟩) (by assumption) ?_
    rotate_left
    · intro w hSw; (try dsimp only at hSw); go_simp; (try with_reducible rfl)
    (try simp only [Act.put, List.setIfInBounds_toArray, List.set_cons_zero, List.set_cons_succ])
    refine wpAnyH_ready (rs := [1, 6]) (by kernel_rfl) (by simp) ?_
    refine AllReadyH.cons (o := { dst := some 83, op := Op.call { callee := Callee.value (Operand.func 14), args := #[Operand.tmp 82], argTypes := #[22] }, type := 25, pos := "exact.go:3932", after := #[{ on := 0, ground := Ground.data }], guard := none }) rfl (fun K hK => ?_) (AllReadyH.cons (o := { dst := some 15, op := Op.alloc 44, type := 0, pos := "exact.go:3932", after := #[], guard := none }) rfl (fun K hK => ?_) (AllReadyH.nil))
    · go_simp
      refine (HT0.out _ (B.out.trans (HBD.out.mono B.out.size))).mono ?_
      rintro e wh0 ⟨x0, rfl, q, hb⟩
      have HBD := Lib.hid (HBD.out.trans (hb.mono HBD.out.size))
      have QX0 := Lib.hid q.at; clear q hb
      obtain ⟨px0, cx0, rfl⟩ := QX0.out.sl
      clear hHeld
      refine hK.out _ _ ?_ (fun hHeld => ?_)
      · (try dsimp only)
        exact SK.out _ HBD.out
      clear hK K
      (try simp only [Act.put, List.setIfInBounds_toArray, List.set_cons_zero, List.set_cons_succ])
      refine wpAnyH_ready (rs := [4, 6]) (by kernel_rfl) (by simp) ?_
      refine AllReadyH.cons (o := { dst := some 86, op := Op.call { callee := Callee.value (Operand.func 24), args := #[Operand.tmp 85], argTypes := #[38] }, type := 42, pos := "exact.go:3932", after := #[{ on := 3, ground := Ground.data }, { on := 1, ground := Ground.chain }], guard := none }) rfl (fun K hK => ?_) (AllReadyH.cons (o := { dst := some 15, op := Op.alloc 44, type := 0, pos := "exact.go:3932", after := #[], guard := none }) rfl (fun K hK => ?_) (AllReadyH.nil))
      · go_simp
        refine (HT2.out _ (B.out.trans (HBD.out.mono B.out.size))).mono ?_
        rintro e wh1 ⟨x200, x201, rfl, q, hb⟩
        have HBD := Lib.hid (HBD.out.trans (hb.mono HBD.out.size))
        have P := Lib.hid (QX0.out.frame (Same.of_below' hb)); clear QX0; have QX0 := P; clear P
        have QX2 := Lib.hid (entryE.ownAt q); clear q hb
        have Z := entry_atp QX2.out
        obtain ⟨px200, cx200, rfl⟩ := Z.1.sl
        obtain ⟨px201, cx201, rfl⟩ := Z.2.sl
        clear Z
        clear hHeld
        refine hK.out _ _ ?_ (fun hHeld => ?_)
        · (try dsimp only)
          exact SK.out _ HBD.out
        clear hK K
        (try simp only [Act.put, List.setIfInBounds_toArray, List.set_cons_zero, List.set_cons_succ])
        refine wpAnyH_ready (rs := [5, 6]) (by kernel_rfl) (by simp) ?_
        refine AllReadyH.cons (o := { dst := some 87, op := Op.call { callee := Callee.value (Operand.func 25), args := #[Operand.tmp 83, Operand.tmp 84, Operand.tmp 86], argTypes := #[25, 9, 42] }, type := 44, pos := "exact.go:3932", after := #[{ on := 1, ground := Ground.data }, { on := 2, ground := Ground.data }, { on := 4, ground := Ground.data }, { on := 4, ground := Ground.chain }], guard := none }) rfl (fun K hK => ?_) (AllReadyH.cons (o := { dst := some 15, op := Op.alloc 44, type := 0, pos := "exact.go:3932", after := #[], guard := none }) rfl (fun K hK => ?_) (AllReadyH.nil))
        · go_simp
          have hpl : W16.heap.size ≤ (wh1).heap.size := HBD.out.size
          refine (HI.out _ _ _ _ _ _ _ QX0.out (entry_atp QX2.out).1 (entry_atp QX2.out).2).mono ?_
          rintro e wh2 ⟨⟨u900, u901, rfl, q⟩, hb⟩
          have HBD := Lib.hid (HBD.out.trans (hb.mono HBD.out.size))
          have QR := Lib.hid (entryOutE.ownAt q); clear q hb
          have Z := entryOut_atp QR.out
          obtain ⟨ph900, ch900, rfl⟩ := Z.1.sl
          obtain ⟨ph901, ch901, rfl⟩ := Z.2.sl
          clear Z
          clear hHeld
          refine hK.out _ _ ?_ (fun hHeld => ?_)
          · (try dsimp only)
            exact SK.out _ HBD.out
          clear hK K
          (try simp only [Act.put, List.setIfInBounds_toArray, List.set_cons_zero, List.set_cons_succ])
          refine wpAnyH_ready (rs := [6]) (by kernel_rfl) (by simp) ?_
          refine AllReadyH.cons (o := { dst := some 15, op := Op.alloc 44, type := 0, pos := "exact.go:3932", after := #[], guard := none }) rfl (fun K hK => ?_) (AllReadyH.nil)
          go_simp
          have HBDp := HBD
          have QRp := QR
          have hb : Below (wh2).heap.size (wh2) ((wh2).alloc (.cells #[.slice none 0 0, .slice none 0 0, .int .i64 0] 44)) := more' (Below.refl _ _) _
          have hg : W16.heap.size ≤ (wh2).heap.size := HBD.out.size
          have HBD := Lib.hid (HBD.out.trans (hb.mono HBD.out.size))
          have P := Lib.hid (entryOutE.frame QR.out (Same.of_below' hb)); clear QR; have QR := P; clear P
          have HA : Hid (Blk ((wh2).alloc (.cells #[.slice none 0 0, .slice none 0 0, .int .i64 0] 44)) (wh2).heap.size [.slice none 0 0, .slice none 0 0, .int .i64 0]) := Lib.hid (Blk.new _ _ _)
          clear hb
          have ng : ¬ Fresh (wh1) wh2 ((wh2).heap.size) := by intro h; have := h.2; omega
          clear hHeld
          refine hK.out _ _ ?_ (fun hHeld => ?_)
          · (try dsimp only)
            exact SK.out _ HBD.out
          clear hK K
          (try simp only [Act.put, List.setIfInBounds_toArray, List.set_cons_zero, List.set_cons_succ])
          refine wpAnyH_ready (rs := [7]) (by kernel_rfl) (by simp) ?_
          refine AllReadyH.cons (o := { dst := none, op := Op.store 44 (Operand.tmp 15) (Operand.tmp 87), type := 0, pos := "exact.go:3932", after := #[{ on := 6, ground := Ground.data }, { on := 5, ground := Ground.data }, { on := 5, ground := Ground.chain }, { on := 0, ground := Ground.phase }, { on := 1, ground := Ground.phase }, { on := 2, ground := Ground.phase }, { on := 3, ground := Ground.phase }, { on := 4, ground := Ground.phase }, { on := 5, ground := Ground.phase }, { on := 6, ground := Ground.phase }], guard := none }) rfl (fun K hK => ?_) (AllReadyH.nil)
          go_simp
          have HBD : Hid (Below W16.heap.size W16 ((wh2).alloc (.cells #[.slice ph900 a900.length ch900, .slice ph901 a901.length ch901, .int .i64 a902] 44))) := Lib.hid (more' HBDp.out _)
          clear hHeld
          refine hK.out _ _ ?_ (fun hHeld => ?_)
          · (try dsimp only)
            exact SK.out _ HBD.out
          clear hK K
          (try simp only [Act.put, List.setIfInBounds_toArray, List.set_cons_zero, List.set_cons_succ])
          refine wpAnyH_done (by kernel_rfl) ?_ _
          refine ⟨(wh2).heap.size, .slice o0 d0.length k0, .slice px0 d0.length cx0, .string s1, .agg #[.slice o200 a200.length k200, .slice o201 a201.length k201], .agg #[.slice px200 a200.length cx200, .slice px201 a201.length cx201], .agg #[.slice ph900 a900.length ch900, .slice ph901 a901.length ch901, .int .i64 a902], _, _, _, _, ?_, HBD.out, hg, Blk.new _ _ _, entryOutE.wide (entryOutE.frame QRp.out (Same.of_below' (more' (Below.refl _ _) _))) (fun k hk => ⟨by have := hk.1; omega, by have h1 := hk.2; simp only [World.size_alloc]; omega⟩)⟩
          first | rfl | (simp only [Act.put, List.setIfInBounds_toArray, List.set_cons_zero, List.set_cons_succ]; done) | (simp only [Act.put, List.setIfInBounds_toArray, List.set_cons_zero, List.set_cons_succ]; rfl)
        · go_simp
          have hb : Below (wh1).heap.size (wh1) ((wh1).alloc (.cells #[.slice none 0 0, .slice none 0 0, .int .i64 0] 44)) := more' (Below.refl _ _) _
          have hg : W16.heap.size ≤ (wh1).heap.size := HBD.out.size
          have HBD := Lib.hid (HBD.out.trans (hb.mono HBD.out.size))
          have P := Lib.hid (QX0.out.frame (Same.of_below' hb)); clear QX0; have QX0 := P; clear P
          have P := Lib.hid (entryE.frame QX2.out (Same.of_below' hb)); clear QX2; have QX2 := P; clear P
          have HA : Hid (Blk ((wh1).alloc (.cells #[.slice none 0 0, .slice none 0 0, .int .i64 0] 44)) (wh1).heap.size [.slice none 0 0, .slice none 0 0, .int .i64 0]) := Lib.hid (Blk.new _ _ _)
          clear hb
          clear hHeld
          refine hK.out _ _ ?_ (fun hHeld => ?_)
          · (try dsimp only)
            exact SK.out _ HBD.out
          clear hK K
          (try simp only [Act.put, List.setIfInBounds_toArray, List.set_cons_zero, List.set_cons_succ])
          refine wpAnyH_ready (rs := [5]) (by kernel_rfl) (by simp) ?_
          refine AllReadyH.cons (o := { dst := some 87, op := Op.call { callee := Callee.value (Operand.func 25), args := #[Operand.tmp 83, Operand.tmp 84, Operand.tmp 86], argTypes := #[25, 9, 42] }, type := 44, pos := "exact.go:3932", after := #[{ on := 1, ground := Ground.data }, { on := 2, ground := Ground.data }, { on := 4, ground := Ground.data }, { on := 4, ground := Ground.chain }], guard := none }) rfl (fun K hK => ?_) (AllReadyH.nil)
          go_simp
          have hpl : W16.heap.size ≤ (((wh1).alloc (.cells #[.slice none 0 0, .slice none 0 0, .int .i64 0] 44))).heap.size := HBD.out.size
          have hgl := HA.out.lt
          refine (HI.out _ _ _ _ _ _ _ QX0.out (entry_atp QX2.out).1 (entry_atp QX2.out).2).mono ?_
          rintro e wh2 ⟨⟨u900, u901, rfl, q⟩, hb⟩
          have HBD := Lib.hid (HBD.out.trans (hb.mono HBD.out.size))
          have P := Lib.hid (HA.out.below hb); clear HA; have HA := P; clear P
          have QR := Lib.hid (entryOutE.ownAt q); clear q hb
          have Z := entryOut_atp QR.out
          obtain ⟨ph900, ch900, rfl⟩ := Z.1.sl
          obtain ⟨ph901, ch901, rfl⟩ := Z.2.sl
          clear Z
          have ng : ¬ Fresh (((wh1).alloc (.cells #[.slice none 0 0, .slice none 0 0, .int .i64 0] 44))) wh2 ((wh1).heap.size) := by intro h; have := h.1; omega
          clear hHeld
          refine hK.out _ _ ?_ (fun hHeld => ?_)
          · (try dsimp only)
            exact SK.out _ HBD.out
          clear hK K
          (try simp only [Act.put, List.setIfInBounds_toArray, List.set_cons_zero, List.set_cons_succ])
          refine wpAnyH_ready (rs := [7]) (by kernel_rfl) (by simp) ?_
          refine AllReadyH.cons (o := { dst := none, op := Op.store 44 (Operand.tmp 15) (Operand.tmp 87), type := 0, pos := "exact.go:3932", after := #[{ on := 6, ground := Ground.data }, { on := 5, ground := Ground.data }, { on := 5, ground := Ground.chain }, { on := 0, ground := Ground.phase }, { on := 1, ground := Ground.phase }, { on := 2, ground := Ground.phase }, { on := 3, ground := Ground.phase }, { on := 4, ground := Ground.phase }, { on := 5, ground := Ground.phase }, { on := 6, ground := Ground.phase }], guard := none }) rfl (fun K hK => ?_) (AllReadyH.nil)
          have bx0 := HA.out.cell 0 rfl
          have bx1 := HA.out.cell 1 rfl
          have bx2 := HA.out.cell 2 rfl
          have bf0 := HA.out.soft 0
          have bf1 := HA.out.soft 1
          have bf2 := HA.out.soft 2
          go_simp
          clear bx0 bf0 bx1 bf1 bx2 bf2
          have HBD0 := HBD
          have HBD : Hid (Below W16.heap.size W16 ((((wh2).setCell ⟨(wh1).heap.size, 0, none⟩ (.slice ph900 a900.length ch900)).setCell ⟨(wh1).heap.size, 1, none⟩ (.slice ph901 a901.length ch901)).setCell ⟨(wh1).heap.size, 2, none⟩ (.int .i64 a902))) := Lib.hid (((HBD.out.setCell (p := ⟨(wh1).heap.size, 0, none⟩) hg (.slice ph900 a900.length ch900)).setCell (p := ⟨(wh1).heap.size, 1, none⟩) hg (.slice ph901 a901.length ch901)).setCell (p := ⟨(wh1).heap.size, 2, none⟩) hg (.int .i64 a902))
          clear hHeld
          refine hK.out _ _ ?_ (fun hHeld => ?_)
          · (try dsimp only)
            exact SK.out _ HBD.out
          clear hK K
          (try simp only [Act.put, List.setIfInBounds_toArray, List.set_cons_zero, List.set_cons_succ])
          refine wpAnyH_done (by kernel_rfl) ?_ _
          refine ⟨(wh1).heap.size, .slice o0 d0.length k0, .slice px0 d0.length cx0, .string s1, .agg #[.slice o200 a200.length k200, .slice o201 a201.length k201], .agg #[.slice px200 a200.length cx200, .slice px201 a201.length cx201], .agg #[.slice ph900 a900.length ch900, .slice ph901 a901.length ch901, .int .i64 a902], _, _, _, _, ?_, HBD.out, hg, (((HA.out.set 0 (.slice ph900 a900.length ch900)).set 1 (.slice ph901 a901.length ch901)).set 2 (.int .i64 a902)), entryOutE.wide (entryOutE.frame (entryOutE.frame (entryOutE.frame QR.out (Same.set _ (g := (wh1).heap.size) 0 _ ng)) (Same.set _ (g := (wh1).heap.size) 1 _ ng)) (Same.set _ (g := (wh1).heap.size) 2 _ ng)) (fun k hk => ⟨by have := hk.1; omega, by have h1 := hk.2; simp only [setCell_size, World.size_alloc]; omega⟩)⟩
          first | rfl | (simp only [Act.put, List.setIfInBounds_toArray, List.set_cons_zero, List.set_cons_succ]; done) | (simp only [Act.put, List.setIfInBounds_toArray, List.set_cons_zero, List.set_cons_succ]; rfl)
      · go_simp
        have hb : Below (wh0).heap.size (wh0) ((wh0).alloc (.cells #[.slice none 0 0, .slice none 0 0, .int .i64 0] 44)) := more' (Below.refl _ _) _
        have hg : W16.heap.size ≤ (wh0).heap.size := HBD.out.size
        have HBD := Lib.hid (HBD.out.trans (hb.mono HBD.out.size))
        have P := Lib.hid (QX0.out.frame (Same.of_below' hb)); clear QX0; have QX0 := P; clear P
        have HA : Hid (Blk ((wh0).alloc (.cells #[.slice none 0 0, .slice none 0 0, .int .i64 0] 44)) (wh0).heap.size [.slice none 0 0, .slice none 0 0, .int .i64 0]) := Lib.hid (Blk.new _ _ _)
        clear hb
        clear hHeld
        refine hK.out _ _ ?_ (fun hHeld => ?_)
        · (try dsimp only)
          exact SK.out _ HBD.out
        clear hK K
        (try simp only [Act.put, List.setIfInBounds_toArray, List.set_cons_zero, List.set_cons_succ])
        refine wpAnyH_ready (rs := [4]) (by kernel_rfl) (by simp) ?_
        refine AllReadyH.cons (o := { dst := some 86, op := Op.call { callee := Callee.value (Operand.func 24), args := #[Operand.tmp 85], argTypes := #[38] }, type := 42, pos := "exact.go:3932", after := #[{ on := 3, ground := Ground.data }, { on := 1, ground := Ground.chain }], guard := none }) rfl (fun K hK => ?_) (AllReadyH.nil)
        go_simp
        refine (HT2.out _ (B.out.trans (HBD.out.mono B.out.size))).mono ?_
        rintro e wh1 ⟨x200, x201, rfl, q, hb⟩
        have HBD := Lib.hid (HBD.out.trans (hb.mono HBD.out.size))
        have P := Lib.hid (QX0.out.frame (Same.of_below' hb)); clear QX0; have QX0 := P; clear P
        have P := Lib.hid (HA.out.below hb); clear HA; have HA := P; clear P
        have QX2 := Lib.hid (entryE.ownAt q); clear q hb
        have Z := entry_atp QX2.out
        obtain ⟨px200, cx200, rfl⟩ := Z.1.sl
        obtain ⟨px201, cx201, rfl⟩ := Z.2.sl
        clear Z
        clear hHeld
        refine hK.out _ _ ?_ (fun hHeld => ?_)
        · (try dsimp only)
          exact SK.out _ HBD.out
        clear hK K
        (try simp only [Act.put, List.setIfInBounds_toArray, List.set_cons_zero, List.set_cons_succ])
        refine wpAnyH_ready (rs := [5]) (by kernel_rfl) (by simp) ?_
        refine AllReadyH.cons (o := { dst := some 87, op := Op.call { callee := Callee.value (Operand.func 25), args := #[Operand.tmp 83, Operand.tmp 84, Operand.tmp 86], argTypes := #[25, 9, 42] }, type := 44, pos := "exact.go:3932", after := #[{ on := 1, ground := Ground.data }, { on := 2, ground := Ground.data }, { on := 4, ground := Ground.data }, { on := 4, ground := Ground.chain }], guard := none }) rfl (fun K hK => ?_) (AllReadyH.nil)
        go_simp
        have hpl : W16.heap.size ≤ (wh1).heap.size := HBD.out.size
        have hgl := HA.out.lt
        refine (HI.out _ _ _ _ _ _ _ QX0.out (entry_atp QX2.out).1 (entry_atp QX2.out).2).mono ?_
        rintro e wh2 ⟨⟨u900, u901, rfl, q⟩, hb⟩
        have HBD := Lib.hid (HBD.out.trans (hb.mono HBD.out.size))
        have P := Lib.hid (HA.out.below hb); clear HA; have HA := P; clear P
        have QR := Lib.hid (entryOutE.ownAt q); clear q hb
        have Z := entryOut_atp QR.out
        obtain ⟨ph900, ch900, rfl⟩ := Z.1.sl
        obtain ⟨ph901, ch901, rfl⟩ := Z.2.sl
        clear Z
        have ng : ¬ Fresh (wh1) wh2 ((wh0).heap.size) := by intro h; have := h.1; omega
        clear hHeld
        refine hK.out _ _ ?_ (fun hHeld => ?_)
        · (try dsimp only)
          exact SK.out _ HBD.out
        clear hK K
        (try simp only [Act.put, List.setIfInBounds_toArray, List.set_cons_zero, List.set_cons_succ])
        refine wpAnyH_ready (rs := [7]) (by kernel_rfl) (by simp) ?_
        refine AllReadyH.cons (o := { dst := none, op := Op.store 44 (Operand.tmp 15) (Operand.tmp 87), type := 0, pos := "exact.go:3932", after := #[{ on := 6, ground := Ground.data }, { on := 5, ground := Ground.data }, { on := 5, ground := Ground.chain }, { on := 0, ground := Ground.phase }, { on := 1, ground := Ground.phase }, { on := 2, ground := Ground.phase }, { on := 3, ground := Ground.phase }, { on := 4, ground := Ground.phase }, { on := 5, ground := Ground.phase }, { on := 6, ground := Ground.phase }], guard := none }) rfl (fun K hK => ?_) (AllReadyH.nil)
        have bx0 := HA.out.cell 0 rfl
        have bx1 := HA.out.cell 1 rfl
        have bx2 := HA.out.cell 2 rfl
        have bf0 := HA.out.soft 0
        have bf1 := HA.out.soft 1
        have bf2 := HA.out.soft 2
        go_simp
        clear bx0 bf0 bx1 bf1 bx2 bf2
        have HBD0 := HBD
        have HBD : Hid (Below W16.heap.size W16 ((((wh2).setCell ⟨(wh0).heap.size, 0, none⟩ (.slice ph900 a900.length ch900)).setCell ⟨(wh0).heap.size, 1, none⟩ (.slice ph901 a901.length ch901)).setCell ⟨(wh0).heap.size, 2, none⟩ (.int .i64 a902))) := Lib.hid (((HBD.out.setCell (p := ⟨(wh0).heap.size, 0, none⟩) hg (.slice ph900 a900.length ch900)).setCell (p := ⟨(wh0).heap.size, 1, none⟩) hg (.slice ph901 a901.length ch901)).setCell (p := ⟨(wh0).heap.size, 2, none⟩) hg (.int .i64 a902))
        clear hHeld
        refine hK.out _ _ ?_ (fun hHeld => ?_)
        · (try dsimp only)
          exact SK.out _ HBD.out
        clear hK K
        (try simp only [Act.put, List.setIfInBounds_toArray, List.set_cons_zero, List.set_cons_succ])
        refine wpAnyH_done (by kernel_rfl) ?_ _
        refine ⟨(wh0).heap.size, .slice o0 d0.length k0, .slice px0 d0.length cx0, .string s1, .agg #[.slice o200 a200.length k200, .slice o201 a201.length k201], .agg #[.slice px200 a200.length cx200, .slice px201 a201.length cx201], .agg #[.slice ph900 a900.length ch900, .slice ph901 a901.length ch901, .int .i64 a902], _, _, _, _, ?_, HBD.out, hg, (((HA.out.set 0 (.slice ph900 a900.length ch900)).set 1 (.slice ph901 a901.length ch901)).set 2 (.int .i64 a902)), entryOutE.wide (entryOutE.frame (entryOutE.frame (entryOutE.frame QR.out (Same.set _ (g := (wh0).heap.size) 0 _ ng)) (Same.set _ (g := (wh0).heap.size) 1 _ ng)) (Same.set _ (g := (wh0).heap.size) 2 _ ng)) (fun k hk => ⟨by have := hk.1; omega, by have h1 := hk.2; simp only [setCell_size, World.size_alloc]; omega⟩)⟩
        first | rfl | (simp only [Act.put, List.setIfInBounds_toArray, List.set_cons_zero, List.set_cons_succ]; done) | (simp only [Act.put, List.setIfInBounds_toArray, List.set_cons_zero, List.set_cons_succ]; rfl)
    · go_simp
      have hb : Below (W16.drew).heap.size (W16.drew) ((W16.drew).alloc (.cells #[.slice none 0 0, .slice none 0 0, .int .i64 0] 44)) := more' (Below.refl _ _) _
      have hg : W16.heap.size ≤ W16.heap.size := HBD.out.size
      have HBD := Lib.hid (HBD.out.trans (hb.mono HBD.out.size))
      have HA : Hid (Blk ((W16.drew).alloc (.cells #[.slice none 0 0, .slice none 0 0, .int .i64 0] 44)) W16.heap.size [.slice none 0 0, .slice none 0 0, .int .i64 0]) := Lib.hid (Blk.new _ _ _)
      clear hb
      clear hHeld
      refine hK.out _ _ ?_ (fun hHeld => ?_)
      · (try dsimp only)
        exact SK.out _ HBD.out
      clear hK K
      (try simp only [Act.put, List.setIfInBounds_toArray, List.set_cons_zero, List.set_cons_succ])
      refine wpAnyH_ready (rs := [1]) (by kernel_rfl) (by simp) ?_
      refine AllReadyH.cons (o := { dst := some 83, op := Op.call { callee := Callee.value (Operand.func 14), args := #[Operand.tmp 82], argTypes := #[22] }, type := 25, pos := "exact.go:3932", after := #[{ on := 0, ground := Ground.data }], guard := none }) rfl (fun K hK => ?_) (AllReadyH.nil)
      go_simp
      refine (HT0.out _ (B.out.trans (HBD.out.mono B.out.size))).mono ?_
      rintro e wh0 ⟨x0, rfl, q, hb⟩
      have HBD := Lib.hid (HBD.out.trans (hb.mono HBD.out.size))
      have P := Lib.hid (HA.out.below hb); clear HA; have HA := P; clear P
      have QX0 := Lib.hid q.at; clear q hb
      obtain ⟨px0, cx0, rfl⟩ := QX0.out.sl
      clear hHeld
      refine hK.out _ _ ?_ (fun hHeld => ?_)
      · (try dsimp only)
        exact SK.out _ HBD.out
      clear hK K
      (try simp only [Act.put, List.setIfInBounds_toArray, List.set_cons_zero, List.set_cons_succ])
      refine wpAnyH_ready (rs := [4]) (by kernel_rfl) (by simp) ?_
      refine AllReadyH.cons (o := { dst := some 86, op := Op.call { callee := Callee.value (Operand.func 24), args := #[Operand.tmp 85], argTypes := #[38] }, type := 42, pos := "exact.go:3932", after := #[{ on := 3, ground := Ground.data }, { on := 1, ground := Ground.chain }], guard := none }) rfl (fun K hK => ?_) (AllReadyH.nil)
      go_simp
      refine (HT2.out _ (B.out.trans (HBD.out.mono B.out.size))).mono ?_
      rintro e wh1 ⟨x200, x201, rfl, q, hb⟩
      have HBD := Lib.hid (HBD.out.trans (hb.mono HBD.out.size))
      have P := Lib.hid (HA.out.below hb); clear HA; have HA := P; clear P
      have P := Lib.hid (QX0.out.frame (Same.of_below' hb)); clear QX0; have QX0 := P; clear P
      have QX2 := Lib.hid (entryE.ownAt q); clear q hb
      have Z := entry_atp QX2.out
      obtain ⟨px200, cx200, rfl⟩ := Z.1.sl
      obtain ⟨px201, cx201, rfl⟩ := Z.2.sl
      clear Z
      clear hHeld
      refine hK.out _ _ ?_ (fun hHeld => ?_)
      · (try dsimp only)
        exact SK.out _ HBD.out
      clear hK K
      (try simp only [Act.put, List.setIfInBounds_toArray, List.set_cons_zero, List.set_cons_succ])
      refine wpAnyH_ready (rs := [5]) (by kernel_rfl) (by simp) ?_
      refine AllReadyH.cons (o := { dst := some 87, op := Op.call { callee := Callee.value (Operand.func 25), args := #[Operand.tmp 83, Operand.tmp 84, Operand.tmp 86], argTypes := #[25, 9, 42] }, type := 44, pos := "exact.go:3932", after := #[{ on := 1, ground := Ground.data }, { on := 2, ground := Ground.data }, { on := 4, ground := Ground.data }, { on := 4, ground := Ground.chain }], guard := none }) rfl (fun K hK => ?_) (AllReadyH.nil)
      go_simp
      have hpl : W16.heap.size ≤ (wh1).heap.size := HBD.out.size
      have hgl := HA.out.lt
      refine (HI.out _ _ _ _ _ _ _ QX0.out (entry_atp QX2.out).1 (entry_atp QX2.out).2).mono ?_
      rintro e wh2 ⟨⟨u900, u901, rfl, q⟩, hb⟩
      have HBD := Lib.hid (HBD.out.trans (hb.mono HBD.out.size))
      have P := Lib.hid (HA.out.below hb); clear HA; have HA := P; clear P
      have QR := Lib.hid (entryOutE.ownAt q); clear q hb
      have Z := entryOut_atp QR.out
      obtain ⟨ph900, ch900, rfl⟩ := Z.1.sl
      obtain ⟨ph901, ch901, rfl⟩ := Z.2.sl
      clear Z
      have ng : ¬ Fresh (wh1) wh2 (W16.heap.size) := by intro h; have := h.1; omega
      clear hHeld
      refine hK.out _ _ ?_ (fun hHeld => ?_)
      · (try dsimp only)
        exact SK.out _ HBD.out
      clear hK K
      (try simp only [Act.put, List.setIfInBounds_toArray, List.set_cons_zero, List.set_cons_succ])
      refine wpAnyH_ready (rs := [7]) (by kernel_rfl) (by simp) ?_
      refine AllReadyH.cons (o := { dst := none, op := Op.store 44 (Operand.tmp 15) (Operand.tmp 87), type := 0, pos := "exact.go:3932", after := #[{ on := 6, ground := Ground.data }, { on := 5, ground := Ground.data }, { on := 5, ground := Ground.chain }, { on := 0, ground := Ground.phase }, { on := 1, ground := Ground.phase }, { on := 2, ground := Ground.phase }, { on := 3, ground := Ground.phase }, { on := 4, ground := Ground.phase }, { on := 5, ground := Ground.phase }, { on := 6, ground := Ground.phase }], guard := none }) rfl (fun K hK => ?_) (AllReadyH.nil)
      have bx0 := HA.out.cell 0 rfl
      have bx1 := HA.out.cell 1 rfl
      have bx2 := HA.out.cell 2 rfl
      have bf0 := HA.out.soft 0
      have bf1 := HA.out.soft 1
      have bf2 := HA.out.soft 2
      go_simp
      clear bx0 bf0 bx1 bf1 bx2 bf2
      have HBD0 := HBD
      have HBD : Hid (Below W16.heap.size W16 ((((wh2).setCell ⟨W16.heap.size, 0, none⟩ (.slice ph900 a900.length ch900)).setCell ⟨W16.heap.size, 1, none⟩ (.slice ph901 a901.length ch901)).setCell ⟨W16.heap.size, 2, none⟩ (.int .i64 a902))) := Lib.hid (((HBD.out.setCell (p := ⟨W16.heap.size, 0, none⟩) hg (.slice ph900 a900.length ch900)).setCell (p := ⟨W16.heap.size, 1, none⟩) hg (.slice ph901 a901.length ch901)).setCell (p := ⟨W16.heap.size, 2, none⟩) hg (.int .i64 a902))
      clear hHeld
      refine hK.out _ _ ?_ (fun hHeld => ?_)
      · (try dsimp only)
        exact SK.out _ HBD.out
      clear hK K
      (try simp only [Act.put, List.setIfInBounds_toArray, List.set_cons_zero, List.set_cons_succ])
      refine wpAnyH_done (by kernel_rfl) ?_ _
      refine ⟨W16.heap.size, .slice o0 d0.length k0, .slice px0 d0.length cx0, .string s1, .agg #[.slice o200 a200.length k200, .slice o201 a201.length k201], .agg #[.slice px200 a200.length cx200, .slice px201 a201.length cx201], .agg #[.slice ph900 a900.length ch900, .slice ph901 a901.length ch901, .int .i64 a902], _, _, _, _, ?_, HBD.out, hg, (((HA.out.set 0 (.slice ph900 a900.length ch900)).set 1 (.slice ph901 a901.length ch901)).set 2 (.int .i64 a902)), entryOutE.wide (entryOutE.frame (entryOutE.frame (entryOutE.frame QR.out (Same.set _ (g := W16.heap.size) 0 _ ng)) (Same.set _ (g := W16.heap.size) 1 _ ng)) (Same.set _ (g := W16.heap.size) 2 _ ng)) (fun k hk => ⟨by have := hk.1; omega, by have h1 := hk.2; simp only [setCell_size, World.size_alloc]; omega⟩)⟩
      first | rfl | (simp only [Act.put, List.setIfInBounds_toArray, List.set_cons_zero, List.set_cons_succ]; done) | (simp only [Act.put, List.setIfInBounds_toArray, List.set_cons_zero, List.set_cons_succ]; rfl)
  clear SK
  rintro a2 W17 ⟨gh, t0, t1, t2, t3, t4, t5, ph900, ch900, ph901, ch901, rfl, hb, hg, t, q⟩
  try simp only [Act.put, List.setIfInBounds_toArray, List.set_cons_zero, List.set_cons_succ]
  have P := Lib.hid (HP2.out.below hb); clear HP2; have HP2 := P; clear P
  have P := Lib.hid (HXw.out.below hb); clear HXw; have HXw := P; clear P
  have P := Lib.hid (entryOutE.frame QRw.out (Same.of_below' hb)); clear QRw; have QRw := P; clear P
  have P := Lib.hid (HX2.out.below hb); clear HX2; have HX2 := P; clear P
  have P := Lib.hid (HXg.out.below hb); clear HXg; have HXg := P; clear P
  have P := Lib.hid (QM0.out.frame (Same.of_below' hb)); clear QM0; have QM0 := P; clear P
  have P := Lib.hid (QM1.out.frame (Same.of_below' hb)); clear QM1; have QM1 := P; clear P
  have B1 := Lib.hid (B.out.trans (hb.mono B.out.size)); clear B; have B := B1; clear B1
  have O25 := Lib.hid (hb.size)
  have O26 := Lib.hid (hg)
  have O27 := Lib.hid (t.lt)
  have HXh := Lib.hid t; have QRh := Lib.hid q; clear t q hb hg
  have bm0 := HXw.out.cell 0 rfl
  have bm1 := HXw.out.cell 1 rfl
  have bm2 := HXw.out.cell 2 rfl
  have bm3 := HX2.out.cell 0 rfl
  have bm4 := HX2.out.cell 1 rfl
  have bm5 := HXg.out.cell 0 rfl
  have bm6 := HXg.out.cell 1 rfl
  have bm7 := HXg.out.cell 2 rfl
  have bm8 := HXh.out.cell 0 rfl
  have bm9 := HXh.out.cell 1 rfl
  have bm10 := HXh.out.cell 2 rfl
  go_wp2_with fail
  clear bm0 bm1 bm2 bm3 bm4 bm5 bm6 bm7 bm8 bm9 bm10
  refine (HQR.out _ _ _ _ _ _ _ (entryOut_atp QRh.out).1 (entryOut_atp QRh.out).2 (entryOut_atp QRw.out).1 (entryOut_atp QRw.out).2).mono ?_
  rintro e W18 ⟨rfl, hb⟩
  have P := Lib.hid (HP2.out.below hb); clear HP2; have HP2 := P; clear P
  have P := Lib.hid (HXw.out.below hb); clear HXw; have HXw := P; clear P
  have P := Lib.hid (entryOutE.frame QRw.out (Same.of_below' hb)); clear QRw; have QRw := P; clear P
  have P := Lib.hid (HX2.out.below hb); clear HX2; have HX2 := P; clear P
  have P := Lib.hid (HXg.out.below hb); clear HXg; have HXg := P; clear P
  have P := Lib.hid (QM0.out.frame (Same.of_below' hb)); clear QM0; have QM0 := P; clear P
  have P := Lib.hid (QM1.out.frame (Same.of_below' hb)); clear QM1; have QM1 := P; clear P
  have P := Lib.hid (HXh.out.below hb); clear HXh; have HXh := P; clear P
  have P := Lib.hid (entryOutE.frame QRh.out (Same.of_below' hb)); clear QRh; have QRh := P; clear P
  have B1 := Lib.hid (B.out.trans (hb.mono B.out.size)); clear B; have B := B1; clear B1
  have O28 := Lib.hid (hb.size)
  clear hb
  have bm0 := HXw.out.cell 0 rfl
  have bm1 := HXw.out.cell 1 rfl
  have bm2 := HXw.out.cell 2 rfl
  have bm3 := HX2.out.cell 0 rfl
  have bm4 := HX2.out.cell 1 rfl
  have bm5 := HXg.out.cell 0 rfl
  have bm6 := HXg.out.cell 1 rfl
  have bm7 := HXg.out.cell 2 rfl
  have bm8 := HXh.out.cell 0 rfl
  have bm9 := HXh.out.cell 1 rfl
  have bm10 := HXh.out.cell 2 rfl
  go_wp2_with fail
  clear bm0 bm1 bm2 bm3 bm4 bm5 bm6 bm7 bm8 bm9 bm10
  refine (HH.out _ _ _ QM0.out QM1.out).mono ?_
  rintro e W19 ⟨rfl, hb⟩
  have P := Lib.hid (HP2.out.below hb); clear HP2; have HP2 := P; clear P
  have P := Lib.hid (HXw.out.below hb); clear HXw; have HXw := P; clear P
  have P := Lib.hid (entryOutE.frame QRw.out (Same.of_below' hb)); clear QRw; have QRw := P; clear P
  have P := Lib.hid (HX2.out.below hb); clear HX2; have HX2 := P; clear P
  have P := Lib.hid (HXg.out.below hb); clear HXg; have HXg := P; clear P
  have P := Lib.hid (QM0.out.frame (Same.of_below' hb)); clear QM0; have QM0 := P; clear P
  have P := Lib.hid (QM1.out.frame (Same.of_below' hb)); clear QM1; have QM1 := P; clear P
  have P := Lib.hid (HXh.out.below hb); clear HXh; have HXh := P; clear P
  have P := Lib.hid (entryOutE.frame QRh.out (Same.of_below' hb)); clear QRh; have QRh := P; clear P
  have B1 := Lib.hid (B.out.trans (hb.mono B.out.size)); clear B; have B := B1; clear B1
  have O29 := Lib.hid (hb.size)
  clear hb
  go_wp2
  go_ret
  exact ⟨rfl, B.out⟩
end Go.Proofs.Ytglgkocjdockdaa
