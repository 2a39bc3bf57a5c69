/- scanNum: what the program's text returns. -/
import Derived.Test.YtifcplmgdndmhaaDoorScan
namespace Go.Proofs.YtifcplmgdndmhaaDoor
open Go.RowKit

/-- at the label more: i bytes have been read, e is the place behind them -/
def AtMore (s : ByteArray) (p : Nat) (w : World) (a : Act) (w' : World) : Prop :=
  w' = w ∧ ∃ (i u : Nat) (e : Int) (x8 x9 x12 x13 x14 x15 x16 x17 x18 x19 x20 x21 x22 x23 x24 x25 x26 x27 x28 x29 x30 x31 x32 x33 x34 x35 x36 x37 x38 x39 x40 x41 x42 x43 x44 x45 x46 x47 x48 x49 x50 x51 x52 x53 x54 : Value), Scan s p i u ∧ e = (p : Int) + (i : Int) ∧ a = { tmps := #[.string s, .int .i64 p, undef, undef, .int .u64 0, .int .i64 0, .nilIface, .int .u64 u, x8, x9, .int .i64 e, .int .i64 p, x12, x13, x14, x15, x16, x17, x18, x19, x20, x21, x22, x23, x24, x25, x26, x27, x28, x29, x30, x31, x32, x33, x34, x35, x36, x37, x38, x39, x40, x41, x42, x43, x44, x45, x46, x47, x48, x49, x50, x51, x52, x53, x54], defers := [] }
/-- at the label last: c is the last byte, u the number, e the place behind it -/
def AtLast (s : ByteArray) (p : Nat) (w : World) (a : Act) (w' : World) : Prop :=
  w' = w ∧ ∃ (i u c : Nat) (e : Int) (x9 x12 x13 x14 x15 x16 x17 x18 x19 x20 x21 x22 x23 x24 x25 x26 x27 x28 x29 x30 x31 x32 x33 x34 x35 x36 x37 x38 x39 x40 x41 x42 x43 x44 x45 x46 x47 x48 x49 x50 x51 x52 x53 x54 : Value), (c = 0 ∧ 0 < i → scanV s p = (3, 0, 0)) ∧ (¬ (c = 0 ∧ 0 < i) → scanV s p = (0, u, p + i + 1)) ∧ p + i < 8000 ∧ e = (p : Int) + (i : Int) + 1 ∧ a = { tmps := #[.string s, .int .i64 p, undef, undef, .int .u64 0, .int .i64 0, .nilIface, .int .u64 u, .int .u8 c, x9, .int .i64 e, .int .i64 p, x12, x13, x14, x15, x16, x17, x18, x19, x20, x21, x22, x23, x24, x25, x26, x27, x28, x29, x30, x31, x32, x33, x34, x35, x36, x37, x38, x39, x40, x41, x42, x43, x44, x45, x46, x47, x48, x49, x50, x51, x52, x53, x54], defers := [] }
/-- at the label wrong: the code -/
def AtWrong (s : ByteArray) (p : Nat) (w : World) (a : Act) (w' : World) : Prop :=
  w' = w ∧ ∃ (cd : Nat) (x7 x8 x10 x12 x13 x14 x15 x16 x17 x18 x19 x20 x21 x22 x23 x24 x25 x26 x27 x28 x29 x30 x31 x32 x33 x34 x35 x36 x37 x38 x39 x40 x41 x42 x43 x44 x45 x46 x47 x48 x49 x50 x51 x52 x53 x54 : Value), scanV s p = (cd, 0, 0) ∧ 0 < cd ∧ a = { tmps := #[.string s, .int .i64 p, undef, undef, .int .u64 0, .int .i64 0, .nilIface, x7, x8, .int .i64 cd, x10, .int .i64 p, x12, x13, x14, x15, x16, x17, x18, x19, x20, x21, x22, x23, x24, x25, x26, x27, x28, x29, x30, x31, x32, x33, x34, x35, x36, x37, x38, x39, x40, x41, x42, x43, x44, x45, x46, x47, x48, x49, x50, x51, x52, x53, x54], defers := [] }
def At (s : ByteArray) (p : Nat) (w : World) : Nat → Act → World → Prop
  | 0 => AtWrong s p w
  | 1 => AtMore s p w
  | 2 => AtLast s p w
  | _ => fun _ _ => False
def mu (p : Nat) : Nat → Act → World → Nat
  | 1, a, _ => 20 - (intOf (a.tmps.getD 10 undef) - (p : Int)).toNat
  | 2, _, _ => 1
  | _, _, _ => 0

theorem wp_scope_from {P : Program} {a : Act} {w : World} {Q : Exit → Act → World → Prop} {c : Code} (J : Nat → Act → World → Prop) (μ : Nat → Act → World → Nat) (l0 : Nat)
    (pass : ∀ l a w, J l a w → ∃ X, findLabel c l = some (Code.skip.seq X) ∧ X.wp P (jumpQ (fun l' a' w' => J l' a' w' ∧ μ l' a' w' < μ l a w) Q) a w)
    (start : ∀ X, findLabel c l0 = some (Code.skip.seq X) → (∀ a' w', J l0 a' w' → X.wp P (jumpQ J Q) a' w') → c.wp P (jumpQ J Q) a w)
    (some0 : ∃ X, findLabel c l0 = some (Code.skip.seq X)) : (Code.scope c).wp P Q a w := by
  refine wp_scope_many J μ ?_ (fun l a w hJ => ?_)
  · obtain ⟨X, hf⟩ := some0
    refine start X hf fun a' w' hJ => ?_
    obtain ⟨X', hf', hp⟩ := pass l0 a' w' hJ
    have hX := Option.some.inj (hf.symm.trans hf')
    injection hX with _ hX
    subst hX
    intro b k cs
    obtain ⟨e, a₁, w₁, hq, harr⟩ := hp b k cs
    refine ⟨e, a₁, w₁, ?_, harr⟩
    cases e with
    | goto l' => exact hq.1
    | normal => exact hq
    | exit id => exact hq
    | ret => exact hq
    | panic ch => exact hq
    | outgrown => exact hq
  · obtain ⟨X, hf, hp⟩ := pass l a w hJ
    exact ⟨_, hf, wp_seq (wp_skip hp)⟩

/-- what scanNum returns -/
def scanRet (s : ByteArray) (p : Nat) : Value :=
  if (scanV s p).1 = 0 then .tuple #[.int .u64 ((scanV s p).2.1 : Nat), .int .i64 ((scanV s p).2.2 : Nat), .nilIface]
  else .tuple #[.int .u64 0, .int .i64 0, .iface 55 (.agg #[.int .i64 ((scanV s p).1 : Nat)])]

set_option maxRecDepth 100000 in
set_option maxHeartbeats 1000000 in
theorem scanNum_any (s : ByteArray) (p : Nat) (w : World) (hs : s.size ≤ 8000) (hp : p ≤ 9223372036854775807) :
    Calls Tryd.prog 21 #[.string s, .int .i64 p] w fun e w' => e = .returned (scanRet s p) ∧ w = w' := by
  go_enter Tryd.func21, Tryd.ntmps21
  go_wp2
  refine wp_scope_from (At s p w) (mu p) 1 ?_ ?_ ⟨_, rfl⟩
  · intro l a' w' hJ
    match l, hJ with
    | 0, hJ =>
      refine ⟨_, rfl, ?_⟩
      obtain ⟨rfl, cd, x7, x8, x10, x12, x13, x14, x15, x16, x17, x18, x19, x20, x21, x22, x23, x24, x25, x26, x27, x28, x29, x30, x31, x32, x33, x34, x35, x36, x37, x38, x39, x40, x41, x42, x43, x44, x45, x46, x47, x48, x49, x50, x51, x52, x53, x54, hv, hcd, rfl⟩ := hJ
      have HR : Hid (scanRet s p = .tuple #[.int .u64 0, .int .i64 0, .iface 55 (.agg #[.int .i64 (cd : Nat)])]) := Lib.hid (by unfold scanRet; rw [hv, if_neg (by simp; omega)])
      clear hv
      go_wp2
      simp only [jumpQ]
      go_ret3
      exact ⟨by rw [HR.out]; rfl, rfl⟩
    | 1, hJ =>
      refine ⟨_, rfl, ?_⟩
      obtain ⟨rfl, i, u, e, x8, x9, x12, x13, x14, x15, x16, x17, x18, x19, x20, x21, x22, x23, x24, x25, x26, x27, x28, x29, x30, x31, x32, x33, x34, x35, x36, x37, x38, x39, x40, x41, x42, x43, x44, x45, x46, x47, x48, x49, x50, x51, x52, x53, x54, hS, rfl, rfl⟩ := hJ
      have hi9 := hS.1
      have HS := Lib.hid hS; clear hS
      by_cases hlt : p + i < s.size
      · have hlt' : (p : Int) + (i : Int) < (s.size : Int) := by omega
        have hc256 : s[p + i].toNat < 256 := s[p + i].toNat_lt
        go_wp2
        · have h9 : i = 9 := by omega
          go_step3
          refine ⟨⟨rfl, 3, _, _, _, _, _, _, _, _, _, _, _, _, _, _, _, _, _, _, _, _, _, _, _, _, _, _, _, _, _, _, _, _, _, _, _, _, _, _, _, _, _, _, _, _, _, _, scan_tenth HS.out hlt h9 (by omega), by decide, rfl⟩, ?_⟩
          simp [mu, intOf]; omega
        · obtain rfl : i = 9 := by omega
          have hn : ¬ (9 = 9 ∧ 1 < s[p + 9].toNat) := by omega
          have ho := or_step u s[p + 9].toNat 9 hc256 HS.out.2.1 (scan_fits HS.out hlt hn)
          have e : (2 : Int) ^ (7 * 9) = 9223372036854775808 := rfl
          rw [e] at ho
          go_step3
          rw [ho]
          refine ⟨⟨rfl, 9, _, s[p + 9].toNat, _, _, _, _, _, _, _, _, _, _, _, _, _, _, _, _, _, _, _, _, _, _, _, _, _, _, _, _, _, _, _, _, _, _, _, _, _, _, _, _, _, _, _, _, _, fun hz => scan_over HS.out hlt hn (by omega) hz, fun hz => scan_last HS.out hlt hn (by omega) hz, by omega, rfl, rfl⟩, ?_⟩
          simp [mu, intOf]; omega
        · have hn : ¬ (i = 9 ∧ 1 < s[p + i].toNat) := by omega
          have ho := or_step u s[p + i].toNat i hc256 HS.out.2.1 (scan_fits HS.out hlt hn)
          have e : p + i + 1 - p - 1 = i := by omega
          go_step3
          rw [e, ho]
          refine ⟨⟨rfl, i, _, s[p + i].toNat, _, _, _, _, _, _, _, _, _, _, _, _, _, _, _, _, _, _, _, _, _, _, _, _, _, _, _, _, _, _, _, _, _, _, _, _, _, _, _, _, _, _, _, _, _, fun hz => scan_over HS.out hlt hn (by omega) hz, fun hz => scan_last HS.out hlt hn (by omega) hz, by omega, rfl, rfl⟩, ?_⟩
          simp [mu, intOf]; omega
        · have hn : ¬ (i = 9 ∧ 1 < s[p + i].toNat) := by omega
          have hcb : ¬ s[p + i].toNat < 128 := by omega
          have ho := or_step u s[p + i].toNat i hc256 HS.out.2.1 (scan_fits HS.out hlt hn)
          have e : p + i + 1 - p - 1 = i := by omega
          go_step3
          rw [e, ho]
          refine ⟨⟨rfl, i + 1, _, _, _, _, _, _, _, _, _, _, _, _, _, _, _, _, _, _, _, _, _, _, _, _, _, _, _, _, _, _, _, _, _, _, _, _, _, _, _, _, _, _, _, _, _, _, _, scan_next HS.out hlt hn hcb, by omega, rfl⟩, ?_⟩
          simp [mu, intOf]; omega
      · have hge : (s.size : Int) ≤ (p : Int) + (i : Int) := by omega
        go_wp2
        go_step3
        refine ⟨⟨rfl, 4, _, _, _, _, _, _, _, _, _, _, _, _, _, _, _, _, _, _, _, _, _, _, _, _, _, _, _, _, _, _, _, _, _, _, _, _, _, _, _, _, _, _, _, _, _, _, scan_short HS.out hlt, by decide, rfl⟩, ?_⟩
        simp [mu, intOf]; omega
    | 2, hJ =>
      refine ⟨_, rfl, ?_⟩
      obtain ⟨rfl, i, u, c, e, x9, x12, x13, x14, x15, x16, x17, x18, x19, x20, x21, x22, x23, x24, x25, x26, x27, x28, x29, x30, x31, x32, x33, x34, x35, x36, x37, x38, x39, x40, x41, x42, x43, x44, x45, x46, x47, x48, x49, x50, x51, x52, x53, x54, h1, h2, hpi, rfl, rfl⟩ := hJ
      have H1 := Lib.hid h1; clear h1
      have H2 := Lib.hid h2; clear h2
      by_cases hz : c = 0
      · by_cases hi : 0 < i
        · have HV := Lib.hid (H1.out ⟨hz, hi⟩)
          have hzb : ((c : Int) == 0) = true := by simp [hz]
          clear hz
          go_wp2
          go_step3
          refine ⟨⟨rfl, 3, _, _, _, _, _, _, _, _, _, _, _, _, _, _, _, _, _, _, _, _, _, _, _, _, _, _, _, _, _, _, _, _, _, _, _, _, _, _, _, _, _, _, _, _, _, _, HV.out, by decide, rfl⟩, ?_⟩
          simp [mu]
        · have HR : Hid (scanRet s p = .tuple #[.int .u64 (u : Nat), .int .i64 (p + i + 1 : Nat), .nilIface]) := Lib.hid (by unfold scanRet; rw [H2.out (fun g => hi g.2)]; rfl)
          have hzb : ((c : Int) == 0) = true := by simp [hz]
          clear hz
          go_wp2
          simp only [jumpQ]
          go_ret3
          exact ⟨by rw [HR.out]; rfl, rfl⟩
      · have HR : Hid (scanRet s p = .tuple #[.int .u64 (u : Nat), .int .i64 (p + i + 1 : Nat), .nilIface]) := Lib.hid (by unfold scanRet; rw [H2.out (fun g => hz g.1)]; rfl)
        have hzb : ((c : Int) == 0) = false := by simp [hz]
        clear hz
        go_wp2
        simp only [jumpQ]
        go_ret3
        exact ⟨by rw [HR.out]; rfl, rfl⟩
  · intro rest hf hm
    have hX := Option.some.inj hf
    injection hX with hsk hX
    subst hX
    clear hf hsk
    have HM := Lib.hid hm; clear hm
    go_wp2
    go_step3
    rename_i K hK
    exact hK _ _ (HM.out _ _ ⟨rfl, 0, 0, (p : Int), _, _, _, _, _, _, _, _, _, _, _, _, _, _, _, _, _, _, _, _, _, _, _, _, _, _, _, _, _, _, _, _, _, _, _, _, _, _, _, _, _, _, _, _, _, scan_start s p, by simp, rfl⟩)
end Go.Proofs.YtifcplmgdndmhaaDoor
