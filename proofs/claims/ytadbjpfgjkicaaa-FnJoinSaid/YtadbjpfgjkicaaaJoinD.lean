/- DnJoin: what the texts of the program and of the specification return. -/
import Derived.Test.YtadbjpfgjkicaaaParent
namespace Go.Proofs.Ytadbjpfgjkicaaa
open Go.RowKit
attribute [local go_sem ↓] Go.wp_at_zero Go.wp_at_succ

theorem grown_set (w : World) (q j : Nat) (v : Value) : w.grownBy (w.setCell ⟨q, j, none⟩ v) (some q) :=
  ⟨rfl, rfl, rfl, by simp [World.setCell], fun k _ hk => Below.heap_setCell _ _ _ _ (fun e => hk (by simp [e]))⟩
theorem own_set {w : World} {B e z n q j : Nat} {v u : Value} {xs : List Value} (h : w.ownsRow B e z v n xs) (hq : q < B) : (w.setCell ⟨q, j, none⟩ u).ownsRow B e z v n xs :=
  h.kept (grown_set w q j u) (by
    cases hv : v.ownBlock with
    | none => exact .inl rfl
    | some g => exact .inr (fun hh => by have := (h.lt g hv).1; have := Option.some.inj hh; omega))
/-- four cells, of blocks R and R + 1, that are known and may be written -/
def Four (w : World) (R : Nat) (a b x y : Value) : Prop :=
  ((w.cell? ⟨R, 0, none⟩ = some a ∧ w.cell? ⟨R, 1, none⟩ = some b ∧ w.cell? ⟨R + 1, 0, none⟩ = some x ∧ w.cell? ⟨R + 1, 1, none⟩ = some y) ∧
    (w.frozen? ⟨R, 0, none⟩ = false ∧ w.frozen? ⟨R, 1, none⟩ = false ∧ w.frozen? ⟨R + 1, 0, none⟩ = false ∧ w.frozen? ⟨R + 1, 1, none⟩ = false)) ∧ R + 1 < w.heap.size
theorem Four.keep {W w1 : World} {R : Nat} {a b x y : Value} (h : Four W R a b x y) (hb : Below W.heap.size W w1) : Four w1 R a b x y := by
  obtain ⟨⟨⟨c0, c1, c2, c3⟩, ⟨f0, f1, f2, f3⟩⟩, hz⟩ := h
  exact ⟨⟨⟨(hb.cell (p := ⟨R, 0, none⟩) (by show R < _; omega)).trans c0, (hb.cell (p := ⟨R, 1, none⟩) (by show R < _; omega)).trans c1, (hb.cell (p := ⟨R + 1, 0, none⟩) hz).trans c2, (hb.cell (p := ⟨R + 1, 1, none⟩) hz).trans c3⟩,
    ⟨(hb.frozen (p := ⟨R, 0, none⟩) (by show R < _; omega)).trans f0, (hb.frozen (p := ⟨R, 1, none⟩) (by show R < _; omega)).trans f1, (hb.frozen (p := ⟨R + 1, 0, none⟩) hz).trans f2, (hb.frozen (p := ⟨R + 1, 1, none⟩) hz).trans f3⟩⟩, Nat.lt_of_lt_of_le hz hb.size⟩
theorem four_new (w : World) (a b x y : Value) (T U : TypeId) : Four ((w.alloc (.cells #[a, b] T)).alloc (.cells #[x, y] U)) w.heap.size a b x y := by
  obtain ⟨h1, h2, h3⟩ := keep22 (w := w) (W := ((w.alloc (.cells #[a, b] T)).alloc (.cells #[x, y] U))) (Below.refl _ _) rfl
  exact ⟨⟨h1, h2⟩, h3⟩

/-- a name and a code are returned -/
def GivesOut (w : World) (d : RdnL) (c : Int) (e : Ending) (w' : World) : Prop := (∃ v, e = .returned (.agg #[v, .int .i64 c]) ∧ w'.ownsRow w.heap.size 39 2 v d.length (rs d)) ∧ Below w.heap.size w w'
def joinC (r : ByteArray × ByteArray) (p : RdnL) : Int := if 400 < p.length then 2 else if (dnB p && rdnB r) = false then 1 else if 6 ≤ p.length then 9 else 0
def joinD (r : ByteArray × ByteArray) (p : RdnL) : RdnL := if joinC r p = 0 then r :: p else []
theorem join_cases (r : ByteArray × ByteArray) (p : RdnL) :
    (400 < p.length ∧ joinC r p = 2 ∧ joinD r p = []) ∨ (¬ 400 < p.length ∧ dnB p = false ∧ joinC r p = 1 ∧ joinD r p = []) ∨ (¬ 400 < p.length ∧ dnB p = true ∧ rdnB r = false ∧ joinC r p = 1 ∧ joinD r p = []) ∨
    (dnB p = true ∧ rdnB r = true ∧ p.length = 6 ∧ joinC r p = 9 ∧ joinD r p = []) ∨ (dnB p = true ∧ rdnB r = true ∧ p.length < 6 ∧ joinC r p = 0 ∧ joinD r p = r :: p) := by
  unfold joinD
  unfold joinC
  by_cases h1 : 400 < p.length
  · left; simp [h1]
  · right
    cases h2 : dnB p
    · left; simp [h1]
    · right
      have h6 := dnB_six h2
      cases h3 : rdnB r
      · left; simp [h1]
      · right
        by_cases h4 : 6 ≤ p.length
        · left; simp [h1, h4]; omega
        · right; simp [h1, h4]; omega
theorem own_any_nil (w : World) : w.ownsRow w.heap.size 39 2 (.slice none 0 0) 0 (rs []) := own_nil _ _

set_option maxRecDepth 100000 in
set_option maxHeartbeats 1000000 in
theorem DnJoin_any (A V : ByteArray) (ao : Option Addr) (p : RdnL) (cap : Nat) (w : World) (hA : A.size ≤ 1048576) (hV : V.size ≤ 1048576) (hc : p.length ≤ cap) (hd : DnAt w ao p) (hf : Fits p) :
    Calls Try.prog 38 #[.agg #[.string A, .string V], .slice ao p.length cap] w fun e w' => GivesOut w (joinD (A, V) p) (joinC (A, V) p) e w' := by
  have hl := hf.1
  have mA : A.size ≤ maxLen := by unfold maxLen; omega
  have mV : V.size ≤ maxLen := by unfold maxLen; omega
  have hd0 := hd.below (more (more (Below.refl _ _) (.cells #[.string A, .string V] 39)) (.cells #[.slice none 0 0, .int .i64 0] 33))
  have HD0 := Lib.hid hd0; clear hd0
  have F0 := Lib.hid (four_new w (.string A) (.string V) (.slice none 0 0) (.int .i64 0) 39 33)
  have B0 := Lib.hid (more (more (Below.refl w.heap.size w) (.cells #[.string A, .string V] 39)) (.cells #[.slice none 0 0, .int .i64 0] 33))
  rcases join_cases (A, V) p with ⟨h4, hC, hD⟩ | ⟨h4, h1, hC, hD⟩ | ⟨h4, h1, h2, hC, hD⟩ | ⟨h1, h2, h6, hC, hD⟩ | ⟨h1, h2, h6, hC, hD⟩
  all_goals rw [hC, hD]
  all_goals clear hC hD
  · clear hd hf
    go_enter Try.func38, Try.ntmps38
    go_wp2
    refine bodyPost_ret (v := .agg #[.slice none 0 0, .int .i64 2]) (by simp [results, Try.results38, go_sem]) rfl ⟨⟨_, rfl, own_nil _ _⟩, ?_⟩
    exact ((Below.refl _ _).alloc (Nat.le_refl _) _).alloc (by simp) _
  · go_enter Try.func38, Try.ntmps38
    go_wp2_with fail
    refine (DnRight_any _ _ _ _ HD0.out hf).mono ?_
    rintro e w1 ⟨rfl, hb1⟩
    rw [h1]
    have B1 := Lib.hid (B0.out.trans (hb1.mono B0.out.size))
    obtain ⟨⟨⟨c0, c1, c2, c3⟩, ⟨f0, f1, f2, f3⟩⟩, hz⟩ := F0.out.keep hb1
    clear hb1
    go_wp2
    refine bodyPost_ret (v := .agg #[.slice none 0 0, .int .i64 1]) (by simp [results, Try.results38, go_sem, c2, c3]) rfl ⟨⟨_, rfl, own_nil _ _⟩, ?_⟩
    exact (B1.out.setCell (by simp) _).setCell (by simp) _
  · go_enter Try.func38, Try.ntmps38
    go_wp2_with fail
    refine (DnRight_any _ _ _ _ HD0.out hf).mono ?_
    rintro e w1 ⟨rfl, hb1⟩
    rw [h1]
    have B1 := Lib.hid (B0.out.trans (hb1.mono B0.out.size))
    have F1 := Lib.hid (F0.out.keep hb1)
    obtain ⟨⟨⟨c0, c1, c2, c3⟩, ⟨f0, f1, f2, f3⟩⟩, hz⟩ := F0.out.keep hb1
    clear hb1
    go_wp2_with fail
    refine (rdnRight_any _ _ _ mA mV).mono ?_
    rintro e w2 ⟨rfl, hb2⟩
    rw [h2]
    have B2 := Lib.hid (B1.out.trans (hb2.mono B1.out.size))
    clear c0 c1 c2 c3 f0 f1 f2 f3 hz
    obtain ⟨⟨⟨c0, c1, c2, c3⟩, ⟨f0, f1, f2, f3⟩⟩, hz⟩ := F1.out.keep hb2
    clear hb2
    go_wp2
    refine bodyPost_ret (v := .agg #[.slice none 0 0, .int .i64 1]) (by simp [results, Try.results38, go_sem, c2, c3]) rfl ⟨⟨_, rfl, own_nil _ _⟩, ?_⟩
    exact (B2.out.setCell (by simp) _).setCell (by simp) _
  · have h6' : ((p.length : Int) == 6) = true := by rw [h6]; rfl
    have H6 := Lib.hid h6; clear h6
    have h4 : ¬ 400 < p.length := by have := H6.out; omega
    go_enter Try.func38, Try.ntmps38
    go_wp2_with fail
    refine (DnRight_any _ _ _ _ HD0.out hf).mono ?_
    rintro e w1 ⟨rfl, hb1⟩
    rw [h1]
    have B1 := Lib.hid (B0.out.trans (hb1.mono B0.out.size))
    have F1 := Lib.hid (F0.out.keep hb1)
    obtain ⟨⟨⟨c0, c1, c2, c3⟩, ⟨f0, f1, f2, f3⟩⟩, hz⟩ := F0.out.keep hb1
    clear hb1
    go_wp2_with fail
    refine (rdnRight_any _ _ _ mA mV).mono ?_
    rintro e w2 ⟨rfl, hb2⟩
    rw [h2]
    have B2 := Lib.hid (B1.out.trans (hb2.mono B1.out.size))
    clear c0 c1 c2 c3 f0 f1 f2 f3 hz
    obtain ⟨⟨⟨c0, c1, c2, c3⟩, ⟨f0, f1, f2, f3⟩⟩, hz⟩ := F1.out.keep hb2
    clear hb2
    go_wp2
    refine bodyPost_ret (v := .agg #[.slice none 0 0, .int .i64 9]) (by simp [results, Try.results38, go_sem, c2, c3]) rfl ⟨⟨_, rfl, own_nil _ _⟩, ?_⟩
    exact (B2.out.setCell (by simp) _).setCell (by simp) _
  · have h6' : ((p.length : Int) == 6) = false := by rw [beq_eq_false_iff_ne]; omega
    have h4 : ¬ 400 < p.length := by omega
    go_enter Try.func38, Try.ntmps38
    go_wp2_with fail
    refine (DnRight_any _ _ _ _ HD0.out hf).mono ?_
    rintro e w1 ⟨rfl, hb1⟩
    rw [h1]
    have B1 := Lib.hid (B0.out.trans (hb1.mono B0.out.size))
    have F1 := Lib.hid (F0.out.keep hb1)
    obtain ⟨⟨⟨c0, c1, c2, c3⟩, ⟨f0, f1, f2, f3⟩⟩, hz⟩ := F0.out.keep hb1
    clear hb1
    go_wp2_with fail
    refine (rdnRight_any _ _ _ mA mV).mono ?_
    rintro e w2 ⟨rfl, hb2⟩
    rw [h2]
    have B2 := Lib.hid (B1.out.trans (hb2.mono B1.out.size))
    have F2 := Lib.hid (F1.out.keep hb2)
    clear c0 c1 c2 c3 f0 f1 f2 f3 hz
    obtain ⟨⟨⟨c0, c1, c2, c3⟩, ⟨f0, f1, f2, f3⟩⟩, hz⟩ := F1.out.keep hb2
    clear hb2
    have B3 := Lib.hid (more (more (Below.refl w2.heap.size w2) (.cells #[.string A, .string V] 39)) (.cells #[.slice (some ⟨w2.heap.size, 0, none⟩) 1 1, .slice ao p.length cap] 27))
    have HJ := Lib.hid (joinRdns_any (w2.heap.size + 1) 0 2 [(some ⟨w2.heap.size, 0, none⟩, 1, [(A, V)]), (ao, cap, p)] ((w2.alloc (.cells #[.string A, .string V] 39)).alloc (.cells #[.slice (some ⟨w2.heap.size, 0, none⟩) 1 1, .slice ao p.length cap] 27)) ⟨by simp, fun i hi => by
      match i, hi with
      | 0, _ => exact ⟨by simp, .inr ⟨w2.heap.size, 0, rfl, by simp; omega, fun i hi => by
          match i, hi with
          | 0, _ => exact ⟨by simp, by simp⟩⟩, ⟨by simp, fun r hr => by simp at hr; subst hr; exact ⟨hA, hV⟩⟩⟩
      | 1, _ => exact ⟨by simp, ((hd.below B2.out).below B3.out), hf⟩⟩ (by simp))
    have HFl : Hid (flat [(some ⟨w2.heap.size, 0, none⟩, 1, [(A, V)]), (ao, cap, p)] = (A, V) :: p) := Lib.hid (by unfold flat; simp)
    rw [HFl.out] at HJ
    go_wp2_with fail
    refine HJ.out.mono ?_
    rintro e w3 ⟨⟨v, rfl, hown⟩, hb3⟩
    have HO := Lib.hid hown
    have B23 : Hid (Below w2.heap.size w2 w3) := Lib.hid (B3.out.trans (hb3.mono B3.out.size))
    clear c0 c1 c2 c3 f0 f1 f2 f3 hown hb3
    have hz2 : w.heap.size + 1 < w2.heap.size := hz
    clear hz
    obtain ⟨⟨⟨c0, c1, c2, c3⟩, ⟨f0, f1, f2, f3⟩⟩, hz⟩ := F2.out.keep B23.out
    obtain ⟨aw, cw, rfl⟩ := own_slice HO.out
    go_wp2
    refine bodyPost_ret (v := .agg #[.slice aw ((A, V) :: p).length cw, .int .i64 0]) (by simp [results, Try.results38, go_sem, c2, c3]) rfl ⟨⟨_, rfl, ?_⟩, ?_⟩
    · exact own_mono (own_set (own_set HO.out (by simp; omega)) (by simp; omega)) (by simp; omega)
    · exact ((B2.out.trans (B23.out.mono B2.out.size)).setCell (by simp) _).setCell (by simp) _
end Go.Proofs.Ytadbjpfgjkicaaa
