/- The helpers of the laws over entries: comparisons; arguments that are entries. -/
import Derived.Test.YtjajpdghamecoaaEntCopy2
import Derived.Test.YtjajpdghamecoaaOpen
import Derived.SliceStrings
namespace Go.Proofs.Ytjajpdghamecoaa
open Go.RowKit
attribute [local go_sem ↓] Go.wp_at_zero Go.wp_at_succ

set_option maxRecDepth 100000 in
set_option maxHeartbeats 1000000 in
theorem eqStringS_same (ao bo : Option Addr) (d : List ByteArray) (ca cb : Nat) (w : World) (hda : StrsAt w ao d) (hdb : StrsAt w bo d) (hl : d.length ≤ 1048576) :
    Calls Try.prog 34 #[.slice ao d.length ca, .slice bo d.length cb] w fun e w' => e = .returned (.bool true) ∧ Below w.heap.size w w' := by
  have HA := Lib.hid hda; have HB := Lib.hid hdb; clear hda hdb
  go_enter Try.func34, Try.ntmps34
  go_wp2
  go_loopw [5] (fun i wr => ∃ k : Nat, k ≤ d.length ∧ i = .int .i64 k ∧ Below w.heap.size w wr) (fun i _ => d.length - (intOf i).toNat)
  case atStart => exact ⟨0, Nat.zero_le _, rfl, Below.refl _ _⟩
  case round =>
    obtain ⟨k, hk, rfl, hbel⟩ := hrel
    have hsz := hbel.size
    by_cases hlt : k < d.length
    · obtain ⟨p, off, rfl, hp0, hd1⟩ := HA.out.at hlt
      obtain ⟨q, off', rfl, hq0, he1⟩ := HB.out.at hlt
      generalize d[k] = A at *
      have c1 := (hbel.cell (p := ⟨p, off + k, none⟩) hp0).trans hd1
      have c2 := (hbel.cell (p := ⟨q, off' + k, none⟩) hq0).trans he1
      have hkk : (A.toList == A.toList) = true := by simp
      clear hd1 he1
      have g1 : (0 : Int) ≤ (k : Int) := by omega
      have g2 : (k : Int) < (d.length : Int) := by omega
      have hbd := hbel.drew
      have c1' : wr.drew.cell? ⟨p, off + k, none⟩ = some (.string A) := c1
      have c2' : wr.drew.cell? ⟨q, off' + k, none⟩ = some (.string A) := c2
      go_wp2_with fail
      go_region_held3 (fun W => Below w.heap.size w W ∧ W.cell? ⟨p, off + k, none⟩ = some (.string A) ∧ W.cell? ⟨q, off' + k, none⟩ = some (.string A))
        (first | exact ⟨hbel, c1, c2⟩ | exact ⟨hbd, c1', c2'⟩)
        (fail "none")
      all_goals
        go_wp2
        go_roundw
        case rel => exact ⟨k + 1, by omega, by go_num, by first | exact hbel | exact hbd⟩
        case measure => simp [intOf]; omega
    · go_wp2
      go_ret
      exact ⟨rfl, hbel⟩
theorem eqStringS_from (w0 : World) (ao bo : Option Addr) (d : List ByteArray) (ca cb : Nat) (w : World) (hB : Below w0.heap.size w0 w) (hda : StrsAt w ao d) (hdb : StrsAt w bo d) (hl : d.length ≤ 1048576) :
    Calls Try.prog 34 #[.slice ao d.length ca, .slice bo d.length cb] w fun e w' => e = .returned (.bool true) ∧ Below w0.heap.size w0 w' :=
  (eqStringS_same ao bo d ca cb w hda hdb hl).mono fun _ _ h => ⟨h.1, hB.trans (h.2.mono hB.size)⟩
set_option maxRecDepth 100000 in
set_option maxHeartbeats 1000000 in
theorem eqAttr_same (w0 : World) (A : ByteArray) (vo uo : Option Addr) (l : List ByteArray) (vc uc : Nat) (w : World) (hB : Below w0.heap.size w0 w) (hv : StrsAt w0 vo l) (hu : StrsAt w0 uo l) (hl : l.length ≤ 1048576) :
    Calls Try.prog 109 #[.agg #[.string A, .slice vo l.length vc], .agg #[.string A, .slice uo l.length uc]] w fun e w' => e = .returned (.bool true) ∧ Below w0.heap.size w0 w' := by
  have HV := Lib.hid hv; have HU := Lib.hid hu; have HB := Lib.hid hB; clear hv hu hB
  have hkk : (A.toList == A.toList) = true := by simp
  go_enter Try.func109, Try.ntmps109
  go_wp2_with fail
  have hb1 := more (more HB.out (.cells #[.string A, .slice vo l.length vc] 81)) (.cells #[.string A, .slice uo l.length uc] 81)
  refine (eqStringS_from w0 vo uo l vc uc _ hb1 (HV.out.below hb1) (HU.out.below hb1) hl).mono ?_
  rintro e w2 ⟨rfl, hb2⟩
  clear hb1
  go_wp2
  go_ret
  exact ⟨rfl, hb2⟩
set_option maxRecDepth 100000 in
set_option maxHeartbeats 1000000 in
theorem eqAttrS_same (ao bo : Option Addr) (d : List AttrV) (ca cb : Nat) (w : World) (hda : AttrsAt w ao d) (hdb : AttrsAt w bo d) (hf : FitsA d) :
    Calls Try.prog 68 #[.slice ao d.length ca, .slice bo d.length cb] w fun e w' => e = .returned (.bool true) ∧ Below w.heap.size w w' := by
  have hl := hf.1
  have HA := Lib.hid hda; have HB := Lib.hid hdb; have HF := Lib.hid hf; clear hda hdb hf
  go_enter Try.func68, Try.ntmps68
  go_wp2
  go_loopw [5] (fun i wr => ∃ k : Nat, k ≤ d.length ∧ i = .int .i64 k ∧ Below w.heap.size w wr) (fun i _ => d.length - (intOf i).toNat)
  case atStart => exact ⟨0, Nat.zero_le _, rfl, Below.refl _ _⟩
  case round =>
    obtain ⟨k, hk, rfl, hbel⟩ := hrel
    have hsz := hbel.size
    by_cases hlt : k < d.length
    · obtain ⟨p, off, vo, vc, rfl, hp0, hd1, hd2, hv⟩ := HA.out.at hlt
      obtain ⟨q, off', uo, uc, rfl, hq0, he1, he2, hu⟩ := HB.out.at hlt
      have hz := (HF.out.at hlt).2.1
      have HV := Lib.hid hv.1; have HU := Lib.hid hu.1; clear hv hu
      generalize d[k].1 = A at *
      generalize d[k].2 = V at *
      have SK : Hid (∀ W : World, Below w.heap.size w W → (Below w.heap.size w W ∧ W.cell? ⟨p, off + k * 2, none⟩ = some (.string A) ∧ W.cell? ⟨p, off + k * 2 + 1, none⟩ = some (.slice vo V.length vc) ∧ W.cell? ⟨q, off' + k * 2, none⟩ = some (.string A) ∧ W.cell? ⟨q, off' + k * 2 + 1, none⟩ = some (.slice uo V.length uc))) :=
        Lib.hid (fun W h => ⟨h, (h.cell (p := ⟨p, _, none⟩) hp0).trans hd1, (h.cell (p := ⟨p, _, none⟩) hp0).trans hd2, (h.cell (p := ⟨q, _, none⟩) hq0).trans he1, (h.cell (p := ⟨q, _, none⟩) hq0).trans he2⟩)
      have hbd := hbel.drew
      clear hd1 hd2 he1 he2
      have g1 : (0 : Int) ≤ (k : Int) := by omega
      have g2 : (k : Int) < (d.length : Int) := by omega
      go_wp2_with fail
      go_region_held3 (fun W => Below w.heap.size w W ∧ W.cell? ⟨p, off + k * 2, none⟩ = some (.string A) ∧ W.cell? ⟨p, off + k * 2 + 1, none⟩ = some (.slice vo V.length vc) ∧ W.cell? ⟨q, off' + k * 2, none⟩ = some (.string A) ∧ W.cell? ⟨q, off' + k * 2 + 1, none⟩ = some (.slice uo V.length uc))
        (exact SK.out _ (by assumption))
        (first | (go_at_call 109; refine (eqAttr_same w _ _ _ _ _ _ _ (by assumption) HV.out HU.out hz).mono ?_; rintro e w2 ⟨rfl, hb2⟩) | (fail "none"))
      all_goals
        go_wp2
        go_roundw
        case rel => exact ⟨k + 1, by omega, by go_num, hb2⟩
        case measure => simp [intOf]; omega
    · go_wp2
      go_ret
      exact ⟨rfl, hbel⟩
set_option maxRecDepth 100000 in
set_option maxHeartbeats 1000000 in
theorem eqEntry_at (ao bo xo yo : Option Addr) (d : RdnL) (l : List AttrV) (ca cb cx cy : Nat) (w : World) (hv1 : DnAt w ao d) (hv2 : AttrsAt w bo l) (hu1 : DnAt w xo d) (hu2 : AttrsAt w yo l) (hd : d.length ≤ 1048576) (hf : FitsA l) :
    Calls Try.prog 31 #[.agg #[.slice ao d.length ca, .slice bo l.length cb], .agg #[.slice xo d.length cx, .slice yo l.length cy]] w fun e w' => e = .returned (.bool true) ∧ Below w.heap.size w w' := by
  have HV1 := Lib.hid hv1; have HV2 := Lib.hid hv2; have HU1 := Lib.hid hu1; have HU2 := Lib.hid hu2; have HF := Lib.hid hf
  clear hv1 hv2 hu1 hu2 hf
  go_enter Try.func31, Try.ntmps31
  go_wp2_with fail
  refine calls_any' (fun W => Below w.heap.size w W ∧ Two W w.heap.size 43 (.slice ao d.length ca) (.slice bo l.length cb) ∧ Two W (w.heap.size + 1) 43 (.slice xo d.length cx) (.slice yo l.length cy)) ⟨more (more (Below.refl _ _) _) _, (twoNew w 43 _ _).alloc _, (by have := twoNew (w.alloc (Obj.cells #[.slice ao d.length ca, .slice bo l.length cb] 43)) 43 (.slice xo d.length cx) (.slice yo l.length cy); simpa using this)⟩ ?_
  rintro W ⟨hbW, t0, t1⟩
  refine (eqRdnS_same ao xo d ca cx W (HV1.out.below hbW) (HU1.out.below hbW) hd).mono ?_
  rintro e w2 ⟨rfl, hb2⟩
  have B2 := Lib.hid (hbW.trans (hb2.mono hbW.size))
  obtain ⟨⟨c0, c1⟩, _⟩ := (t0.below hb2).cells
  obtain ⟨⟨d0, d1⟩, _⟩ := (t1.below hb2).cells
  clear hbW t0 t1 hb2
  go_wp2_with fail
  refine (eqAttrS_same bo yo l cb cy w2 (HV2.out.below B2.out) (HU2.out.below B2.out) HF.out).mono ?_
  rintro e w3 ⟨rfl, hb3⟩
  have B3 := Lib.hid (B2.out.trans (hb3.mono B2.out.size))
  clear hb3
  go_wp2
  go_ret
  exact ⟨rfl, B3.out⟩
theorem eqEntry_same (v u : Value) (d : RdnL) (l : List AttrV) (w : World) (hv : EntAt w v d l) (hu : EntAt w u d l) (hd : d.length ≤ 1048576) (hf : FitsA l) :
    Calls Try.prog 31 #[v, u] w fun e w' => e = .returned (.bool true) ∧ Below w.heap.size w w' := by
  obtain ⟨ao, ca, bo, cb, rfl, hv1, hv2, _, _⟩ := hv
  obtain ⟨xo, cx, yo, cy, rfl, hu1, hu2, _, _⟩ := hu
  exact eqEntry_at ao bo xo yo d l ca cb cx cy w hv1 hv2 hu1 hu2 hd hf
end Go.Proofs.Ytjajpdghamecoaa
