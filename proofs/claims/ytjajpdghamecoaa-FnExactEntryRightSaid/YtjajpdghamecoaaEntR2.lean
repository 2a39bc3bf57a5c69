/- EntryRight: what the program returns. -/
import Derived.Test.YtjajpdghamecoaaEntR1
namespace Go.Proofs.Ytjajpdghamecoaa
open Go.RowKit
attribute [local go_sem ↓] Go.wp_at_zero Go.wp_at_succ

set_option maxHeartbeats 1000000 in
theorem compareNames_any (w0 : World) (A B u v : Value) (a b : ByteArray) (hA : A = .agg #[.string a, u]) (hB : B = .agg #[.string b, v]) (x y : AttrV) (hx : x.1 = a) (hy : y.1 = b) (w : World) (hu : ∃ o n c, u = .slice o n c) (hv : ∃ o n c, v = .slice o n c) (hBel : Below w0.heap.size w0 w) :
    Calls Try.prog 107 #[A, B] w fun e w' => (∃ c : Int, e = .returned (.int .i64 c) ∧ decide (0 ≤ c) = !(nameLt x y)) ∧ Below w0.heap.size w0 w' := by
  subst hA hB
  obtain ⟨uo, un, uc, rfl⟩ := hu
  obtain ⟨vo, vn, vc, rfl⟩ := hv
  have HC : Hid (decide (0 ≤ Lib.compareBytes a.data.toList b.data.toList) = !(nameLt x y)) := Lib.hid (by rw [compare_less]; unfold nameLt; rw [hx, hy, Lib.toList_data, Lib.toList_data])
  have HB := Lib.hid hBel; clear hBel hx hy
  go_enter Try.func107, Try.ntmps107
  go_wp2_with (first
    | (go_at_call 134; refine (Try.strings_Compare _ _ _).mono ?_; rintro e w3 ⟨rfl, rfl⟩)
    | (fail "none"))
  go_ret
  exact ⟨⟨_, rfl, HC.out⟩, more (more HB.out _) _⟩
set_option maxRecDepth 100000 in
set_option maxHeartbeats 1000000 in
theorem incAttr_any (ao : Option Addr) (l : List AttrV) (cap : Nat) (w : World) (hd : AttrsAt w ao l) (hl : l.length ≤ 1048576) :
    Calls Try.prog 106 #[.slice ao l.length cap, .func (.func 107) #[] #[]] w fun e w' => e = .returned (.bool (incB nameLt l)) ∧ Below w.heap.size w w' := by
  have HD := Lib.hid hd; clear hd
  go_enter Try.func106, Try.ntmps106
  go_wp2
  go_loopw [5] (fun i wr => ∃ m : Nat, m ≤ l.length ∧ i = .int .i64 ((m : Int) + 1) ∧ (∀ j (h : j + 1 < l.length), j < m → nameLt l[j] l[j + 1] = true) ∧ Below w.heap.size w wr) (fun i _ => l.length + 1 - (intOf i).toNat)
  case atStart => exact ⟨0, Nat.zero_le _, rfl, fun j _ h => absurd h (Nat.not_lt_zero _), Below.refl _ _⟩
  case round =>
    obtain ⟨m, hm, rfl, ha, hbel⟩ := hrel
    have Ha := Lib.hid ha; clear ha
    have hsz := hbel.size
    by_cases hlt : m + 1 < l.length
    · have hm0 : m < l.length := by omega
      obtain ⟨b, off, uo, uc, rfl, hw0, hd1, hd2, _⟩ := HD.out.at hm0
      obtain ⟨b', off', vo, vc, e, _, hd3, hd4, _⟩ := HD.out.at hlt
      cases e
      have g1 : (m : Int) + 1 < (l.length : Int) := by omega
      have g2 : (0 : Int) ≤ (m : Int) := by omega
      have g3 : (m : Int) < (l.length : Int) := by omega
      have g4 : (0 : Int) ≤ (m : Int) + 1 := by omega
      have HN : Hid (∀ j (h : j + 1 < l.length), j < m + 1 → nameLt l[m] l[m + 1] = true → nameLt l[j] l[j + 1] = true) := Lib.hid (fun j h hj hn => by
        by_cases e : j = m
        · subst e; exact hn
        · exact Ha.out j h (by omega))
      have HX : Hid (nameLt l[m] l[m + 1] = false → incB nameLt l = false) := Lib.hid (fun h => incB_no hlt h)
      generalize hx : l[m] = X at *
      generalize hy : l[m + 1] = Y at *
      clear hx hy
      obtain ⟨xa, xv⟩ := X
      obtain ⟨ya, yv⟩ := Y
      have SK : Hid (∀ W : World, Below w.heap.size w W → (Below w.heap.size w W ∧ W.cell? ⟨b, off + m * 2, none⟩ = some (.string xa) ∧ W.cell? ⟨b, off + m * 2 + 1, none⟩ = some (.slice uo xv.length uc) ∧ W.cell? ⟨b, off + (m + 1) * 2, none⟩ = some (.string ya) ∧ W.cell? ⟨b, off + (m + 1) * 2 + 1, none⟩ = some (.slice vo yv.length vc))) :=
        Lib.hid (fun W h => ⟨h, (h.cell (p := ⟨b, _, none⟩) hw0).trans hd1, (h.cell (p := ⟨b, _, none⟩) hw0).trans hd2, (h.cell (p := ⟨b, _, none⟩) hw0).trans hd3, (h.cell (p := ⟨b, _, none⟩) hw0).trans hd4⟩)
      have hbd := hbel.drew
      have hwr : IntKind.i64.wrap (m : Int) = (m : Int) := IntWalk.i64_in _ (by omega)
      have hwr2 : IntKind.i64.wrap ((m : Int) + 1 - 1) = (m : Int) := by rw [Int.add_sub_cancel]; exact hwr
      clear hd1 hd2 hd3 hd4
      cases hn : nameLt (xa, xv) (ya, yv)
      · have HX' := Lib.hid (HX.out hn)
        go_wp2_with fail
        go_region_held3 (fun W => Below w.heap.size w W ∧ W.cell? ⟨b, off + m * 2, none⟩ = some (.string xa) ∧ W.cell? ⟨b, off + m * 2 + 1, none⟩ = some (.slice uo xv.length uc) ∧ W.cell? ⟨b, off + (m + 1) * 2, none⟩ = some (.string ya) ∧ W.cell? ⟨b, off + (m + 1) * 2 + 1, none⟩ = some (.slice vo yv.length vc))
          (exact SK.out _ (by assumption))
          (first | (go_at_call 107; refine (compareNames_any w _ _ _ _ xa ya rfl rfl (xa, xv) (ya, yv) rfl rfl _ ⟨_, _, _, rfl⟩ ⟨_, _, _, rfl⟩ (by assumption)).mono ?_; rintro e w1 ⟨⟨c, rfl, hc⟩, hb1⟩; rw [hn] at hc; have hc0 : 0 ≤ c := (by simpa using hc); clear hc) | (fail "none"))
        all_goals
          go_wp2
          go_ret
          exact ⟨ret_bool (by rw [HX'.out]), hb1⟩
      · go_wp2_with fail
        go_region_held3 (fun W => Below w.heap.size w W ∧ W.cell? ⟨b, off + m * 2, none⟩ = some (.string xa) ∧ W.cell? ⟨b, off + m * 2 + 1, none⟩ = some (.slice uo xv.length uc) ∧ W.cell? ⟨b, off + (m + 1) * 2, none⟩ = some (.string ya) ∧ W.cell? ⟨b, off + (m + 1) * 2 + 1, none⟩ = some (.slice vo yv.length vc))
          (exact SK.out _ (by assumption))
          (first | (go_at_call 107; refine (compareNames_any w _ _ _ _ xa ya rfl rfl (xa, xv) (ya, yv) rfl rfl _ ⟨_, _, _, rfl⟩ ⟨_, _, _, rfl⟩ (by assumption)).mono ?_; rintro e w1 ⟨⟨c, rfl, hc⟩, hb1⟩; rw [hn] at hc; have hc0 : ¬ 0 ≤ c := (by simpa using hc); clear hc) | (fail "none"))
        all_goals
          go_wp2
          go_roundw
          case rel => exact ⟨m + 1, by omega, by go_num, fun j h hj => HN.out j h hj hn, hb1⟩
          case measure => simp [intOf]; omega
    · have HT : Hid (incB nameLt l = true) := Lib.hid (incB_yes fun j h => Ha.out j h (by omega))
      have g1 : ¬ (m : Int) + 1 < (l.length : Int) := by omega
      go_wp2
      go_ret
      exact ⟨ret_bool (by rw [HT.out]), hbel⟩
theorem attrsB_long {l : List AttrV} (h : 8 < l.length) : attrsB l = false := by unfold attrsB; simp [show ¬ l.length ≤ 8 by omega]
theorem attrsB_short {l : List AttrV} (h : l.length ≤ 8) : attrsB l = (l.all attrB && incB nameLt l) := by unfold attrsB; simp [h]
theorem FitsA.max {l : List AttrV} (h : FitsA l) {k : Nat} (hk : k < l.length) : l[k].1.size ≤ maxLen := by have := (h.at hk).1; unfold maxLen; omega
set_option maxRecDepth 100000 in
set_option maxHeartbeats 1000000 in
theorem attrsRight_any (ao : Option Addr) (l : List AttrV) (cap : Nat) (w : World) (hd : AttrsAt w ao l) (hf : FitsA l) :
    Calls Try.prog 66 #[.slice ao l.length cap] w fun e w' => e = .returned (.bool (attrsB l)) ∧ Below w.heap.size w w' := by
  have hl := hf.1
  have HD := Lib.hid hd; have HF := Lib.hid hf; clear hd hf
  by_cases h8 : 8 < l.length
  · have HV := Lib.hid (attrsB_long h8)
    have g8 : 8 < (l.length : Int) := by omega
    go_enter Try.func66, Try.ntmps66
    go_wp2
    go_ret
    exact ⟨ret_bool HV.out.symm, Below.refl _ _⟩
  · have HV := Lib.hid (attrsB_short (l := l) (by omega))
    have g8 : ¬ 8 < (l.length : Int) := by omega
    go_enter Try.func66, Try.ntmps66
    go_wp2
    go_loopw [10] (fun i wr => ∃ k : Nat, k ≤ l.length ∧ i = .int .i64 k ∧ (l.take k).all attrB = true ∧ Below w.heap.size w wr) (fun i _ => l.length - (intOf i).toNat)
    case atStart => exact ⟨0, Nat.zero_le _, rfl, rfl, Below.refl _ _⟩
    case round =>
      obtain ⟨k, hk, rfl, ha, hbel⟩ := hrel
      have Ha := Lib.hid ha; clear ha
      have hsz := hbel.size
      by_cases hlt : k < l.length
      · obtain ⟨b, off, vo, vc, rfl, hb0, hc1, hc2, hv⟩ := (HD.out.below hbel).at hlt
        have HVv := Lib.hid hv.1; clear hv
        have hz := HF.out.max hlt
        have HZ := Lib.hid (HF.out.at hlt).2
        generalize hr : attrB l[k] = r at *
        have HR := Lib.hid hr
        have HE : Hid (attrB (l[k].1, l[k].2) = r) := Lib.hid hr
        have HT : Hid (r = true → (l.take (k + 1)).all attrB = true) := Lib.hid (fun h => by rw [all_take attrB l k hlt, Ha.out, hr, h]; rfl)
        have HX : Hid (r = false → l.all attrB = false) := Lib.hid (fun h => all_bad attrB l k hlt (hr.trans h))
        clear hr HR
        generalize l[k].1 = A at *
        generalize l[k].2 = V at *
        cases r
        · have HX' := Lib.hid (HX.out rfl)
          go_wp2_with fail
          have hb1 := more hbel (.cells #[.string A, .slice vo V.length vc] 81)
          refine (attrRight_any A vo V vc _ hz (HVv.out.below (more (Below.refl _ _) _)) HZ.out).mono ?_
          rintro e w2 ⟨rfl, hb2⟩
          have B2 := Lib.hid (hb1.trans (hb2.mono hb1.size))
          rw [HE.out]
          clear hb1 hb2
          go_wp2
          go_ret
          exact ⟨ret_bool (by rw [HV.out, HX'.out]; rfl), B2.out⟩
        · have HT' := Lib.hid (HT.out rfl)
          go_wp2_with fail
          have hb1 := more hbel (.cells #[.string A, .slice vo V.length vc] 81)
          refine (attrRight_any A vo V vc _ hz (HVv.out.below (more (Below.refl _ _) _)) HZ.out).mono ?_
          rintro e w2 ⟨rfl, hb2⟩
          have B2 := Lib.hid (hb1.trans (hb2.mono hb1.size))
          rw [HE.out]
          clear hb1 hb2
          go_wp2
          go_roundw
          case rel => exact ⟨k + 1, by omega, by go_num, HT'.out, B2.out⟩
          case measure => simp [intOf]; omega
      · have e : l.take k = l := List.take_of_length_le (by omega)
        have HT : Hid (l.all attrB = true) := Lib.hid (by rw [← e]; exact Ha.out)
        clear e
        go_wp2_with fail
        refine (incAttr_any ao l cap wr (HD.out.below hbel) hl).mono ?_
        rintro e w2 ⟨rfl, hb2⟩
        have B2 := Lib.hid (hbel.trans (hb2.mono hsz))
        clear hb2
        go_wp2
        go_ret
        exact ⟨ret_bool (by rw [HV.out, HT.out]; simp), B2.out⟩
theorem rightB_eq (d : RdnL) (l : List AttrV) : rightB d l = (dnB d && decide (0 < d.length) && attrsB l) := rfl
set_option maxRecDepth 100000 in
set_option maxHeartbeats 1000000 in
theorem EntryRight_any (ao bo : Option Addr) (d : RdnL) (l : List AttrV) (ca cb : Nat) (w : World) (hd : DnAt w ao d) (hl : AttrsAt w bo l) (hfd : Fits d) (hfl : FitsA l) :
    Calls Try.prog 30 #[.agg #[.slice ao d.length ca, .slice bo l.length cb]] w fun e w' => e = .returned (.bool (rightB d l)) ∧ Below w.heap.size w w' := by
  have hdl := hfd.1
  have HD := Lib.hid hd; have HL := Lib.hid hl; have FD := Lib.hid hfd; have FL := Lib.hid hfl; clear hd hl hfd hfl
  have HB0 : Hid (Below w.heap.size w (w.alloc (.cells #[.slice ao d.length ca, .slice bo l.length cb] 43))) := Lib.hid (more (Below.refl _ _) _)
  have HE := Lib.hid (rightB_eq d l)
  go_enter Try.func30, Try.ntmps30
  go_wp2_with fail
  refine (DnRight_any ao d ca _ (HD.out.below HB0.out) FD.out).mono ?_
  rintro e w1 ⟨rfl, hb1⟩
  have B1 := Lib.hid (HB0.out.trans (hb1.mono HB0.out.size))
  have c0 : w1.cell? ⟨w.heap.size, 0, none⟩ = some (.slice ao d.length ca) := (hb1.cell (p := ⟨w.heap.size, 0, none⟩) (by simp)).trans (by unfold World.cell?; rw [heap_alloc_new]; rfl)
  have c1 : w1.cell? ⟨w.heap.size, 1, none⟩ = some (.slice bo l.length cb) := (hb1.cell (p := ⟨w.heap.size, 1, none⟩) (by simp)).trans (by unfold World.cell?; rw [heap_alloc_new]; rfl)
  clear hb1
  cases hr : dnB d
  · rw [hr] at HE
    go_wp2
    go_ret
    exact ⟨ret_bool (by rw [HE.out]; rfl), B1.out⟩
  · rw [hr] at HE
    by_cases h0 : 0 < d.length
    · have g0 : (0 : Int) < (d.length : Int) := by omega
      go_wp2_with fail
      refine (attrsRight_any bo l cb w1 (HL.out.below B1.out) FL.out).mono ?_
      rintro e w2 ⟨rfl, hb2⟩
      have B2 := Lib.hid (B1.out.trans (hb2.mono B1.out.size))
      clear hb2
      go_wp2
      go_ret
      exact ⟨ret_bool (by rw [HE.out]; simp [h0]), B2.out⟩
    · have g0 : ¬ (0 : Int) < (d.length : Int) := by omega
      go_wp2
      go_ret
      exact ⟨ret_bool (by rw [HE.out]; simp [h0]), B1.out⟩
end Go.Proofs.Ytjajpdghamecoaa
