/- Merged texts: EntR1, EntR2, UnderMath, EntS1, EntSz, EntCopy, EntCopy2. -/
import Derived.Test.YtjajpdghamecoaaM3
import Derived.Test.YtjajpdghamecoaaM1
import Derived.Shelf.Small.Strs
import Derived.Test.YtjajpdghamecoaaM2
/- EntryRight: the order of texts; the values of an attribute. -/
namespace Go.Proofs
open Go.Shelf
def Try.lays106_ren : Go.Shelf.Ren := ⟨fun | 106 => 134 | 213 => 140 | 265 => 146 | n => n, fun | 9 => 9 | 3 => 3 | n => n, fun | n => n⟩
theorem Try.lays106 : Go.Proofs.Lays.n106 Try.prog Try.lays106_ren := {
  mixed := by kernel_rfl
  f106 := Try.func134.trans (congrArg some (by kernel_rfl))
  f213 := Try.func140.trans (congrArg some (by kernel_rfl))
  f265 := Try.func146.trans (congrArg some (by kernel_rfl))
  t3 := Try.underlying3
  a3 := Try.isAgg3
  z3 := Try.sizeOf3
  v3 := Try.zeroValue3
  t9 := Try.underlying9
  a9 := Try.isAgg9
  z9 := Try.sizeOf9
  v9 := Try.zeroValue9 }
open Go.RowKit in
theorem Try.strings_Compare (a b : ByteArray) (w : World) :
    Calls Try.prog 134 #[.string a, .string b] w fun e w' => e = .returned (.int .i64 (Lib.compareBytes a.data.toList b.data.toList)) ∧ w' = w := Any.strings_Compare Try.lays106 a b w
namespace Ytjajpdghamecoaa
open Go.RowKit
attribute [local go_sem ↓] Go.wp_at_zero Go.wp_at_succ

theorem compare_less : ∀ (a b : List UInt8), decide (0 ≤ Lib.compareBytes a b) = !(Op.bytesLess a b)
  | [], [] => rfl
  | [], _ :: _ => rfl
  | _ :: _, [] => rfl
  | a :: xs, b :: ys => by
    unfold Lib.compareBytes Op.bytesLess
    have ih := compare_less xs ys
    by_cases h1 : a < b
    · simp [h1]
    · by_cases h2 : b < a
      · have h3 : a ≠ b := by rintro rfl; exact h1 h2
        simp [h1, h2, h3]
      · have h3 : a = b := UInt8.le_antisymm (UInt8.not_lt.1 h2) (UInt8.not_lt.1 h1)
        subst h3
        simp [h1, ih]
/-- a list each of whose elements is less than the next -/
noncomputable def incB {α : Type} (lt : α → α → Bool) (l : List α) : Bool := @decide (∀ i (h : i + 1 < l.length), lt l[i] l[i + 1] = true) (Classical.propDecidable _)
theorem incB_yes {α : Type} {lt : α → α → Bool} {l : List α} (h : ∀ i (h : i + 1 < l.length), lt l[i] l[i + 1] = true) : incB lt l = true := @decide_eq_true _ (Classical.propDecidable _) h
theorem incB_no {α : Type} {lt : α → α → Bool} {l : List α} {k : Nat} (hk : k + 1 < l.length) (h : lt l[k] l[k + 1] = false) : incB lt l = false :=
  @decide_eq_false _ (Classical.propDecidable _) (fun g => by have := g k hk; rw [h] at this; cases this)
def normLt (x y : ByteArray) : Bool := Op.bytesLess (normS x).toList (normS y).toList
def nameLt (a b : AttrV) : Bool := Op.bytesLess a.1.toList b.1.toList
noncomputable def valsB (l : List ByteArray) : Bool := decide (1 ≤ l.length) && decide (l.length ≤ 4) && l.all valB && incB normLt l
noncomputable def attrB (a : AttrV) : Bool := nmL a.1 && valsB a.2
noncomputable def attrsB (l : List AttrV) : Bool := decide (l.length ≤ 8) && l.all attrB && incB nameLt l
noncomputable def rightB (d : RdnL) (l : List AttrV) : Bool := dnB d && decide (0 < d.length) && attrsB l
set_option maxHeartbeats 1000000 in
theorem compareNorms_any (w0 : World) (a b : ByteArray) (w : World) (ha : a.size ≤ maxLen) (hb : b.size ≤ maxLen) (hB : Below w0.heap.size w0 w) :
    Calls Try.prog 133 #[.string a, .string b] w fun e w' => (∃ c : Int, e = .returned (.int .i64 c) ∧ decide (0 ≤ c) = !(normLt a b)) ∧ Below w0.heap.size w0 w' := by
  have HC : Hid (decide (0 ≤ Lib.compareBytes (normS a).data.toList (normS b).data.toList) = !(normLt a b)) := Lib.hid (by rw [compare_less]; unfold normLt; rw [Lib.toList_data, Lib.toList_data])
  have hbd := hB.drew
  have HN : Hid (∀ (s : ByteArray) W, s.size ≤ maxLen → Below w0.heap.size w0 W → Calls Try.prog 99 #[.string s] W fun e w' => e = .returned (.string (normS s)) ∧ Below w0.heap.size w0 w') :=
    Lib.hid (fun s W hs h => (Norm_any s W hs).mono fun _ _ g => ⟨g.1, h.trans (g.2.mono h.size)⟩)
  go_enter Try.func133, Try.ntmps133
  go_wp2_with (first
    | (go_at_call 99; refine (HN.out _ _ ha hB).mono ?_; rintro e w1 ⟨rfl, hb1⟩; clear hB hbd)
    | (go_at_call 99; refine (HN.out _ _ hb hb1).mono ?_; rintro e w2 ⟨rfl, hb2⟩; clear hb1)
    | (go_at_call 134; refine (Try.strings_Compare _ _ _).mono ?_; rintro e w3 ⟨rfl, rfl⟩)
    | (fail "none"))
  go_ret
  exact ⟨⟨_, rfl, HC.out⟩, hb2⟩
theorem FitsV.max {l : List ByteArray} (h : FitsV l) {k : Nat} (hk : k < l.length) : l[k].size ≤ maxLen := by have := h.at hk; unfold maxLen; omega
set_option maxRecDepth 100000 in
set_option maxHeartbeats 1000000 in
theorem areProper_any (ao : Option Addr) (l : List ByteArray) (cap : Nat) (w : World) (hd : StrsAt w ao l) (hf : FitsV l) :
    Calls Try.prog 131 #[.slice ao l.length cap] w fun e w' => e = .returned (.bool (l.all valB)) ∧ Below w.heap.size w w' := by
  have hl := hf.1
  have HD := Lib.hid hd; have HF := Lib.hid hf; clear hd hf
  go_enter Try.func131, Try.ntmps131
  go_wp2
  go_loopw [7] (fun i wr => ∃ k : Nat, k ≤ l.length ∧ i = .int .i64 k ∧ (l.take k).all valB = true ∧ Below w.heap.size w wr) (fun i _ => l.length - (intOf i).toNat)
  case atStart => exact ⟨0, Nat.zero_le _, rfl, rfl, Below.refl _ _⟩
  case round =>
    obtain ⟨k, hk, rfl, ha, hbel⟩ := hrel
    have Ha := Lib.hid ha; clear ha
    have hsz := hbel.size
    by_cases hlt : k < l.length
    · obtain ⟨b, off, rfl, hb0, hc1⟩ := (HD.out.below hbel).at hlt
      have hz := HF.out.max hlt
      generalize hr : valB l[k] = r at *
      have HR := Lib.hid hr; clear hr
      cases r
      · have HX := Lib.hid (all_bad valB l k hlt HR.out)
        go_wp2_with (first | (go_at_call 92; refine (isProperValue_any _ _ hz).mono ?_; rintro e w1 ⟨rfl, hb1⟩; rw [HR.out]) | (fail "none"))
        go_ret
        exact ⟨ret_bool (by rw [HX.out]), hbel.trans (hb1.mono hsz)⟩
      · have HT : Hid ((l.take (k + 1)).all valB = true) := Lib.hid (by rw [all_take valB l k hlt, Ha.out, HR.out]; rfl)
        go_wp2_with (first | (go_at_call 92; refine (isProperValue_any _ _ hz).mono ?_; rintro e w1 ⟨rfl, hb1⟩; rw [HR.out]) | (fail "none"))
        go_roundw
        case rel => exact ⟨k + 1, by omega, by go_num, HT.out, hbel.trans (hb1.mono hsz)⟩
        case measure => simp [intOf]; omega
    · have e : l.take k = l := List.take_of_length_le (by omega)
      have HT : Hid (l.all valB = true) := Lib.hid (by rw [← e]; exact Ha.out)
      clear e
      go_wp2
      go_ret
      exact ⟨ret_bool (by rw [HT.out]), hbel⟩
set_option maxRecDepth 100000 in
set_option maxHeartbeats 1000000 in
theorem incStr_any (ao : Option Addr) (l : List ByteArray) (cap : Nat) (w : World) (hd : StrsAt w ao l) (hf : FitsV l) :
    Calls Try.prog 132 #[.slice ao l.length cap, .func (.func 133) #[] #[]] w fun e w' => e = .returned (.bool (incB normLt l)) ∧ Below w.heap.size w w' := by
  have hl := hf.1
  have HD := Lib.hid hd; have HF := Lib.hid hf; clear hd hf
  go_enter Try.func132, Try.ntmps132
  go_wp2
  go_loopw [5] (fun i wr => ∃ m : Nat, m ≤ l.length ∧ i = .int .i64 ((m : Int) + 1) ∧ (∀ j (h : j + 1 < l.length), j < m → normLt l[j] l[j + 1] = true) ∧ Below w.heap.size w wr) (fun i _ => l.length + 1 - (intOf i).toNat)
  case atStart => exact ⟨0, Nat.zero_le _, rfl, fun j _ h => absurd h (Nat.not_lt_zero _), Below.refl _ _⟩
  case round =>
    obtain ⟨m, hm, rfl, ha, hbel⟩ := hrel
    have Ha := Lib.hid ha; clear ha
    have hsz := hbel.size
    by_cases hlt : m + 1 < l.length
    · have hm0 : m < l.length := by omega
      obtain ⟨b, off, rfl, hw0, hd1⟩ := HD.out.at hm0
      obtain ⟨b', off', e, _, hd2⟩ := HD.out.at hlt
      cases e
      have hc1 := (hbel.cell (p := ⟨b, off + m, none⟩) hw0).trans hd1
      have hc2 := (hbel.cell (p := ⟨b, off + (m + 1), none⟩) hw0).trans hd2
      have hz1 := HF.out.max hm0
      have hz2 := HF.out.max hlt
      have g1 : (m : Int) + 1 < (l.length : Int) := by omega
      have g2 : (0 : Int) ≤ (m : Int) := by omega
      have g3 : (m : Int) < (l.length : Int) := by omega
      have g4 : (0 : Int) ≤ (m : Int) + 1 := by omega
      have HN : Hid (∀ j (h : j + 1 < l.length), j < m + 1 → normLt l[m] l[m + 1] = true → normLt l[j] l[j + 1] = true) := Lib.hid (fun j h hj hn => by
        by_cases e : j = m
        · subst e; exact hn
        · exact Ha.out j h (by omega))
      have HX : Hid (normLt l[m] l[m + 1] = false → incB normLt l = false) := Lib.hid (fun h => incB_no hlt h)
      generalize hx : l[m] = X at *
      generalize hy : l[m + 1] = Y at *
      clear hx hy
      have SK : Hid (∀ W : World, Below w.heap.size w W → (Below w.heap.size w W ∧ W.cell? ⟨b, off + m, none⟩ = some (.string X) ∧ W.cell? ⟨b, off + (m + 1), none⟩ = some (.string Y))) :=
        Lib.hid (fun W h => ⟨h, (h.cell (p := ⟨b, _, none⟩) hw0).trans hd1, (h.cell (p := ⟨b, _, none⟩) hw0).trans hd2⟩)
      have hbd := hbel.drew
      have hwr : IntKind.i64.wrap (m : Int) = (m : Int) := IntWalk.i64_in _ (by omega)
      have hwr2 : IntKind.i64.wrap ((m : Int) + 1 - 1) = (m : Int) := by rw [Int.add_sub_cancel]; exact hwr
      clear hc1 hc2 hd1 hd2
      cases hn : normLt X Y
      · have HX' := Lib.hid (HX.out hn)
        go_wp2_with fail
        go_region_held3 (fun W => Below w.heap.size w W ∧ W.cell? ⟨b, off + m, none⟩ = some (.string X) ∧ W.cell? ⟨b, off + (m + 1), none⟩ = some (.string Y))
          (exact SK.out _ (by assumption))
          (first | (go_at_call 133; refine (compareNorms_any w X Y _ hz1 hz2 (by assumption)).mono ?_; rintro e w1 ⟨⟨c, rfl, hc⟩, hb1⟩; rw [hn] at hc; have hc0 : 0 ≤ c := (by simpa using hc); clear hc) | (fail "none"))
        all_goals
          go_wp2
          go_ret
          exact ⟨ret_bool (by rw [HX'.out]), hb1⟩
      · go_wp2_with fail
        go_region_held3 (fun W => Below w.heap.size w W ∧ W.cell? ⟨b, off + m, none⟩ = some (.string X) ∧ W.cell? ⟨b, off + (m + 1), none⟩ = some (.string Y))
          (exact SK.out _ (by assumption))
          (first | (go_at_call 133; refine (compareNorms_any w X Y _ hz1 hz2 (by assumption)).mono ?_; rintro e w1 ⟨⟨c, rfl, hc⟩, hb1⟩; rw [hn] at hc; have hc0 : ¬ 0 ≤ c := (by simpa using hc); clear hc) | (fail "none"))
        all_goals
          go_wp2
          go_roundw
          case rel => exact ⟨m + 1, by omega, by go_num, fun j h hj => HN.out j h hj hn, hb1⟩
          case measure => simp [intOf]; omega
    · have HT : Hid (incB normLt l = true) := Lib.hid (incB_yes fun j h => Ha.out j h (by omega))
      have g1 : ¬ (m : Int) + 1 < (l.length : Int) := by omega
      go_wp2
      go_ret
      exact ⟨ret_bool (by rw [HT.out]), hbel⟩
set_option maxRecDepth 100000 in
set_option maxHeartbeats 1000000 in
theorem attrRight_any (A : ByteArray) (vo : Option Addr) (l : List ByteArray) (vc : Nat) (w : World) (hA : A.size ≤ maxLen) (hd : StrsAt w vo l) (hf : FitsV l) :
    Calls Try.prog 105 #[.agg #[.string A, .slice vo l.length vc]] w fun e w' => e = .returned (.bool (attrB (A, l))) ∧ Below w.heap.size w w' := by
  have hl := hf.1
  have HD := Lib.hid hd; have HF := Lib.hid hf; clear hd hf
  have HB0 : Hid (Below w.heap.size w (w.alloc (.cells #[.string A, .slice vo l.length vc] 81))) := Lib.hid (more (Below.refl _ _) _)
  have HE : Hid (attrB (A, l) = (nmL A && (decide (1 ≤ l.length) && decide (l.length ≤ 4) && l.all valB && incB normLt l))) := Lib.hid rfl
  by_cases h1 : l.length < 1
  · have g1 : (l.length : Int) < 1 := by omega
    go_enter Try.func105, Try.ntmps105
    go_wp2
    go_ret
    exact ⟨ret_bool (by rw [HE.out]; simp [show ¬ 1 ≤ l.length by omega]), HB0.out⟩
  · have g1 : ¬ (l.length : Int) < 1 := by omega
    by_cases h4 : 4 < l.length
    · have g4 : 4 < (l.length : Int) := by omega
      go_enter Try.func105, Try.ntmps105
      go_wp2
      go_ret
      exact ⟨ret_bool (by rw [HE.out]; simp [show ¬ l.length ≤ 4 by omega]), HB0.out⟩
    · have g4 : ¬ 4 < (l.length : Int) := by omega
      have d1 : decide (1 ≤ l.length) = true := decide_eq_true (by omega)
      have d2 : decide (l.length ≤ 4) = true := decide_eq_true (by omega)
      rw [d1, d2] at HE
      clear d1 d2
      cases hn : nmL A
      · rw [hn] at HE
        go_enter Try.func105, Try.ntmps105
        go_wp2_with (first | (go_at_call 91; refine (NameRight_any _ _ hA).mono ?_; rintro e w' ⟨rfl, rfl⟩) | (fail "none"))
        go_ret
        exact ⟨ret_bool (by rw [HE.out]; simp), HB0.out⟩
      · rw [hn] at HE
        cases hv : l.all valB
        · rw [hv] at HE
          go_enter Try.func105, Try.ntmps105
          go_wp2_with (first | (go_at_call 91; refine (NameRight_any _ _ hA).mono ?_; rintro e w' ⟨rfl, rfl⟩) | (go_at_call 131; refine (areProper_any vo l vc _ (HD.out.below HB0.out) HF.out).mono ?_; rw [hv]; rintro e w1 ⟨rfl, hb1⟩) | (fail "none"))
          go_ret
          exact ⟨ret_bool (by rw [HE.out]; simp), HB0.out.trans (hb1.mono HB0.out.size)⟩
        · rw [hv] at HE
          go_enter Try.func105, Try.ntmps105
          go_wp2_with (first | (go_at_call 91; refine (NameRight_any _ _ hA).mono ?_; rintro e w' ⟨rfl, rfl⟩) | (go_at_call 131; refine (areProper_any vo l vc _ (HD.out.below HB0.out) HF.out).mono ?_; rw [hv]; rintro e w1 ⟨rfl, hb1⟩; have B1 := Lib.hid (HB0.out.trans (hb1.mono HB0.out.size)); have c1 : w1.cell? ⟨w.heap.size, 1, none⟩ = some (.slice vo l.length vc) := (hb1.cell (p := ⟨w.heap.size, 1, none⟩) (by simp)).trans (by unfold World.cell?; rw [heap_alloc_new]; rfl)) | (fail "none"))
          refine (incStr_any vo l vc w1 (HD.out.below B1.out) HF.out).mono ?_
          rintro e w2 ⟨rfl, hb2⟩
          have B2 := Lib.hid (B1.out.trans (hb2.mono B1.out.size))
          clear hb1 hb2
          generalize incB normLt l = r at *
          go_wp2
          go_ret
          exact ⟨ret_bool (by rw [HE.out]; simp), B2.out⟩
end Ytjajpdghamecoaa
end Go.Proofs
/- EntryRight: what the program returns. -/
namespace Go.Proofs.Ytjajpdghamecoaa
open Go.RowKit
attribute [local go_sem ↓] Go.wp_at_zero Go.wp_at_succ

set_option maxHeartbeats 1000000 in
theorem compareNames_any (w0 : World) (A B u v : Value) (a b : ByteArray) (hA : A = .agg #[.string a, u]) (hB : B = .agg #[.string b, v]) (x y : AttrV) (hx : x.1 = a) (hy : y.1 = b) (w : World) (hu : ∃ o n c, u = .slice o n c) (hv : ∃ o n c, v = .slice o n c) (hBel : Below w0.heap.size w0 w) :
    Calls Try.prog 107 #[A, B] w fun e w' => (∃ c : Int, e = .returned (.int .i64 c) ∧ decide (0 ≤ c) = !(nameLt x y)) ∧ Below w0.heap.size w0 w' := by
  subst hA hB
  obtain ⟨uo, un, uc, rfl⟩ := hu
  obtain ⟨vo, vn, vc, rfl⟩ := hv
  have HC : Hid (decide (0 ≤ Lib.compareBytes a.data.toList b.data.toList) = !(nameLt x y)) := Lib.hid (by rw [compare_less]; unfold nameLt; rw [hx, hy, Lib.toList_data, Lib.toList_data])
  have HB := Lib.hid hBel; clear hBel hx hy
  go_enter Try.func107, Try.ntmps107
  go_wp2_with (first
    | (go_at_call 134; refine (Try.strings_Compare _ _ _).mono ?_; rintro e w3 ⟨rfl, rfl⟩)
    | (fail "none"))
  go_ret
  exact ⟨⟨_, rfl, HC.out⟩, more (more HB.out _) _⟩
set_option maxRecDepth 100000 in
set_option maxHeartbeats 1000000 in
theorem incAttr_any (ao : Option Addr) (l : List AttrV) (cap : Nat) (w : World) (hd : AttrsAt w ao l) (hl : l.length ≤ 1048576) :
    Calls Try.prog 106 #[.slice ao l.length cap, .func (.func 107) #[] #[]] w fun e w' => e = .returned (.bool (incB nameLt l)) ∧ Below w.heap.size w w' := by
  have HD := Lib.hid hd; clear hd
  go_enter Try.func106, Try.ntmps106
  go_wp2
  go_loopw [5] (fun i wr => ∃ m : Nat, m ≤ l.length ∧ i = .int .i64 ((m : Int) + 1) ∧ (∀ j (h : j + 1 < l.length), j < m → nameLt l[j] l[j + 1] = true) ∧ Below w.heap.size w wr) (fun i _ => l.length + 1 - (intOf i).toNat)
  case atStart => exact ⟨0, Nat.zero_le _, rfl, fun j _ h => absurd h (Nat.not_lt_zero _), Below.refl _ _⟩
  case round =>
    obtain ⟨m, hm, rfl, ha, hbel⟩ := hrel
    have Ha := Lib.hid ha; clear ha
    have hsz := hbel.size
    by_cases hlt : m + 1 < l.length
    · have hm0 : m < l.length := by omega
      obtain ⟨b, off, uo, uc, rfl, hw0, hd1, hd2, _⟩ := HD.out.at hm0
      obtain ⟨b', off', vo, vc, e, _, hd3, hd4, _⟩ := HD.out.at hlt
      cases e
      have g1 : (m : Int) + 1 < (l.length : Int) := by omega
      have g2 : (0 : Int) ≤ (m : Int) := by omega
      have g3 : (m : Int) < (l.length : Int) := by omega
      have g4 : (0 : Int) ≤ (m : Int) + 1 := by omega
      have HN : Hid (∀ j (h : j + 1 < l.length), j < m + 1 → nameLt l[m] l[m + 1] = true → nameLt l[j] l[j + 1] = true) := Lib.hid (fun j h hj hn => by
        by_cases e : j = m
        · subst e; exact hn
        · exact Ha.out j h (by omega))
      have HX : Hid (nameLt l[m] l[m + 1] = false → incB nameLt l = false) := Lib.hid (fun h => incB_no hlt h)
      generalize hx : l[m] = X at *
      generalize hy : l[m + 1] = Y at *
      clear hx hy
      obtain ⟨xa, xv⟩ := X
      obtain ⟨ya, yv⟩ := Y
      have SK : Hid (∀ W : World, Below w.heap.size w W → (Below w.heap.size w W ∧ W.cell? ⟨b, off + m * 2, none⟩ = some (.string xa) ∧ W.cell? ⟨b, off + m * 2 + 1, none⟩ = some (.slice uo xv.length uc) ∧ W.cell? ⟨b, off + (m + 1) * 2, none⟩ = some (.string ya) ∧ W.cell? ⟨b, off + (m + 1) * 2 + 1, none⟩ = some (.slice vo yv.length vc))) :=
        Lib.hid (fun W h => ⟨h, (h.cell (p := ⟨b, _, none⟩) hw0).trans hd1, (h.cell (p := ⟨b, _, none⟩) hw0).trans hd2, (h.cell (p := ⟨b, _, none⟩) hw0).trans hd3, (h.cell (p := ⟨b, _, none⟩) hw0).trans hd4⟩)
      have hbd := hbel.drew
      have hwr : IntKind.i64.wrap (m : Int) = (m : Int) := IntWalk.i64_in _ (by omega)
      have hwr2 : IntKind.i64.wrap ((m : Int) + 1 - 1) = (m : Int) := by rw [Int.add_sub_cancel]; exact hwr
      clear hd1 hd2 hd3 hd4
      cases hn : nameLt (xa, xv) (ya, yv)
      · have HX' := Lib.hid (HX.out hn)
        go_wp2_with fail
        go_region_held3 (fun W => Below w.heap.size w W ∧ W.cell? ⟨b, off + m * 2, none⟩ = some (.string xa) ∧ W.cell? ⟨b, off + m * 2 + 1, none⟩ = some (.slice uo xv.length uc) ∧ W.cell? ⟨b, off + (m + 1) * 2, none⟩ = some (.string ya) ∧ W.cell? ⟨b, off + (m + 1) * 2 + 1, none⟩ = some (.slice vo yv.length vc))
          (exact SK.out _ (by assumption))
          (first | (go_at_call 107; refine (compareNames_any w _ _ _ _ xa ya rfl rfl (xa, xv) (ya, yv) rfl rfl _ ⟨_, _, _, rfl⟩ ⟨_, _, _, rfl⟩ (by assumption)).mono ?_; rintro e w1 ⟨⟨c, rfl, hc⟩, hb1⟩; rw [hn] at hc; have hc0 : 0 ≤ c := (by simpa using hc); clear hc) | (fail "none"))
        all_goals
          go_wp2
          go_ret
          exact ⟨ret_bool (by rw [HX'.out]), hb1⟩
      · go_wp2_with fail
        go_region_held3 (fun W => Below w.heap.size w W ∧ W.cell? ⟨b, off + m * 2, none⟩ = some (.string xa) ∧ W.cell? ⟨b, off + m * 2 + 1, none⟩ = some (.slice uo xv.length uc) ∧ W.cell? ⟨b, off + (m + 1) * 2, none⟩ = some (.string ya) ∧ W.cell? ⟨b, off + (m + 1) * 2 + 1, none⟩ = some (.slice vo yv.length vc))
          (exact SK.out _ (by assumption))
          (first | (go_at_call 107; refine (compareNames_any w _ _ _ _ xa ya rfl rfl (xa, xv) (ya, yv) rfl rfl _ ⟨_, _, _, rfl⟩ ⟨_, _, _, rfl⟩ (by assumption)).mono ?_; rintro e w1 ⟨⟨c, rfl, hc⟩, hb1⟩; rw [hn] at hc; have hc0 : ¬ 0 ≤ c := (by simpa using hc); clear hc) | (fail "none"))
        all_goals
          go_wp2
          go_roundw
          case rel => exact ⟨m + 1, by omega, by go_num, fun j h hj => HN.out j h hj hn, hb1⟩
          case measure => simp [intOf]; omega
    · have HT : Hid (incB nameLt l = true) := Lib.hid (incB_yes fun j h => Ha.out j h (by omega))
      have g1 : ¬ (m : Int) + 1 < (l.length : Int) := by omega
      go_wp2
      go_ret
      exact ⟨ret_bool (by rw [HT.out]), hbel⟩
theorem attrsB_long {l : List AttrV} (h : 8 < l.length) : attrsB l = false := by unfold attrsB; simp [show ¬ l.length ≤ 8 by omega]
theorem attrsB_short {l : List AttrV} (h : l.length ≤ 8) : attrsB l = (l.all attrB && incB nameLt l) := by unfold attrsB; simp [h]
theorem FitsA.max {l : List AttrV} (h : FitsA l) {k : Nat} (hk : k < l.length) : l[k].1.size ≤ maxLen := by have := (h.at hk).1; unfold maxLen; omega
set_option maxRecDepth 100000 in
set_option maxHeartbeats 1000000 in
theorem attrsRight_any (ao : Option Addr) (l : List AttrV) (cap : Nat) (w : World) (hd : AttrsAt w ao l) (hf : FitsA l) :
    Calls Try.prog 66 #[.slice ao l.length cap] w fun e w' => e = .returned (.bool (attrsB l)) ∧ Below w.heap.size w w' := by
  have hl := hf.1
  have HD := Lib.hid hd; have HF := Lib.hid hf; clear hd hf
  by_cases h8 : 8 < l.length
  · have HV := Lib.hid (attrsB_long h8)
    have g8 : 8 < (l.length : Int) := by omega
    go_enter Try.func66, Try.ntmps66
    go_wp2
    go_ret
    exact ⟨ret_bool HV.out.symm, Below.refl _ _⟩
  · have HV := Lib.hid (attrsB_short (l := l) (by omega))
    have g8 : ¬ 8 < (l.length : Int) := by omega
    go_enter Try.func66, Try.ntmps66
    go_wp2
    go_loopw [10] (fun i wr => ∃ k : Nat, k ≤ l.length ∧ i = .int .i64 k ∧ (l.take k).all attrB = true ∧ Below w.heap.size w wr) (fun i _ => l.length - (intOf i).toNat)
    case atStart => exact ⟨0, Nat.zero_le _, rfl, rfl, Below.refl _ _⟩
    case round =>
      obtain ⟨k, hk, rfl, ha, hbel⟩ := hrel
      have Ha := Lib.hid ha; clear ha
      have hsz := hbel.size
      by_cases hlt : k < l.length
      · obtain ⟨b, off, vo, vc, rfl, hb0, hc1, hc2, hv⟩ := (HD.out.below hbel).at hlt
        have HVv := Lib.hid hv.1; clear hv
        have hz := HF.out.max hlt
        have HZ := Lib.hid (HF.out.at hlt).2
        generalize hr : attrB l[k] = r at *
        have HR := Lib.hid hr
        have HE : Hid (attrB (l[k].1, l[k].2) = r) := Lib.hid hr
        have HT : Hid (r = true → (l.take (k + 1)).all attrB = true) := Lib.hid (fun h => by rw [all_take attrB l k hlt, Ha.out, hr, h]; rfl)
        have HX : Hid (r = false → l.all attrB = false) := Lib.hid (fun h => all_bad attrB l k hlt (hr.trans h))
        clear hr HR
        generalize l[k].1 = A at *
        generalize l[k].2 = V at *
        cases r
        · have HX' := Lib.hid (HX.out rfl)
          go_wp2_with fail
          have hb1 := more hbel (.cells #[.string A, .slice vo V.length vc] 81)
          refine (attrRight_any A vo V vc _ hz (HVv.out.below (more (Below.refl _ _) _)) HZ.out).mono ?_
          rintro e w2 ⟨rfl, hb2⟩
          have B2 := Lib.hid (hb1.trans (hb2.mono hb1.size))
          rw [HE.out]
          clear hb1 hb2
          go_wp2
          go_ret
          exact ⟨ret_bool (by rw [HV.out, HX'.out]; rfl), B2.out⟩
        · have HT' := Lib.hid (HT.out rfl)
          go_wp2_with fail
          have hb1 := more hbel (.cells #[.string A, .slice vo V.length vc] 81)
          refine (attrRight_any A vo V vc _ hz (HVv.out.below (more (Below.refl _ _) _)) HZ.out).mono ?_
          rintro e w2 ⟨rfl, hb2⟩
          have B2 := Lib.hid (hb1.trans (hb2.mono hb1.size))
          rw [HE.out]
          clear hb1 hb2
          go_wp2
          go_roundw
          case rel => exact ⟨k + 1, by omega, by go_num, HT'.out, B2.out⟩
          case measure => simp [intOf]; omega
      · have e : l.take k = l := List.take_of_length_le (by omega)
        have HT : Hid (l.all attrB = true) := Lib.hid (by rw [← e]; exact Ha.out)
        clear e
        go_wp2_with fail
        refine (incAttr_any ao l cap wr (HD.out.below hbel) hl).mono ?_
        rintro e w2 ⟨rfl, hb2⟩
        have B2 := Lib.hid (hbel.trans (hb2.mono hsz))
        clear hb2
        go_wp2
        go_ret
        exact ⟨ret_bool (by rw [HV.out, HT.out]; simp), B2.out⟩
theorem rightB_eq (d : RdnL) (l : List AttrV) : rightB d l = (dnB d && decide (0 < d.length) && attrsB l) := rfl
set_option maxRecDepth 100000 in
set_option maxHeartbeats 1000000 in
theorem EntryRight_any (ao bo : Option Addr) (d : RdnL) (l : List AttrV) (ca cb : Nat) (w : World) (hd : DnAt w ao d) (hl : AttrsAt w bo l) (hfd : Fits d) (hfl : FitsA l) :
    Calls Try.prog 30 #[.agg #[.slice ao d.length ca, .slice bo l.length cb]] w fun e w' => e = .returned (.bool (rightB d l)) ∧ Below w.heap.size w w' := by
  have hdl := hfd.1
  have HD := Lib.hid hd; have HL := Lib.hid hl; have FD := Lib.hid hfd; have FL := Lib.hid hfl; clear hd hl hfd hfl
  have HB0 : Hid (Below w.heap.size w (w.alloc (.cells #[.slice ao d.length ca, .slice bo l.length cb] 43))) := Lib.hid (more (Below.refl _ _) _)
  have HE := Lib.hid (rightB_eq d l)
  go_enter Try.func30, Try.ntmps30
  go_wp2_with fail
  refine (DnRight_any ao d ca _ (HD.out.below HB0.out) FD.out).mono ?_
  rintro e w1 ⟨rfl, hb1⟩
  have B1 := Lib.hid (HB0.out.trans (hb1.mono HB0.out.size))
  have c0 : w1.cell? ⟨w.heap.size, 0, none⟩ = some (.slice ao d.length ca) := (hb1.cell (p := ⟨w.heap.size, 0, none⟩) (by simp)).trans (by unfold World.cell?; rw [heap_alloc_new]; rfl)
  have c1 : w1.cell? ⟨w.heap.size, 1, none⟩ = some (.slice bo l.length cb) := (hb1.cell (p := ⟨w.heap.size, 1, none⟩) (by simp)).trans (by unfold World.cell?; rw [heap_alloc_new]; rfl)
  clear hb1
  cases hr : dnB d
  · rw [hr] at HE
    go_wp2
    go_ret
    exact ⟨ret_bool (by rw [HE.out]; rfl), B1.out⟩
  · rw [hr] at HE
    by_cases h0 : 0 < d.length
    · have g0 : (0 : Int) < (d.length : Int) := by omega
      go_wp2_with fail
      refine (attrsRight_any bo l cb w1 (HL.out.below B1.out) FL.out).mono ?_
      rintro e w2 ⟨rfl, hb2⟩
      have B2 := Lib.hid (B1.out.trans (hb2.mono B1.out.size))
      clear hb2
      go_wp2
      go_ret
      exact ⟨ret_bool (by rw [HE.out]; simp [h0]), B2.out⟩
    · have g0 : ¬ (0 : Int) < (d.length : Int) := by omega
      go_wp2
      go_ret
      exact ⟨ret_bool (by rw [HE.out]; simp [h0]), B1.out⟩
end Go.Proofs.Ytjajpdghamecoaa
/- Names under their ends; two names under each other are the same. -/
namespace Go.Proofs.Ytjajpdghamecoaa

theorem under_drop {d : RdnL} (h : dnB d = true) {i : Nat} (hi : i ≤ d.length) : underB d (d.drop i) = true := by
  unfold underB
  have e : d.length - (d.drop i).length = i := by rw [List.length_drop]; omega
  rw [h, dnB_drop h, e]
  simp [sameB]
theorem dnB_rdns {d : RdnL} (h : dnB d = true) : d.all rdnB = true := by
  unfold dnB at h
  simp only [Bool.and_eq_true] at h
  exact h.2
theorem same_length {a b : RdnL} (h : sameB a b = true) : a.length = b.length := by
  unfold sameB at h
  have := congrArg List.length (of_decide_eq_true h)
  simpa using this
theorem sameB_comm (a b : RdnL) : sameB a b = sameB b a := by
  unfold sameB
  exact decide_eq_decide.2 ⟨Eq.symm, Eq.symm⟩
theorem under_two {a b : RdnL} (ha : dnB a = true) (hb : dnB b = true) : sameB a b = (underB a b && underB b a) := by
  unfold underB
  rw [ha, hb]
  by_cases h : a.length = b.length
  · have e1 : a.length - b.length = 0 := by omega
    have e2 : b.length - a.length = 0 := by omega
    rw [e1, e2, List.drop_zero, List.drop_zero, sameB_comm b a]
    have h1 : decide (b.length ≤ a.length) = true := decide_eq_true (by omega)
    have h2 : decide (a.length ≤ b.length) = true := decide_eq_true (by omega)
    rw [h1, h2]
    simp
  · have hs : sameB a b = false := by
      cases hs : sameB a b
      · rfl
      · exact absurd (same_length hs) h
    rw [hs]
    by_cases h1 : b.length ≤ a.length
    · have h2 : decide (a.length ≤ b.length) = false := decide_eq_false (by omega)
      rw [h2]; simp
    · have h2 : decide (b.length ≤ a.length) = false := decide_eq_false h1
      rw [h2]; simp
theorem key_two {a b : RdnL} (ha : dnB a = true) (hb : dnB b = true) : ((dnKeyS a).toList == (dnKeyS b).toList) = sameB a b := by
  have ea : dnKeyS a = keyS a := by unfold dnKeyS; simp [ha]
  have eb : dnKeyS b = keyS b := by unfold dnKeyS; simp [hb]
  rw [ea, eb]
  exact key_same (dnB_rdns ha) (dnB_rdns hb)
end Go.Proofs.Ytjajpdghamecoaa
/- EntrySame: what the program returns. -/
namespace Go.Proofs.Ytjajpdghamecoaa
open Go.RowKit
attribute [local go_sem ↓] Go.wp_at_zero Go.wp_at_succ

/-- two lists as long as each other, alike element by element -/
noncomputable def pairB {α : Type} (eq : α → α → Bool) (a b : List α) : Bool := @decide (a.length = b.length ∧ ∀ i (h : i < a.length) (h' : i < b.length), eq a[i] b[i] = true) (Classical.propDecidable _)
theorem pairB_yes {α : Type} {eq : α → α → Bool} {a b : List α} (hl : a.length = b.length) (h : ∀ i (h : i < a.length) (h' : i < b.length), eq a[i] b[i] = true) : pairB eq a b = true := @decide_eq_true _ (Classical.propDecidable _) ⟨hl, h⟩
theorem pairB_len {α : Type} {eq : α → α → Bool} {a b : List α} (hl : a.length ≠ b.length) : pairB eq a b = false := @decide_eq_false _ (Classical.propDecidable _) (fun h => hl h.1)
theorem pairB_no {α : Type} {eq : α → α → Bool} {a b : List α} {k : Nat} (hk : k < a.length) (hk' : k < b.length) (h : eq a[k] b[k] = false) : pairB eq a b = false :=
  @decide_eq_false _ (Classical.propDecidable _) (fun g => by have := g.2 k hk hk'; rw [h] at this; cases this)
def normEq (x y : ByteArray) : Bool := (normS x).toList == (normS y).toList
noncomputable def attrEq (a b : AttrV) : Bool := (a.1.toList == b.1.toList) && pairB normEq a.2 b.2
set_option maxHeartbeats 1000000 in
theorem sameNorm_any (w0 : World) (a b : ByteArray) (w : World) (ha : a.size ≤ maxLen) (hb : b.size ≤ maxLen) (hB : Below w0.heap.size w0 w) :
    Calls Try.prog 114 #[.string a, .string b] w fun e w' => e = .returned (.bool (normEq a b)) ∧ Below w0.heap.size w0 w' := by
  have HE : Hid (normEq a b = ((normS a).toList == (normS b).toList)) := Lib.hid rfl
  have HN : Hid (∀ (s : ByteArray) W, s.size ≤ maxLen → Below w0.heap.size w0 W → Calls Try.prog 99 #[.string s] W fun e w' => e = .returned (.string (normS s)) ∧ Below w0.heap.size w0 w') :=
    Lib.hid (fun s W hs h => (Norm_any s W hs).mono fun _ _ g => ⟨g.1, h.trans (g.2.mono h.size)⟩)
  go_enter Try.func114, Try.ntmps114
  go_wp2_with (first
    | (go_at_call 99; refine (HN.out _ _ ha hB).mono ?_; rintro e w1 ⟨rfl, hb1⟩; clear hB)
    | (go_at_call 99; refine (HN.out _ _ hb hb1).mono ?_; rintro e w2 ⟨rfl, hb2⟩; clear hb1)
    | (fail "none"))
  go_ret
  exact ⟨ret_bool HE.out.symm, hb2⟩
set_option maxRecDepth 100000 in
set_option maxHeartbeats 1000000 in
theorem eqStr_any (w0 : World) (ao bo : Option Addr) (a b : List ByteArray) (ca cb : Nat) (w : World) (hda : StrsAt w0 ao a) (hdb : StrsAt w0 bo b) (hfa : FitsV a) (hfb : FitsV b) (hB : Below w0.heap.size w0 w) :
    Calls Try.prog 115 #[.slice ao a.length ca, .slice bo b.length cb, .func (.func 114) #[] #[]] w fun e w' => e = .returned (.bool (pairB normEq a b)) ∧ Below w0.heap.size w0 w' := by
  have hla := hfa.1
  have hlb := hfb.1
  have HA := Lib.hid hda; have HB := Lib.hid hdb; have FA := Lib.hid hfa; have FB := Lib.hid hfb; clear hda hdb hfa hfb
  by_cases hl : a.length = b.length
  · have gl : ((a.length : Int) != (b.length : Int)) = false := by simp [hl]
    have HLen := Lib.hid hl
    clear hl
    go_enter Try.func115, Try.ntmps115
    go_wp2
    go_loopw [17] (fun i wr => ∃ k : Nat, k ≤ a.length ∧ i = .int .i64 k ∧ (∀ j (h : j < a.length) (h' : j < b.length), j < k → normEq a[j] b[j] = true) ∧ Below w0.heap.size w0 wr) (fun i _ => a.length - (intOf i).toNat)
    case atStart => exact ⟨0, Nat.zero_le _, rfl, fun j _ _ h => absurd h (Nat.not_lt_zero _), hB⟩
    case round =>
      obtain ⟨k, hk, rfl, hj, hbel⟩ := hrel
      have Hj := Lib.hid hj; clear hj
      by_cases hlt : k < a.length
      · have hlt' : k < b.length := by have := HLen.out; omega
        obtain ⟨p, off, rfl, hp0, hd1⟩ := HA.out.at hlt
        obtain ⟨q, off', rfl, hq0, he1⟩ := HB.out.at hlt'
        have c1 := (hbel.cell (p := ⟨p, off + k, none⟩) hp0).trans hd1
        have c2 := (hbel.cell (p := ⟨q, off' + k, none⟩) hq0).trans he1
        have hz1 := FA.out.max hlt
        have hz2 := FB.out.max hlt'
        have HX : Hid (normEq a[k] b[k] = false → pairB normEq a b = false) := Lib.hid (fun h => pairB_no hlt hlt' h)
        have HN : Hid (normEq a[k] b[k] = true → ∀ j (h : j < a.length) (h' : j < b.length), j < k + 1 → normEq a[j] b[j] = true) := Lib.hid (fun hn j h h' hjk => by
          by_cases e : j = k
          · subst e; exact hn
          · exact Hj.out j h h' (by omega))
        have g1 : (0 : Int) ≤ (k : Int) := by omega
        have g2 : (k : Int) < (a.length : Int) := by omega
        have g3 : (k : Int) < (b.length : Int) := by omega
        clear hd1 he1
        generalize a[k] = X at *
        generalize b[k] = Y at *
        cases hn : normEq X Y
        · have HX' := Lib.hid (HX.out hn)
          go_wp2_with (first | (go_at_call 114; refine (sameNorm_any w0 X Y _ hz1 hz2 hbel).mono ?_; rw [hn]; rintro e w1 ⟨rfl, hb1⟩) | (fail "none"))
          go_ret
          exact ⟨ret_bool HX'.out.symm, hb1⟩
        · have HN' := Lib.hid (HN.out hn)
          go_wp2_with (first | (go_at_call 114; refine (sameNorm_any w0 X Y _ hz1 hz2 hbel).mono ?_; rw [hn]; rintro e w1 ⟨rfl, hb1⟩) | (fail "none"))
          go_roundw
          case rel => exact ⟨k + 1, by omega, by go_num, HN'.out, hb1⟩
          case measure => simp [intOf]; omega
      · have HT := Lib.hid (pairB_yes (eq := normEq) HLen.out (fun j h h' => Hj.out j h h' (by omega)))
        go_wp2
        go_ret
        exact ⟨ret_bool HT.out.symm, hbel⟩
  · have HX := Lib.hid (pairB_len (eq := normEq) hl)
    have gl : ((a.length : Int) != (b.length : Int)) = true := by simp; omega
    go_enter Try.func115, Try.ntmps115
    go_wp2
    go_ret
    exact ⟨ret_bool HX.out.symm, hB⟩
set_option maxRecDepth 100000 in
set_option maxHeartbeats 1000000 in
theorem sameAttr_any (w0 : World) (A B : ByteArray) (vo uo : Option Addr) (V U : List ByteArray) (vc uc : Nat) (w : World) (hv : StrsAt w0 vo V) (hu : StrsAt w0 uo U) (hfv : FitsV V) (hfu : FitsV U) (hB : Below w0.heap.size w0 w) :
    Calls Try.prog 79 #[.agg #[.string A, .slice vo V.length vc], .agg #[.string B, .slice uo U.length uc]] w fun e w' => e = .returned (.bool (attrEq (A, V) (B, U))) ∧ Below w0.heap.size w0 w' := by
  have HV := Lib.hid hv; have HU := Lib.hid hu; have FV := Lib.hid hfv; have FU := Lib.hid hfu; have HB := Lib.hid hB; clear hv hu hfv hfu hB
  have HE : Hid (attrEq (A, V) (B, U) = ((A.toList == B.toList) && pairB normEq V U)) := Lib.hid rfl
  have B0 := Lib.hid (more (more HB.out (.cells #[.string A, .slice vo V.length vc] 81)) (.cells #[.string B, .slice uo U.length uc] 81))
  cases hn : (A.toList == B.toList)
  · rw [hn] at HE
    go_enter Try.func79, Try.ntmps79
    go_wp2
    go_ret
    exact ⟨ret_bool (by rw [HE.out]; rfl), B0.out⟩
  · rw [hn] at HE
    go_enter Try.func79, Try.ntmps79
    go_wp2_with fail
    refine (eqStr_any w0 vo uo V U vc uc _ HV.out HU.out FV.out FU.out B0.out).mono ?_
    rintro e w1 ⟨rfl, hb1⟩
    generalize pairB normEq V U = r at *
    go_wp2
    go_ret
    exact ⟨ret_bool (by rw [HE.out]; rfl), hb1⟩
set_option maxRecDepth 100000 in
set_option maxHeartbeats 1000000 in
theorem eqAttrs_any (ao bo : Option Addr) (a b : List AttrV) (ca cb : Nat) (w : World) (hda : AttrsAt w ao a) (hdb : AttrsAt w bo b) (hfa : FitsA a) (hfb : FitsA b) :
    Calls Try.prog 78 #[.slice ao a.length ca, .slice bo b.length cb, .func (.func 79) #[] #[]] w fun e w' => e = .returned (.bool (pairB attrEq a b)) ∧ Below w.heap.size w w' := by
  have hla := hfa.1
  have hlb := hfb.1
  have HA := Lib.hid hda; have HB := Lib.hid hdb; have FA := Lib.hid hfa; have FB := Lib.hid hfb; clear hda hdb hfa hfb
  by_cases hl : a.length = b.length
  · have gl : ((a.length : Int) != (b.length : Int)) = false := by simp [hl]
    have HLen := Lib.hid hl
    clear hl
    go_enter Try.func78, Try.ntmps78
    go_wp2
    go_loopw [17] (fun i wr => ∃ k : Nat, k ≤ a.length ∧ i = .int .i64 k ∧ (∀ j (h : j < a.length) (h' : j < b.length), j < k → attrEq a[j] b[j] = true) ∧ Below w.heap.size w wr) (fun i _ => a.length - (intOf i).toNat)
    case atStart => exact ⟨0, Nat.zero_le _, rfl, fun j _ _ h => absurd h (Nat.not_lt_zero _), Below.refl _ _⟩
    case round =>
      obtain ⟨k, hk, rfl, hj, hbel⟩ := hrel
      have Hj := Lib.hid hj; clear hj
      by_cases hlt : k < a.length
      · have hlt' : k < b.length := by have := HLen.out; omega
        obtain ⟨p, off, vo, vc, rfl, hp0, hd1, hd2, hv⟩ := HA.out.at hlt
        obtain ⟨q, off', uo, uc, rfl, hq0, he1, he2, hu⟩ := HB.out.at hlt'
        have hp1 : p < wr.heap.size := Nat.lt_of_lt_of_le hp0 hbel.size
        have hq1 : q < wr.heap.size := Nat.lt_of_lt_of_le hq0 hbel.size
        have c1 := (hbel.cell (p := ⟨p, off + k * 2, none⟩) hp0).trans hd1
        have c2 := (hbel.cell (p := ⟨p, off + k * 2 + 1, none⟩) hp0).trans hd2
        have c3 := (hbel.cell (p := ⟨q, off' + k * 2, none⟩) hq0).trans he1
        have c4 := (hbel.cell (p := ⟨q, off' + k * 2 + 1, none⟩) hq0).trans he2
        have HV := Lib.hid hv.1; have HU := Lib.hid hu.1; clear hv hu
        have F1 := Lib.hid (FA.out.at hlt).2; have F2 := Lib.hid (FB.out.at hlt').2
        have HX : Hid (attrEq (a[k].1, a[k].2) (b[k].1, b[k].2) = false → pairB attrEq a b = false) := Lib.hid (fun h => pairB_no hlt hlt' h)
        have HN : Hid (attrEq (a[k].1, a[k].2) (b[k].1, b[k].2) = true → ∀ j (h : j < a.length) (h' : j < b.length), j < k + 1 → attrEq a[j] b[j] = true) := Lib.hid (fun hn j h h' hjk => by
          by_cases e : j = k
          · subst e; exact hn
          · exact Hj.out j h h' (by omega))
        have g1 : (0 : Int) ≤ (k : Int) := by omega
        have g2 : (k : Int) < (a.length : Int) := by omega
        have g3 : (k : Int) < (b.length : Int) := by omega
        clear hd1 he1 hd2 he2
        generalize a[k].1 = A at *
        generalize a[k].2 = V at *
        generalize b[k].1 = C at *
        generalize b[k].2 = U at *
        have hb2 := Lib.hid (more (more hbel (.cells #[.string A, .slice vo V.length vc] 81)) (.cells #[.string C, .slice uo U.length uc] 81))
        cases hn : attrEq (A, V) (C, U)
        · have HX' := Lib.hid (HX.out hn)
          go_wp2_with (first | (go_at_call 79; refine (sameAttr_any w A C vo uo V U vc uc _ HV.out HU.out F1.out F2.out hb2.out).mono ?_; rw [hn]; rintro e w1 ⟨rfl, hb1⟩) | (fail "none"))
          go_ret
          exact ⟨ret_bool HX'.out.symm, hb1⟩
        · have HN' := Lib.hid (HN.out hn)
          go_wp2_with (first | (go_at_call 79; refine (sameAttr_any w A C vo uo V U vc uc _ HV.out HU.out F1.out F2.out hb2.out).mono ?_; rw [hn]; rintro e w1 ⟨rfl, hb1⟩) | (fail "none"))
          go_roundw
          case rel => exact ⟨k + 1, by omega, by go_num, HN'.out, hb1⟩
          case measure => simp [intOf]; omega
      · have HT := Lib.hid (pairB_yes (eq := attrEq) HLen.out (fun j h h' => Hj.out j h h' (by omega)))
        go_wp2
        go_ret
        exact ⟨ret_bool HT.out.symm, hbel⟩
  · have HX := Lib.hid (pairB_len (eq := attrEq) hl)
    have gl : ((a.length : Int) != (b.length : Int)) = true := by simp; omega
    go_enter Try.func78, Try.ntmps78
    go_wp2
    go_ret
    exact ⟨ret_bool HX.out.symm, Below.refl _ _⟩
end Go.Proofs.Ytjajpdghamecoaa
/- The helpers of the laws over entries: sizes. -/
namespace Go.Proofs.Ytjajpdghamecoaa
open Go.RowKit
attribute [local go_sem ↓] Go.wp_at_zero Go.wp_at_succ

set_option maxRecDepth 100000 in
set_option maxHeartbeats 1000000 in
theorem szStringS_any (ao : Option Addr) (d : List ByteArray) (cap : Nat) (left : Int) (w : World) (hd : StrsAt w ao d) (hf : LongV d) (h0 : 0 ≤ left) (h1 : left ≤ 1048576) :
    Calls Try.prog 129 #[.slice ao d.length cap, .int .i64 left] w fun e w' => e = .returned (.int .i64 (leftR (d.length + sizeV d) left)) ∧ Below w.heap.size w w' := by
  have hl := hf.1
  have HD := Lib.hid hd; have HF := Lib.hid hf; clear hd hf
  by_cases g : (d.length : Int) ≤ left
  · have c1 : ¬ left - (d.length : Int) < 0 := by omega
    go_enter Try.func129, Try.ntmps129
    go_wp2
    go_loopw [1, 5] (fun t i wr => ∃ k : Nat, k ≤ d.length ∧ i = .int .i64 k ∧ ((d.length + sizeV (d.take k) : Nat) : Int) ≤ left ∧ t = .int .i64 (left - (d.length + sizeV (d.take k) : Nat)) ∧ Below w.heap.size w wr) (fun _ i _ => d.length - (intOf i).toNat)
    case atStart => exact ⟨0, Nat.zero_le _, rfl, by simp [sizeV]; omega, by simp [sizeV], Below.refl _ _⟩
    case round =>
      clear c1
      obtain ⟨k, hk, rfl, hle, rfl, hbel⟩ := hrel
      have hsz := hbel.size
      by_cases hlt : k < d.length
      · obtain ⟨b, off, rfl, hb0, hd1⟩ := HD.out.at hlt
        have hc1 := (hbel.cell (p := ⟨b, off + k, none⟩) hb0).trans hd1
        have hz := HF.out.2 _ (List.getElem_mem hlt)
        unfold maxLen at hz
        have HT := Lib.hid (sizeV_take d k hlt)
        have HTl := Lib.hid (sizeV_le d (k + 1))
        clear hd1
        generalize d[k] = A at *
        generalize hq : d.length + sizeV (d.take k) = q at *
        have Hq := Lib.hid hq; clear hq
        by_cases hfit : ((A.size : Nat) : Int) ≤ left - (q : Int)
        · have c2 : ¬ left - (q : Int) - (A.size : Int) < 0 := by omega
          go_wp2
          go_roundw
          case rel =>
            have e := HT.out
            have e3 := Hq.out
            exact ⟨k + 1, by omega, by go_num, by omega, by rw [e]; congr 1; omega, hbel⟩
          case measure => simp [intOf]; omega
        · have c2 : left - (q : Int) - (A.size : Int) < 0 := by omega
          have HR : Hid (leftR (d.length + sizeV d) left = -1) := Lib.hid (leftR_neg (by
            have := HT.out; have := HTl.out; have := Hq.out; omega))
          go_wp2
          go_ret
          exact ⟨ret_int' (by rw [HR.out]), hbel⟩
      · have HR : Hid (leftR (d.length + sizeV d) left = left - (d.length + sizeV (d.take k) : Nat)) := Lib.hid (by
          rw [List.take_of_length_le (by omega)] at hle ⊢
          exact leftR_pos hle)
        go_wp2
        go_ret
        exact ⟨ret_int' (by rw [HR.out]), hbel⟩
  · have HR : Hid (leftR (d.length + sizeV d) left = -1) := Lib.hid (leftR_neg (by omega))
    have c1 : left - (d.length : Int) < 0 := by omega
    go_enter Try.func129, Try.ntmps129
    go_wp2
    go_ret
    exact ⟨ret_int' (by rw [HR.out]), Below.refl _ _⟩
set_option maxHeartbeats 400000 in
theorem szAttr_any (A : ByteArray) (vo : Option Addr) (l : List ByteArray) (vc : Nat) (left : Int) (w : World) (hA : A.size ≤ maxLen) (hd : StrsAt w vo l) (hf : LongV l) (h0 : 0 ≤ left) (h1 : left ≤ 1048576) :
    Calls Try.prog 101 #[.agg #[.string A, .slice vo l.length vc], .int .i64 left] w fun e w' => e = .returned (.int .i64 (leftR (sizeA (A, l)) left)) ∧ Below w.heap.size w w' := by
  unfold maxLen at hA
  have HD := Lib.hid hd; have HF := Lib.hid hf; clear hd hf
  have HE : Hid (sizeA (A, l) = A.size + (l.length + sizeV l)) := Lib.hid rfl
  by_cases g1 : (A.size : Int) ≤ left
  · have c1 : ¬ left - (A.size : Int) < 0 := by omega
    go_enter Try.func101, Try.ntmps101
    go_wp2_with fail
    refine (szStringS_any vo l vc (left - (A.size : Int)) _ (HD.out.below ((Below.refl _ _).alloc (Nat.le_refl _) _)) HF.out (by omega) (by omega)).mono ?_
    rintro e w2 ⟨rfl, hb2⟩
    have B2 := Lib.hid (((Below.refl _ w).alloc (Nat.le_refl _) _).trans (hb2.mono (by simp))); clear hb2
    by_cases hfit : ((l.length + sizeV l : Nat) : Int) ≤ left - (A.size : Int)
    · rw [leftR_pos hfit]
      have HR : Hid (leftR (sizeA (A, l)) left = left - (A.size : Int) - ((l.length + sizeV l : Nat) : Int)) := Lib.hid (by rw [leftR_pos (by rw [HE.out]; omega), HE.out]; omega)
      generalize l.length + sizeV l = r at *
      have c2 : ¬ left - (A.size : Int) - (r : Int) < 0 := by omega
      go_wp2
      go_ret
      exact ⟨ret_int' (by rw [HR.out]), B2.out⟩
    · rw [leftR_neg hfit]
      have HR : Hid (leftR (sizeA (A, l)) left = -1) := Lib.hid (leftR_neg (by rw [HE.out]; omega))
      go_wp2
      go_ret
      exact ⟨ret_int' (by rw [HR.out]), B2.out⟩
  · have HR : Hid (leftR (sizeA (A, l)) left = -1) := Lib.hid (leftR_neg (by rw [HE.out]; omega))
    have c1 : left - (A.size : Int) < 0 := by omega
    go_enter Try.func101, Try.ntmps101
    go_wp2
    go_ret
    exact ⟨ret_int' (by rw [HR.out]), (Below.refl _ _).alloc (Nat.le_refl _) _⟩
set_option maxRecDepth 100000 in
set_option maxHeartbeats 1000000 in
theorem szAttrS_any (ao : Option Addr) (d : List AttrV) (cap : Nat) (left : Int) (w : World) (hd : AttrsAt w ao d) (hf : LongA d) (h0 : 0 ≤ left) (h1 : left ≤ 1048576) :
    Calls Try.prog 62 #[.slice ao d.length cap, .int .i64 left] w fun e w' => e = .returned (.int .i64 (leftR (d.length + sizeAs d) left)) ∧ Below w.heap.size w w' := by
  have hl := hf.1
  have HD := Lib.hid hd; have HF := Lib.hid hf; clear hd hf
  by_cases g : (d.length : Int) ≤ left
  · have c1 : ¬ left - (d.length : Int) < 0 := by omega
    go_enter Try.func62, Try.ntmps62
    go_wp2
    go_loopw [1, 5] (fun t i wr => ∃ k : Nat, k ≤ d.length ∧ i = .int .i64 k ∧ ((d.length + sizeAs (d.take k) : Nat) : Int) ≤ left ∧ t = .int .i64 (left - (d.length + sizeAs (d.take k) : Nat)) ∧ Below w.heap.size w wr) (fun _ i _ => d.length - (intOf i).toNat)
    case atStart => exact ⟨0, Nat.zero_le _, rfl, by simp [sizeAs]; omega, by simp [sizeAs], Below.refl _ _⟩
    case round =>
      clear c1
      obtain ⟨k, hk, rfl, hle, rfl, hbel⟩ := hrel
      have hsz := hbel.size
      by_cases hlt : k < d.length
      · obtain ⟨b, off, vo, vc, rfl, hb0, hc1, hc2, hv⟩ := (HD.out.below hbel).at hlt
        have HV := Lib.hid hv; clear hv
        have hz := HF.out.2 _ (List.getElem_mem hlt)
        have HZ := Lib.hid hz; clear hz
        have HT := Lib.hid (sizeAs_take d k hlt)
        have HTl := Lib.hid (sizeAs_le d (k + 1))
        have HE : Hid (sizeA d[k] = sizeA (d[k].1, d[k].2)) := Lib.hid rfl
        generalize d[k].1 = A at *
        generalize d[k].2 = V at *
        generalize hq : d.length + sizeAs (d.take k) = q at *
        have Hq := Lib.hid hq; clear hq
        go_wp2_with fail
        refine (szAttr_any A vo V vc (left - (q : Int)) wr HZ.out.1 HV.out.1 HZ.out.2 (by omega) (by omega)).mono ?_
        rintro e w2 ⟨rfl, hb2⟩
        have B2 := Lib.hid (hbel.trans (hb2.mono hsz)); clear hb2
        by_cases hfit : ((sizeA (A, V) : Nat) : Int) ≤ left - (q : Int)
        · rw [leftR_pos hfit]
          generalize hr : sizeA (A, V) = r at *
          have Hr := Lib.hid hr; clear hr
          have c2 : ¬ left - (q : Int) - (r : Int) < 0 := by omega
          go_wp2
          go_roundw
          case rel =>
            have e := HT.out
            have e2 := HE.out
            have e3 := Hq.out
            have e4 := Hr.out
            exact ⟨k + 1, by omega, by go_num, by omega, by rw [e]; congr 1; omega, B2.out⟩
          case measure => simp [intOf]; omega
        · rw [leftR_neg hfit]
          have HR : Hid (leftR (d.length + sizeAs d) left = -1) := Lib.hid (leftR_neg (by
            have := HT.out; have := HTl.out; have := HE.out; have := Hq.out; omega))
          go_wp2
          go_ret
          exact ⟨ret_int' (by rw [HR.out]), B2.out⟩
      · have HR : Hid (leftR (d.length + sizeAs d) left = left - (d.length + sizeAs (d.take k) : Nat)) := Lib.hid (by
          rw [List.take_of_length_le (by omega)] at hle ⊢
          exact leftR_pos hle)
        go_wp2
        go_ret
        exact ⟨ret_int' (by rw [HR.out]), hbel⟩
  · have HR : Hid (leftR (d.length + sizeAs d) left = -1) := Lib.hid (leftR_neg (by omega))
    have c1 : left - (d.length : Int) < 0 := by omega
    go_enter Try.func62, Try.ntmps62
    go_wp2
    go_ret
    exact ⟨ret_int' (by rw [HR.out]), Below.refl _ _⟩
def sizeE (d : RdnL) (l : List AttrV) : Nat := d.length + sizeS d + (l.length + sizeAs l)
set_option maxHeartbeats 400000 in
theorem szEntry_any (ao bo : Option Addr) (d : RdnL) (l : List AttrV) (ca cb : Nat) (left : Int) (w : World) (hd : DnAt w ao d) (hl : AttrsAt w bo l) (hfd : Long d) (hfl : LongA l) (h0 : 0 ≤ left) (h1 : left ≤ 1048576) :
    Calls Try.prog 27 #[.agg #[.slice ao d.length ca, .slice bo l.length cb], .int .i64 left] w fun e w' => e = .returned (.int .i64 (leftR (sizeE d l) left)) ∧ Below w.heap.size w w' := by
  have HD := Lib.hid hd; have HF := Lib.hid hfd; have HL := Lib.hid hl; have HG := Lib.hid hfl; clear hd hfd hl hfl
  have HE : Hid (sizeE d l = d.length + sizeS d + (l.length + sizeAs l)) := Lib.hid rfl
  have hb0 : Below w.heap.size w (w.alloc (.cells #[.slice ao d.length ca, .slice bo l.length cb] 38)) := (Below.refl _ _).alloc (Nat.le_refl _) _
  have B0 := Lib.hid hb0; clear hb0
  go_enter Try.func27, Try.ntmps27
  go_wp2_with fail
  refine (szRdnS_any ao d ca left _ (HD.out.below B0.out) HF.out h0 h1).mono ?_
  rintro e w1 ⟨rfl, hb1⟩
  have B1 := Lib.hid (B0.out.trans (hb1.mono B0.out.size))
  have c0 : w1.cell? ⟨w.heap.size, 1, none⟩ = some (.slice bo l.length cb) := (hb1.cell (p := ⟨w.heap.size, 1, none⟩) (by simp)).trans (by unfold World.cell?; rw [heap_alloc_new]; rfl)
  clear hb1
  by_cases g1 : ((d.length + sizeS d : Nat) : Int) ≤ left
  · rw [leftR_pos g1]
    generalize hq : d.length + sizeS d = q at *
    have Hq := Lib.hid hq; clear hq
    have c1 : ¬ left - (q : Int) < 0 := by omega
    go_wp2_with fail
    refine (szAttrS_any bo l cb (left - (q : Int)) w1 (HL.out.below B1.out) HG.out (by omega) (by omega)).mono ?_
    rintro e w2 ⟨rfl, hb2⟩
    have B2 := Lib.hid (B1.out.trans (hb2.mono B1.out.size)); clear hb2
    by_cases g2 : ((l.length + sizeAs l : Nat) : Int) ≤ left - (q : Int)
    · rw [leftR_pos g2]
      have HR : Hid (leftR (sizeE d l) left = left - (q : Int) - ((l.length + sizeAs l : Nat) : Int)) := Lib.hid (by rw [leftR_pos (by rw [HE.out]; omega), HE.out]; omega)
      generalize l.length + sizeAs l = r at *
      have c2 : ¬ left - (q : Int) - (r : Int) < 0 := by omega
      go_wp2
      go_ret
      exact ⟨ret_int' (by rw [HR.out]), B2.out⟩
    · rw [leftR_neg g2]
      have HR : Hid (leftR (sizeE d l) left = -1) := Lib.hid (leftR_neg (by rw [HE.out]; omega))
      go_wp2
      go_ret
      exact ⟨ret_int' (by rw [HR.out]), B2.out⟩
  · rw [leftR_neg g1]
    have HR : Hid (leftR (sizeE d l) left = -1) := Lib.hid (leftR_neg (by rw [HE.out]; omega))
    go_wp2
    go_ret
    exact ⟨ret_int' (by rw [HR.out]), B1.out⟩
end Go.Proofs.Ytjajpdghamecoaa
/- The helpers of the laws over entries: copies. -/
namespace Go.Proofs.Ytjajpdghamecoaa
open Go.RowKit
attribute [local go_sem ↓] Go.wp_at_zero Go.wp_at_succ

theorem Try.info81 : (Try.prog.info? 81).map (fun i => (i.zero, i.size, i.bytes)) = some (some (.agg #[.string ByteArray.empty, .slice none 0 0]), 2, 40) := by kernel_rfl
theorem make47 (n : Nat) (hn : n ≤ 1048576) (W : World) : ∃ C : Array Value, C.size = n ∧
    (Instr.makeSlice 47 (.int .i64 (n : Int)) (.int .i64 (n : Int))).run Try.prog W = .ok (.slice (some ⟨W.heap.size, 0, none⟩) n n) (W.alloc (.cells C 9)) := by
  obtain ⟨i0, hi, hz0, hz1, hz2⟩ := info_parts Try.info9
  have := run_make (P := Try.prog) W 47 9 i0 _ Try.underlying47 hi hz0 .i64 .i64 (n : Int) (n : Int) (by omega) (by omega) (by rw [hz2]; omega) (by omega)
  rw [hz1] at this
  refine ⟨madeCells (Value.string ByteArray.empty).cells (n * 1), by rw [size_madeCells]; omega, ?_⟩
  simpa using this
theorem make41 (n : Nat) (hn : n ≤ 1048576) (W : World) : ∃ C : Array Value, C.size = n * 2 ∧
    (Instr.makeSlice 41 (.int .i64 (n : Int)) (.int .i64 (n : Int))).run Try.prog W = .ok (.slice (some ⟨W.heap.size, 0, none⟩) n n) (W.alloc (.cells C 81)) := by
  obtain ⟨i0, hi, hz0, hz1, hz2⟩ := info_parts Try.info81
  have := run_make (P := Try.prog) W 41 81 i0 _ Try.underlying41 hi hz0 .i64 .i64 (n : Int) (n : Int) (by omega) (by omega) (by rw [hz2]; omega) (by omega)
  rw [hz1] at this
  refine ⟨madeCells (Value.agg #[.string ByteArray.empty, .slice none 0 0]).cells (n * 2), size_madeCells _ _, ?_⟩
  simpa using this
/-- a block of texts, the first of them known -/
def RowS (w : World) (g n : Nat) (l : List ByteArray) : Prop := ∃ C : Array Value, w.heap[g]? = some (.cells C 9 (0, 0)) ∧ C.size = n ∧ ∀ i (h : i < l.length), C[i]? = some (.string l[i])
theorem RowS.at {w : World} {g n k : Nat} {l : List ByteArray} (h : RowS w g n l) (hk : k < n) : (∃ x, w.cell? ⟨g, k, none⟩ = some x) ∧ w.frozen? ⟨g, k, none⟩ = false := by
  obtain ⟨C, h1, h2, _⟩ := h
  refine ⟨⟨C[k]'(by omega), ?_⟩, ?_⟩
  · rw [cell_of_row w g _ C 9 (0, 0) h1]; exact Array.getElem?_eq_getElem (by omega)
  · simp [World.frozen?, h1]
theorem RowS.set {w : World} {g n k : Nat} {l : List ByteArray} (h : RowS w g n l) (hl : l.length = k) (hk : k < n) (s : ByteArray) : RowS (w.setCell ⟨g, k, none⟩ (.string s)) g n (l ++ [s]) := by
  obtain ⟨C, h1, h2, h3⟩ := h
  refine ⟨_, heap_set _ h1, by simp [h2], fun i hi => ?_⟩
  rw [Array.getElem?_setIfInBounds]
  by_cases e : k = i
  · subst e
    rw [if_pos rfl, if_pos (by omega), List.getElem_append_right (by omega)]
    simp
  · have hi' : i < l.length := by simp at hi; omega
    rw [if_neg e, List.getElem_append_left hi']
    exact h3 i hi'
theorem RowS.strs {w : World} {g n : Nat} {l : List ByteArray} (h : RowS w g n l) : StrsAt w (some ⟨g, 0, none⟩) l := by
  obtain ⟨C, h1, h2, h3⟩ := h
  refine .inr ⟨g, 0, rfl, (Array.getElem?_eq_some_iff.1 h1).1, fun i hi => ?_⟩
  rw [cell_of_row w g _ C 9 (0, 0) h1, Nat.zero_add]
  exact h3 i hi
/-- a copy of texts, in a new block -/
def CopyV (w : World) (l : List ByteArray) (v : Value) (w' : World) : Prop := ∃ g, v = .slice (some ⟨g, 0, none⟩) l.length l.length ∧ w.heap.size ≤ g ∧ g < w'.heap.size ∧ StrsAt w' (some ⟨g, 0, none⟩) l ∧ Below w.heap.size w w'
set_option maxRecDepth 100000 in
set_option maxHeartbeats 1000000 in
theorem toStringS_any (ao : Option Addr) (d : List ByteArray) (cap : Nat) (w : World) (hd : StrsAt w ao d) (hl : d.length ≤ 1048576) :
    Calls Try.prog 130 #[.slice ao d.length cap] w fun e w' => ∃ v, e = .returned v ∧ CopyV w d v w' := by
  have HD := Lib.hid hd; clear hd
  obtain ⟨C, hC, hmk⟩ := make47 d.length hl w
  have HC := Lib.hid hC; clear hC
  go_enter Try.func130, Try.ntmps130
  go_wp2
  clear hmk
  go_loopw [4] (fun i wr => ∃ k : Nat, k ≤ d.length ∧ i = .int .i64 k ∧ RowS wr w.heap.size d.length (d.take k) ∧ Below w.heap.size w wr) (fun i _ => d.length - (intOf i).toNat)
  case atStart => exact ⟨0, Nat.zero_le _, rfl, ⟨C, heap_alloc_new w _, HC.out, fun i h => by simp at h⟩, (Below.refl _ _).alloc (Nat.le_refl _) _⟩
  case round =>
    obtain ⟨k, hk, rfl, hR, hbel⟩ := hrel
    have HR := Lib.hid hR; clear hR
    have hsz := hbel.size
    by_cases hlt : k < d.length
    · obtain ⟨b, off, rfl, hb0, hd1⟩ := HD.out.at hlt
      have hc1 := (hbel.cell (p := ⟨b, off + k, none⟩) hb0).trans hd1
      have HT : Hid (d.take (k + 1) = d.take k ++ [d[k]]) := Lib.hid (List.take_succ_eq_append_getElem hlt)
      have HK : Hid ((d.take k).length = k) := Lib.hid (by rw [List.length_take]; omega)
      clear hd1
      generalize d[k] = A at *
      obtain ⟨⟨x, c0⟩, f0⟩ := HR.out.at hlt
      go_wp2
      go_roundw
      case rel => exact ⟨k + 1, by omega, by go_num, by rw [HT.out]; exact HR.out.set HK.out hlt A, hbel.setCell (Nat.le_refl _) _⟩
      case measure => simp [intOf]; omega
    · have e : d.take k = d := List.take_of_length_le (by omega)
      rw [e] at HR
      clear e
      go_wp2
      go_ret
      exact ⟨_, rfl, w.heap.size, rfl, Nat.le_refl _, (by obtain ⟨C, h1, _⟩ := HR.out; exact (Array.getElem?_eq_some_iff.1 h1).1), HR.out.strs, hbel⟩
theorem StrsAt.set {w : World} {b off R j : Nat} {l : List ByteArray} (h : StrsAt w (some ⟨b, off, none⟩) l) (hne : b ≠ R) (v : Value) : StrsAt (w.setCell ⟨R, j, none⟩ v) (some ⟨b, off, none⟩) l := by
  rcases h with h | ⟨b', off', h1, h2, h3⟩
  · exact .inl h
  · cases h1
    refine .inr ⟨b, off, rfl, by simpa [World.setCell] using h2, fun i hi => ?_⟩
    have e : (w.setCell ⟨R, j, none⟩ v).heap[b]? = w.heap[b]? := Below.heap_setCell _ _ _ _ hne
    have := h3 i hi
    unfold World.cell? at this ⊢
    rw [e]; exact this
theorem calls_any' {P : Program} {f : Nat} {args : Array Value} {w : World} {Q : Ending → World → Prop} (R : World → Prop) (h : R w) (k : ∀ W, R W → Calls P f args W Q) : Calls P f args w Q := k w h
/-- two cells of a block -/
def Two (w : World) (g : Nat) (T : TypeId) (a b : Value) : Prop := w.heap[g]? = some (.cells #[a, b] T (0, 0))
theorem Two.cells {w : World} {g : Nat} {T : TypeId} {a b : Value} (h : Two w g T a b) : (w.cell? ⟨g, 0, none⟩ = some a ∧ w.cell? ⟨g, 1, none⟩ = some b) ∧ (w.frozen? ⟨g, 0, none⟩ = false ∧ w.frozen? ⟨g, 1, none⟩ = false) := by
  unfold Two at h
  refine ⟨⟨?_, ?_⟩, ?_, ?_⟩
  · rw [cell_of_row w g _ _ T (0, 0) h]; rfl
  · rw [cell_of_row w g _ _ T (0, 0) h]; rfl
  · simp [World.frozen?, h]
  · simp [World.frozen?, h]
theorem Two.lt {w : World} {g : Nat} {T : TypeId} {a b : Value} (h : Two w g T a b) : g < w.heap.size := (Array.getElem?_eq_some_iff.1 h).1
theorem Two.below {w w' : World} {g : Nat} {T : TypeId} {a b : Value} (h : Two w g T a b) (hb : Below w.heap.size w w') : Two w' g T a b := (hb.block g h.lt).trans h
theorem Two.set0 {w : World} {g : Nat} {T : TypeId} {a b : Value} (h : Two w g T a b) (v : Value) : Two (w.setCell ⟨g, 0, none⟩ v) g T v b := heap_set v h
theorem Two.set1 {w : World} {g : Nat} {T : TypeId} {a b : Value} (h : Two w g T a b) (v : Value) : Two (w.setCell ⟨g, 1, none⟩ v) g T a v := heap_set v h
theorem Two.far {w : World} {g R j : Nat} {T : TypeId} {a b : Value} (h : Two w g T a b) (hne : g ≠ R) (v : Value) : Two (w.setCell ⟨R, j, none⟩ v) g T a b := (Below.heap_setCell _ _ _ _ hne).trans h
theorem twoNew (w : World) (T : TypeId) (a b : Value) : Two (w.alloc (.cells #[a, b] T)) w.heap.size T a b := heap_alloc_new w _
theorem Two.alloc {w : World} {g : Nat} {T : TypeId} {a b : Value} (h : Two w g T a b) (o : Obj) : Two (w.alloc o) g T a b := (heap_alloc_old w o h.lt).trans h
theorem CopyV.low {w w0 w' : World} {l : List ByteArray} {v : Value} (h : CopyV w l v w') (hb : Below w0.heap.size w0 w) : CopyV w0 l v w' := by
  obtain ⟨g, h1, h2, h3, h4, h5⟩ := h
  exact ⟨g, h1, Nat.le_trans hb.size h2, h3, h4, hb.trans (h5.mono hb.size)⟩
set_option maxRecDepth 100000 in
set_option maxHeartbeats 1000000 in
theorem toAttr_any (A : ByteArray) (vo : Option Addr) (l : List ByteArray) (vc : Nat) (w : World) (hd : StrsAt w vo l) (hl : l.length ≤ 1048576) :
    Calls Try.prog 104 #[.agg #[.string A, .slice vo l.length vc]] w fun e w' => ∃ v, e = .returned (.agg #[.string A, v]) ∧ CopyV w l v w' := by
  have HD := Lib.hid hd; clear hd
  go_enter Try.func104, Try.ntmps104
  go_wp2_with fail
  refine calls_any' (fun W => Below w.heap.size w W ∧ StrsAt W vo l ∧ Two W (w.heap.size + 1) 81 (.string ⟨#[]⟩) (.slice none 0 0) ∧ Two W (w.heap.size + 1 + 1) 81 (.string A) (.slice none 0 0)) ⟨more (more (more (Below.refl _ _) _) _) _, HD.out.below (more (more (more (Below.refl _ _) _) _) _), ?_, ?_⟩ ?_
  · exact Two.alloc (by have := twoNew (w.alloc (Obj.cells #[Value.string A, Value.slice vo l.length vc] 116)) 81 (.string ⟨#[]⟩) (.slice none 0 0); simpa using this) _
  · have := twoNew ((w.alloc (Obj.cells #[Value.string A, Value.slice vo l.length vc] 116)).alloc (Obj.cells #[Value.string ⟨#[]⟩, Value.slice none 0 0] 81)) 81 (.string A) (.slice none 0 0); simpa using this
  rintro W ⟨hbW, hsW, ht1, ht2⟩
  refine (toStringS_any vo l vc W hsW hl).mono ?_
  rintro e w2 ⟨v, rfl, g, rfl, hg1, hg2, hst, hb2⟩
  have T1 := Lib.hid (ht1.below hb2); have T2 := Lib.hid (ht2.below hb2); have ST := Lib.hid hst
  have B2 := Lib.hid (hbW.trans (hb2.mono hbW.size))
  have hn1 : w.heap.size + 1 + 1 < W.heap.size := ht2.lt
  clear ht1 ht2 hst hb2 hsW
  obtain ⟨⟨c0, c1⟩, f0, f1⟩ := T2.out.cells
  obtain ⟨⟨d0, d1⟩, g0, g1⟩ := T1.out.cells
  have TE := ((T1.out.far (R := w.heap.size + 1 + 1) (j := 1) (by omega) (.slice (some ⟨g, 0, none⟩) l.length l.length)).set0 (.string A)).set1 (.slice (some ⟨g, 0, none⟩) l.length l.length)
  obtain ⟨⟨k0, k1⟩, _⟩ := TE.cells
  clear TE
  go_wp2_with fail
  refine bodyPost_ret (v := .agg #[.string A, .slice (some ⟨g, 0, none⟩) l.length l.length]) (by simp [results, Try.results104, go_sem, k0, k1]) rfl ⟨_, rfl, g, rfl, ?_, ?_, ?_, ?_⟩
  · have := hbW.size; omega
  · simpa [World.setCell] using hg2
  · exact ((ST.out.set (by omega) _).set (by omega) _).set (by omega) _
  · exact ((B2.out.setCell (p := ⟨w.heap.size + 1 + 1, 1, none⟩) (by show w.heap.size ≤ w.heap.size + 1 + 1; omega) _).setCell (p := ⟨w.heap.size + 1, 0, none⟩) (by show w.heap.size ≤ w.heap.size + 1; omega) _).setCell (p := ⟨w.heap.size + 1, 1, none⟩) (by show w.heap.size ≤ w.heap.size + 1; omega) _
/-- a block of attributes, the first of them known -/
def RowA (w : World) (g n : Nat) (l : List AttrV) : Prop := ∃ C : Array Value, w.heap[g]? = some (.cells C 81 (0, 0)) ∧ C.size = n * 2 ∧
  ∀ i (h : i < l.length), C[i * 2]? = some (.string l[i].1) ∧ ∃ b, C[i * 2 + 1]? = some (.slice (some ⟨b, 0, none⟩) l[i].2.length l[i].2.length) ∧ g < b ∧ StrsAt w (some ⟨b, 0, none⟩) l[i].2
theorem RowA.lt {w : World} {g n : Nat} {l : List AttrV} (h : RowA w g n l) : g < w.heap.size := by obtain ⟨C, h1, _⟩ := h; exact (Array.getElem?_eq_some_iff.1 h1).1
theorem RowA.below {w w' : World} {g n : Nat} {l : List AttrV} (h : RowA w g n l) (hb : Below w.heap.size w w') : RowA w' g n l := by
  obtain ⟨C, h1, h2, h3⟩ := h
  refine ⟨C, (hb.block g (Array.getElem?_eq_some_iff.1 h1).1).trans h1, h2, fun i hi => ?_⟩
  obtain ⟨p, b, q, r, s⟩ := h3 i hi
  exact ⟨p, b, q, r, s.below hb⟩
theorem RowA.at {w : World} {g n k : Nat} {l : List AttrV} (h : RowA w g n l) (hk : k < n) :
    (∃ x y, w.cell? ⟨g, k * 2, none⟩ = some x ∧ w.cell? ⟨g, k * 2 + 1, none⟩ = some y) ∧ w.frozen? ⟨g, k * 2, none⟩ = false ∧ w.frozen? ⟨g, k * 2 + 1, none⟩ = false := by
  obtain ⟨C, h1, h2, _⟩ := h
  refine ⟨⟨C[k * 2]'(by omega), C[k * 2 + 1]'(by omega), ?_, ?_⟩, ?_, ?_⟩
  · rw [cell_of_row w g _ C 81 (0, 0) h1]; exact Array.getElem?_eq_getElem (by omega)
  · rw [cell_of_row w g _ C 81 (0, 0) h1]; exact Array.getElem?_eq_getElem (by omega)
  · simp [World.frozen?, h1]
  · simp [World.frozen?, h1]
theorem RowA.set {w : World} {g n k b : Nat} {l : List AttrV} {A : ByteArray} {V : List ByteArray} (h : RowA w g n l) (hl : l.length = k) (hk : k < n) (hb : g < b) (hs : StrsAt w (some ⟨b, 0, none⟩) V) :
    RowA ((w.setCell ⟨g, k * 2, none⟩ (.string A)).setCell ⟨g, k * 2 + 1, none⟩ (.slice (some ⟨b, 0, none⟩) V.length V.length)) g n (l ++ [(A, V)]) := by
  obtain ⟨C, h1, h2, h3⟩ := h
  refine ⟨_, heap_set _ (heap_set _ h1), by simp [h2], fun i hi => ?_⟩
  rw [Array.getElem?_setIfInBounds, Array.getElem?_setIfInBounds, Array.getElem?_setIfInBounds, Array.getElem?_setIfInBounds]
  by_cases e : i = k
  · subst e
    have hL : (l ++ [(A, V)])[i] = (A, V) := by rw [List.getElem_append_right (by omega)]; simp
    rw [hL, if_neg (by omega), if_pos rfl, if_pos (by omega), if_pos rfl, if_pos (by simp; omega)]
    exact ⟨rfl, b, rfl, hb, (hs.set (by omega) _).set (by omega) _⟩
  · have hi' : i < l.length := by simp at hi; omega
    rw [List.getElem_append_left hi', if_neg (by omega), if_neg (by omega), if_neg (by omega), if_neg (by omega)]
    obtain ⟨p, b', q, r, s⟩ := h3 i hi'
    exact ⟨p, b', q, r, (s.set (by omega) _).set (by omega) _⟩
theorem RowA.attrs {w : World} {g n : Nat} {l : List AttrV} (h : RowA w g n l) : AttrsAt w (some ⟨g, 0, none⟩) l := by
  obtain ⟨C, h1, h2, h3⟩ := h
  refine .inr ⟨g, 0, rfl, (Array.getElem?_eq_some_iff.1 h1).1, fun i hi => ?_⟩
  obtain ⟨p, b, q, r, s⟩ := h3 i hi
  refine ⟨?_, some ⟨b, 0, none⟩, l[i].2.length, ?_, s, Nat.le_refl _, fun e => by cases e⟩
  · rw [cell_of_row w g _ C 81 (0, 0) h1, Nat.zero_add]; exact p
  · rw [cell_of_row w g _ C 81 (0, 0) h1, Nat.zero_add]; exact q
/-- a copy of attributes, in new blocks -/
def CopyA (w : World) (l : List AttrV) (v : Value) (w' : World) : Prop := ∃ g, v = .slice (some ⟨g, 0, none⟩) l.length l.length ∧ w.heap.size ≤ g ∧ RowA w' g l.length l ∧ Below w.heap.size w w'
set_option maxRecDepth 100000 in
set_option maxHeartbeats 1000000 in
theorem toAttrS_any (ao : Option Addr) (d : List AttrV) (cap : Nat) (w : World) (hd : AttrsAt w ao d) (hf : FitsA d) :
    Calls Try.prog 65 #[.slice ao d.length cap] w fun e w' => ∃ v, e = .returned v ∧ CopyA w d v w' := by
  have hl := hf.1
  have HD := Lib.hid hd; have HF := Lib.hid hf; clear hd hf
  obtain ⟨C, hC, hmk⟩ := make41 d.length hl w
  have HC := Lib.hid hC; clear hC
  go_enter Try.func65, Try.ntmps65
  go_wp2
  clear hmk
  go_loopw [4] (fun i wr => ∃ k : Nat, k ≤ d.length ∧ i = .int .i64 k ∧ RowA wr w.heap.size d.length (d.take k) ∧ Below w.heap.size w wr) (fun i _ => d.length - (intOf i).toNat)
  case atStart => exact ⟨0, Nat.zero_le _, rfl, ⟨C, heap_alloc_new w _, HC.out, fun i h => by simp at h⟩, (Below.refl _ _).alloc (Nat.le_refl _) _⟩
  case round =>
    obtain ⟨k, hk, rfl, hR, hbel⟩ := hrel
    have HR := Lib.hid hR; clear hR
    have hsz := hbel.size
    by_cases hlt : k < d.length
    · obtain ⟨b, off, vo, vc, rfl, hb0, hc1, hc2, hv⟩ := (HD.out.below hbel).at hlt
      have HV := Lib.hid hv.1; clear hv
      have hz := (HF.out.at hlt).2.1
      have HT : Hid (d.take (k + 1) = d.take k ++ [(d[k].1, d[k].2)]) := Lib.hid (List.take_succ_eq_append_getElem hlt)
      have HK : Hid ((d.take k).length = k) := Lib.hid (by rw [List.length_take]; omega)
      have hgw : w.heap.size < wr.heap.size := HR.out.lt
      generalize d[k].1 = A at *
      generalize d[k].2 = V at *
      go_wp2_with fail
      refine (toAttr_any A vo V vc wr HV.out hz).mono ?_
      rintro e w2 ⟨v, rfl, g, rfl, hg1, hg2, hst, hb2⟩
      have HR2 := Lib.hid (HR.out.below hb2)
      have B2 := Lib.hid (hbel.trans (hb2.mono hsz))
      have ST := Lib.hid hst
      clear hb2 hc1 hc2 hst
      obtain ⟨⟨x, y, c0, c1⟩, f0, f1⟩ := HR2.out.at hlt
      go_wp2
      go_roundw
      case rel => exact ⟨k + 1, by omega, by go_num, by rw [HT.out]; exact HR2.out.set HK.out hlt (by omega) ST.out, (B2.out.setCell (Nat.le_refl _) _).setCell (Nat.le_refl _) _⟩
      case measure => simp [intOf]; omega
    · have e : d.take k = d := List.take_of_length_le (by omega)
      rw [e] at HR
      clear e
      go_wp2
      go_ret
      exact ⟨_, rfl, w.heap.size, rfl, Nat.le_refl _, HR.out, hbel⟩
end Go.Proofs.Ytjajpdghamecoaa
/- The helpers of the laws over entries: copies of entries. -/
namespace Go.Proofs.Ytjajpdghamecoaa
open Go.RowKit
attribute [local go_sem ↓] Go.wp_at_zero Go.wp_at_succ

theorem DnAt.set {w : World} {b off R j : Nat} {d : RdnL} (h : DnAt w (some ⟨b, off, none⟩) d) (hne : b ≠ R) (v : Value) : DnAt (w.setCell ⟨R, j, none⟩ v) (some ⟨b, off, none⟩) d := by
  rcases h with h | ⟨b', off', h1, h2, h3⟩
  · exact .inl h
  · cases h1
    refine .inr ⟨b, off, rfl, by simpa [World.setCell] using h2, fun i hi => ?_⟩
    have e : (w.setCell ⟨R, j, none⟩ v).heap[b]? = w.heap[b]? := Below.heap_setCell _ _ _ _ hne
    have := h3 i hi
    unfold World.cell? at this ⊢
    rw [e]; exact this
theorem RowA.far {w : World} {g n R j : Nat} {l : List AttrV} (h : RowA w g n l) (hR : R < g) (v : Value) : RowA (w.setCell ⟨R, j, none⟩ v) g n l := by
  obtain ⟨C, h1, h2, h3⟩ := h
  refine ⟨C, (Below.heap_setCell _ _ _ _ (show g ≠ R by omega)).trans h1, h2, fun i hi => ?_⟩
  obtain ⟨p, b, q, r, s⟩ := h3 i hi
  exact ⟨p, b, q, r, s.set (by omega) _⟩
/-- an entry lies behind two slices -/
def EntAt (w : World) (v : Value) (d : RdnL) (l : List AttrV) : Prop := ∃ ao ca bo cb, v = .agg #[.slice ao d.length ca, .slice bo l.length cb] ∧ DnAt w ao d ∧ AttrsAt w bo l ∧ d.length ≤ ca ∧ l.length ≤ cb
set_option maxRecDepth 100000 in
set_option maxHeartbeats 1000000 in
theorem toEntry_any (ao bo : Option Addr) (d : RdnL) (l : List AttrV) (ca cb : Nat) (w : World) (hd : DnAt w ao d) (hl : AttrsAt w bo l) (hfd : d.length ≤ 1048576) (hfl : FitsA l) :
    Calls Try.prog 29 #[.agg #[.slice ao d.length ca, .slice bo l.length cb]] w fun e w' => ∃ v, e = .returned v ∧ EntAt w' v d l ∧ Below w.heap.size w w' := by
  have HD := Lib.hid hd; have HL := Lib.hid hl; have HF := Lib.hid hfl; clear hd hl hfl
  go_enter Try.func29, Try.ntmps29
  go_wp2_with fail
  refine calls_any' (fun W => Below w.heap.size w W ∧ Two W w.heap.size 38 (.slice ao d.length ca) (.slice bo l.length cb) ∧ Two W (w.heap.size + 1) 43 (.slice none 0 0) (.slice none 0 0) ∧ Two W (w.heap.size + 1 + 1) 43 (.slice none 0 0) (.slice none 0 0)) ⟨more (more (more (Below.refl _ _) _) _) _, ((twoNew w 38 _ _).alloc _).alloc _, ?_, ?_⟩ ?_
  · exact Two.alloc (by have := twoNew (w.alloc (Obj.cells #[.slice ao d.length ca, .slice bo l.length cb] 38)) 43 (.slice none 0 0) (.slice none 0 0); simpa using this) _
  · have := twoNew ((w.alloc (Obj.cells #[.slice ao d.length ca, .slice bo l.length cb] 38)).alloc (Obj.cells #[.slice none 0 0, .slice none 0 0] 43)) 43 (.slice none 0 0) (.slice none 0 0); simpa using this
  rintro W ⟨hbW, ht0, ht1, ht2⟩
  have hn2 : w.heap.size + 1 + 1 < W.heap.size := ht2.lt
  refine (toRdnS_any ao d ca W (HD.out.below hbW) hfd).mono ?_
  rintro e w2 ⟨rfl, ho2, hb2⟩
  have T0 := Lib.hid (ht0.below hb2); have T1 := Lib.hid (ht1.below hb2); have T2 := Lib.hid (ht2.below hb2)
  have X2 := Lib.hid (own_dn ho2)
  have B2 := Lib.hid (hbW.trans (hb2.mono hbW.size))
  have hsz2 := hb2.size
  clear ht0 ht1 ht2 ho2 hb2
  generalize W.heap.size = G at *
  clear hbW
  obtain ⟨⟨p0, p1⟩, _⟩ := T0.out.cells
  obtain ⟨⟨c0, c1⟩, f0, f1⟩ := T2.out.cells
  go_wp2_with fail
  refine calls_any' (fun W => Below w.heap.size w W ∧ DnAt W (some ⟨G, 0, none⟩) d ∧ Two W (w.heap.size + 1) 43 (.slice none 0 0) (.slice none 0 0) ∧ Two W (w.heap.size + 1 + 1) 43 (.slice (some ⟨G, 0, none⟩) d.length d.length) (.slice none 0 0)) ⟨B2.out.setCell (p := ⟨w.heap.size + 1 + 1, 0, none⟩) (by show w.heap.size ≤ w.heap.size + 1 + 1; omega) _, X2.out.set (by omega) _, T1.out.far (by omega) _, T2.out.set0 _⟩ ?_
  clear T0 T1 T2 X2 B2 p0 p1 c0 c1 f0 f1 hsz2
  rintro V ⟨hbV, hxV, ht1, ht2⟩
  have hnV : w.heap.size + 1 + 1 < V.heap.size := ht2.lt
  refine (toAttrS_any bo l cb V (HL.out.below hbV) HF.out).mono ?_
  rintro e w3 ⟨v, rfl, g, rfl, hg1, hra, hb3⟩
  have T1 := Lib.hid (ht1.below hb3); have T2 := Lib.hid (ht2.below hb3); have X3 := Lib.hid (hxV.below hb3); have RA := Lib.hid hra
  have B3 := Lib.hid (hbV.trans (hb3.mono hbV.size))
  clear ht1 ht2 hxV hra hb3 hbV
  obtain ⟨⟨c0, c1⟩, f0, f1⟩ := T2.out.cells
  obtain ⟨⟨d0, d1⟩, g0, g1⟩ := T1.out.cells
  have TE := ((T1.out.far (R := w.heap.size + 1 + 1) (j := 1) (by omega) (.slice (some ⟨g, 0, none⟩) l.length l.length)).set0 (.slice (some ⟨G, 0, none⟩) d.length d.length)).set1 (.slice (some ⟨g, 0, none⟩) l.length l.length)
  obtain ⟨⟨k0, k1⟩, _⟩ := TE.cells
  clear TE
  go_wp2_with fail
  refine bodyPost_ret (v := .agg #[.slice (some ⟨G, 0, none⟩) d.length d.length, .slice (some ⟨g, 0, none⟩) l.length l.length]) (by simp [results, Try.results29, go_sem, k0, k1]) rfl ⟨_, rfl, ⟨_, _, _, _, rfl, ?_, ?_, Nat.le_refl _, Nat.le_refl _⟩, ?_⟩
  · exact ((X3.out.set (by omega) _).set (by omega) _).set (by omega) _
  · exact (((RA.out.far (by omega) _).far (by omega) _).far (by omega) _).attrs
  · exact ((B3.out.setCell (p := ⟨w.heap.size + 1 + 1, 1, none⟩) (by show w.heap.size ≤ w.heap.size + 1 + 1; omega) _).setCell (p := ⟨w.heap.size + 1, 0, none⟩) (by show w.heap.size ≤ w.heap.size + 1; omega) _).setCell (p := ⟨w.heap.size + 1, 1, none⟩) (by show w.heap.size ≤ w.heap.size + 1; omega) _
end Go.Proofs.Ytjajpdghamecoaa
