/- Merged texts: EntR1, Mark, Mark2, CpT, EntA1, EntM2, EntA2, EntR2, EntAo, ClsMath, ClsR1, ClsR2, ClsR3, QuadT. -/
import Derived.Test.YtmanlnlhpgdbpaaDoorM2
import Derived.Shelf.Small.Strs
import Derived.Test.YtmanlnlhpgdbpaaDoorM1
import Derived.Maps.OwnOps
import Derived.Maps.Views
import Derived.Laws.AppendOwnNone
/- EntryRight: the order of texts; the values of an attribute. -/
namespace Go.Proofs
open Go.Shelf
def Tryd.lays106_ren : Go.Shelf.Ren := ⟨fun | 106 => 77 | 213 => 88 | 265 => 95 | n => n, fun | 9 => 9 | 3 => 3 | n => n, fun | n => n⟩
theorem Tryd.lays106 : Go.Proofs.Lays.n106 Tryd.prog Tryd.lays106_ren := {
  mixed := by kernel_rfl
  f106 := Tryd.func77.trans (congrArg some (by kernel_rfl))
  f213 := Tryd.func88.trans (congrArg some (by kernel_rfl))
  f265 := Tryd.func95.trans (congrArg some (by kernel_rfl))
  t3 := Tryd.underlying3
  a3 := Tryd.isAgg3
  z3 := Tryd.sizeOf3
  v3 := Tryd.zeroValue3
  t9 := Tryd.underlying9
  a9 := Tryd.isAgg9
  z9 := Tryd.sizeOf9
  v9 := Tryd.zeroValue9 }
open Go.RowKit in
theorem Tryd.strings_Compare (a b : ByteArray) (w : World) :
    Calls Tryd.prog 77 #[.string a, .string b] w fun e w' => e = .returned (.int .i64 (Lib.compareBytes a.data.toList b.data.toList)) ∧ w' = w := Any.strings_Compare Tryd.lays106 a b w
namespace YtmanlnlhpgdbpaaDoor
open Go.RowKit
attribute [local go_sem ↓] Go.wp_at_zero Go.wp_at_succ

theorem compare_less : ∀ (a b : List UInt8), decide (0 ≤ Lib.compareBytes a b) = !(Op.bytesLess a b)
  | [], [] => rfl
  | [], _ :: _ => rfl
  | _ :: _, [] => rfl
  | a :: xs, b :: ys => by
    unfold Lib.compareBytes Op.bytesLess
    have ih := compare_less xs ys
    by_cases h1 : a < b
    · simp [h1]
    · by_cases h2 : b < a
      · have h3 : a ≠ b := by rintro rfl; exact h1 h2
        simp [h1, h2, h3]
      · have h3 : a = b := UInt8.le_antisymm (UInt8.not_lt.1 h2) (UInt8.not_lt.1 h1)
        subst h3
        simp [h1, ih]
/-- a list each of whose elements is less than the next -/
noncomputable def incB {α : Type} (lt : α → α → Bool) (l : List α) : Bool := @decide (∀ i (h : i + 1 < l.length), lt l[i] l[i + 1] = true) (Classical.propDecidable _)
theorem incB_yes {α : Type} {lt : α → α → Bool} {l : List α} (h : ∀ i (h : i + 1 < l.length), lt l[i] l[i + 1] = true) : incB lt l = true := @decide_eq_true _ (Classical.propDecidable _) h
theorem incB_no {α : Type} {lt : α → α → Bool} {l : List α} {k : Nat} (hk : k + 1 < l.length) (h : lt l[k] l[k + 1] = false) : incB lt l = false :=
  @decide_eq_false _ (Classical.propDecidable _) (fun g => by have := g k hk; rw [h] at this; cases this)
def normLt (x y : ByteArray) : Bool := Op.bytesLess (normS x).toList (normS y).toList
def nameLt (a b : AttrV) : Bool := Op.bytesLess a.1.toList b.1.toList
noncomputable def valsB (l : List ByteArray) : Bool := decide (1 ≤ l.length) && decide (l.length ≤ 4) && l.all valB && incB normLt l
noncomputable def attrB (a : AttrV) : Bool := nmL a.1 && valsB a.2
noncomputable def attrsB (l : List AttrV) : Bool := decide (l.length ≤ 8) && l.all attrB && incB nameLt l
noncomputable def rightB (d : RdnL) (l : List AttrV) : Bool := dnB d && decide (0 < d.length) && attrsB l
set_option maxHeartbeats 1000000 in
theorem compareNorms_any (w0 : World) (a b : ByteArray) (w : World) (ha : a.size ≤ maxLen) (hb : b.size ≤ maxLen) (hB : Below w0.heap.size w0 w) :
    Calls Tryd.prog 92 #[.string a, .string b] w fun e w' => (∃ c : Int, e = .returned (.int .i64 c) ∧ decide (0 ≤ c) = !(normLt a b)) ∧ Below w0.heap.size w0 w' := by
  have HC : Hid (decide (0 ≤ Lib.compareBytes (normS a).data.toList (normS b).data.toList) = !(normLt a b)) := Lib.hid (by rw [compare_less]; unfold normLt; rw [Lib.toList_data, Lib.toList_data])
  have hbd := hB.drew
  have HN : Hid (∀ (s : ByteArray) W, s.size ≤ maxLen → Below w0.heap.size w0 W → Calls Tryd.prog 52 #[.string s] W fun e w' => e = .returned (.string (normS s)) ∧ Below w0.heap.size w0 w') :=
    Lib.hid (fun s W hs h => (Norm_any s W hs).mono fun _ _ g => ⟨g.1, h.trans (g.2.mono h.size)⟩)
  go_enter Tryd.func92, Tryd.ntmps92
  go_wp2_with (first
    | (go_at_call 52; refine (HN.out _ _ ha hB).mono ?_; rintro e w1 ⟨rfl, hb1⟩; clear hB hbd)
    | (go_at_call 52; refine (HN.out _ _ hb hb1).mono ?_; rintro e w2 ⟨rfl, hb2⟩; clear hb1)
    | (go_at_call 77; refine (Tryd.strings_Compare _ _ _).mono ?_; rintro e w3 ⟨rfl, rfl⟩)
    | (fail "none"))
  go_ret
  exact ⟨⟨_, rfl, HC.out⟩, hb2⟩
theorem FitsV.max {l : List ByteArray} (h : FitsV l) {k : Nat} (hk : k < l.length) : l[k].size ≤ maxLen := by have := h.at hk; unfold maxLen; omega
set_option maxRecDepth 100000 in
set_option maxHeartbeats 1000000 in
theorem areProper_any (ao : Option Addr) (l : List ByteArray) (cap : Nat) (w : World) (hd : StrsAt w ao l) (hf : FitsV l) :
    Calls Tryd.prog 90 #[.slice ao l.length cap] w fun e w' => e = .returned (.bool (l.all valB)) ∧ Below w.heap.size w w' := by
  have hl := hf.1
  have HD := Lib.hid hd; have HF := Lib.hid hf; clear hd hf
  go_enter Tryd.func90, Tryd.ntmps90
  go_wp2
  go_loopw [7] (fun i wr => ∃ k : Nat, k ≤ l.length ∧ i = .int .i64 k ∧ (l.take k).all valB = true ∧ Below w.heap.size w wr) (fun i _ => l.length - (intOf i).toNat)
  case atStart => exact ⟨0, Nat.zero_le _, rfl, rfl, Below.refl _ _⟩
  case round =>
    obtain ⟨k, hk, rfl, ha, hbel⟩ := hrel
    have Ha := Lib.hid ha; clear ha
    have hsz := hbel.size
    by_cases hlt : k < l.length
    · obtain ⟨b, off, rfl, hb0, hc1⟩ := (HD.out.below hbel).at hlt
      have hz := HF.out.max hlt
      generalize hr : valB l[k] = r at *
      have HR := Lib.hid hr; clear hr
      cases r
      · have HX := Lib.hid (all_bad valB l k hlt HR.out)
        go_wp2_with (first | (go_at_call 89; refine (isProperValue_any _ _ hz).mono ?_; rintro e w1 ⟨rfl, hb1⟩; rw [HR.out]) | (fail "none"))
        go_ret
        exact ⟨ret_bool (by rw [HX.out]), hbel.trans (hb1.mono hsz)⟩
      · have HT : Hid ((l.take (k + 1)).all valB = true) := Lib.hid (by rw [all_take valB l k hlt, Ha.out, HR.out]; rfl)
        go_wp2_with (first | (go_at_call 89; refine (isProperValue_any _ _ hz).mono ?_; rintro e w1 ⟨rfl, hb1⟩; rw [HR.out]) | (fail "none"))
        go_roundw
        case rel => exact ⟨k + 1, by omega, by go_num, HT.out, hbel.trans (hb1.mono hsz)⟩
        case measure => simp [intOf]; omega
    · have e : l.take k = l := List.take_of_length_le (by omega)
      have HT : Hid (l.all valB = true) := Lib.hid (by rw [← e]; exact Ha.out)
      clear e
      go_wp2
      go_ret
      exact ⟨ret_bool (by rw [HT.out]), hbel⟩
set_option maxRecDepth 100000 in
set_option maxHeartbeats 1000000 in
theorem incStr_any (ao : Option Addr) (l : List ByteArray) (cap : Nat) (w : World) (hd : StrsAt w ao l) (hf : FitsV l) :
    Calls Tryd.prog 91 #[.slice ao l.length cap, .func (.func 92) #[] #[]] w fun e w' => e = .returned (.bool (incB normLt l)) ∧ Below w.heap.size w w' := by
  have hl := hf.1
  have HD := Lib.hid hd; have HF := Lib.hid hf; clear hd hf
  go_enter Tryd.func91, Tryd.ntmps91
  go_wp2
  go_loopw [5] (fun i wr => ∃ m : Nat, m ≤ l.length ∧ i = .int .i64 ((m : Int) + 1) ∧ (∀ j (h : j + 1 < l.length), j < m → normLt l[j] l[j + 1] = true) ∧ Below w.heap.size w wr) (fun i _ => l.length + 1 - (intOf i).toNat)
  case atStart => exact ⟨0, Nat.zero_le _, rfl, fun j _ h => absurd h (Nat.not_lt_zero _), Below.refl _ _⟩
  case round =>
    obtain ⟨m, hm, rfl, ha, hbel⟩ := hrel
    have Ha := Lib.hid ha; clear ha
    have hsz := hbel.size
    by_cases hlt : m + 1 < l.length
    · have hm0 : m < l.length := by omega
      obtain ⟨b, off, rfl, hw0, hd1⟩ := HD.out.at hm0
      obtain ⟨b', off', e, _, hd2⟩ := HD.out.at hlt
      cases e
      have hc1 := (hbel.cell (p := ⟨b, off + m, none⟩) hw0).trans hd1
      have hc2 := (hbel.cell (p := ⟨b, off + (m + 1), none⟩) hw0).trans hd2
      have hz1 := HF.out.max hm0
      have hz2 := HF.out.max hlt
      have g1 : (m : Int) + 1 < (l.length : Int) := by omega
      have g2 : (0 : Int) ≤ (m : Int) := by omega
      have g3 : (m : Int) < (l.length : Int) := by omega
      have g4 : (0 : Int) ≤ (m : Int) + 1 := by omega
      have HN : Hid (∀ j (h : j + 1 < l.length), j < m + 1 → normLt l[m] l[m + 1] = true → normLt l[j] l[j + 1] = true) := Lib.hid (fun j h hj hn => by
        by_cases e : j = m
        · subst e; exact hn
        · exact Ha.out j h (by omega))
      have HX : Hid (normLt l[m] l[m + 1] = false → incB normLt l = false) := Lib.hid (fun h => incB_no hlt h)
      generalize hx : l[m] = X at *
      generalize hy : l[m + 1] = Y at *
      clear hx hy
      have SK : Hid (∀ W : World, Below w.heap.size w W → (Below w.heap.size w W ∧ W.cell? ⟨b, off + m, none⟩ = some (.string X) ∧ W.cell? ⟨b, off + (m + 1), none⟩ = some (.string Y))) :=
        Lib.hid (fun W h => ⟨h, (h.cell (p := ⟨b, _, none⟩) hw0).trans hd1, (h.cell (p := ⟨b, _, none⟩) hw0).trans hd2⟩)
      have hbd := hbel.drew
      have hwr : IntKind.i64.wrap (m : Int) = (m : Int) := IntWalk.i64_in _ (by omega)
      have hwr2 : IntKind.i64.wrap ((m : Int) + 1 - 1) = (m : Int) := by rw [Int.add_sub_cancel]; exact hwr
      clear hc1 hc2 hd1 hd2
      cases hn : normLt X Y
      · have HX' := Lib.hid (HX.out hn)
        go_wp2_with fail
        go_region_held3 (fun W => Below w.heap.size w W ∧ W.cell? ⟨b, off + m, none⟩ = some (.string X) ∧ W.cell? ⟨b, off + (m + 1), none⟩ = some (.string Y))
          (exact SK.out _ (by assumption))
          (first | (go_at_call 92; refine (compareNorms_any w X Y _ hz1 hz2 (by assumption)).mono ?_; rintro e w1 ⟨⟨c, rfl, hc⟩, hb1⟩; rw [hn] at hc; have hc0 : 0 ≤ c := (by simpa using hc); clear hc) | (fail "none"))
        all_goals
          go_wp2
          go_ret
          exact ⟨ret_bool (by rw [HX'.out]), hb1⟩
      · go_wp2_with fail
        go_region_held3 (fun W => Below w.heap.size w W ∧ W.cell? ⟨b, off + m, none⟩ = some (.string X) ∧ W.cell? ⟨b, off + (m + 1), none⟩ = some (.string Y))
          (exact SK.out _ (by assumption))
          (first | (go_at_call 92; refine (compareNorms_any w X Y _ hz1 hz2 (by assumption)).mono ?_; rintro e w1 ⟨⟨c, rfl, hc⟩, hb1⟩; rw [hn] at hc; have hc0 : ¬ 0 ≤ c := (by simpa using hc); clear hc) | (fail "none"))
        all_goals
          go_wp2
          go_roundw
          case rel => exact ⟨m + 1, by omega, by go_num, fun j h hj => HN.out j h hj hn, hb1⟩
          case measure => simp [intOf]; omega
    · have HT : Hid (incB normLt l = true) := Lib.hid (incB_yes fun j h => Ha.out j h (by omega))
      have g1 : ¬ (m : Int) + 1 < (l.length : Int) := by omega
      go_wp2
      go_ret
      exact ⟨ret_bool (by rw [HT.out]), hbel⟩
set_option maxRecDepth 100000 in
set_option maxHeartbeats 1000000 in
theorem attrRight_any (A : ByteArray) (vo : Option Addr) (l : List ByteArray) (vc : Nat) (w : World) (hA : A.size ≤ maxLen) (hd : StrsAt w vo l) (hf : FitsV l) :
    Calls Tryd.prog 79 #[.agg #[.string A, .slice vo l.length vc]] w fun e w' => e = .returned (.bool (attrB (A, l))) ∧ Below w.heap.size w w' := by
  have hl := hf.1
  have HD := Lib.hid hd; have HF := Lib.hid hf; clear hd hf
  have HB0 : Hid (Below w.heap.size w (w.alloc (.cells #[.string A, .slice vo l.length vc] 83))) := Lib.hid (more (Below.refl _ _) _)
  have HE : Hid (attrB (A, l) = (nmL A && (decide (1 ≤ l.length) && decide (l.length ≤ 4) && l.all valB && incB normLt l))) := Lib.hid rfl
  by_cases h1 : l.length < 1
  · have g1 : (l.length : Int) < 1 := by omega
    go_enter Tryd.func79, Tryd.ntmps79
    go_wp2
    go_ret
    exact ⟨ret_bool (by rw [HE.out]; simp [show ¬ 1 ≤ l.length by omega]), HB0.out⟩
  · have g1 : ¬ (l.length : Int) < 1 := by omega
    by_cases h4 : 4 < l.length
    · have g4 : 4 < (l.length : Int) := by omega
      go_enter Tryd.func79, Tryd.ntmps79
      go_wp2
      go_ret
      exact ⟨ret_bool (by rw [HE.out]; simp [show ¬ l.length ≤ 4 by omega]), HB0.out⟩
    · have g4 : ¬ 4 < (l.length : Int) := by omega
      have d1 : decide (1 ≤ l.length) = true := decide_eq_true (by omega)
      have d2 : decide (l.length ≤ 4) = true := decide_eq_true (by omega)
      rw [d1, d2] at HE
      clear d1 d2
      cases hn : nmL A
      · rw [hn] at HE
        go_enter Tryd.func79, Tryd.ntmps79
        go_wp2_with (first | (go_at_call 74; refine (NameRight_any _ _ hA).mono ?_; rintro e w' ⟨rfl, rfl⟩) | (fail "none"))
        go_ret
        exact ⟨ret_bool (by rw [HE.out]; simp), HB0.out⟩
      · rw [hn] at HE
        cases hv : l.all valB
        · rw [hv] at HE
          go_enter Tryd.func79, Tryd.ntmps79
          go_wp2_with (first | (go_at_call 74; refine (NameRight_any _ _ hA).mono ?_; rintro e w' ⟨rfl, rfl⟩) | (go_at_call 90; refine (areProper_any vo l vc _ (HD.out.below HB0.out) HF.out).mono ?_; rw [hv]; rintro e w1 ⟨rfl, hb1⟩) | (fail "none"))
          go_ret
          exact ⟨ret_bool (by rw [HE.out]; simp), HB0.out.trans (hb1.mono HB0.out.size)⟩
        · rw [hv] at HE
          go_enter Tryd.func79, Tryd.ntmps79
          go_wp2_with (first | (go_at_call 74; refine (NameRight_any _ _ hA).mono ?_; rintro e w' ⟨rfl, rfl⟩) | (go_at_call 90; refine (areProper_any vo l vc _ (HD.out.below HB0.out) HF.out).mono ?_; rw [hv]; rintro e w1 ⟨rfl, hb1⟩; have B1 := Lib.hid (HB0.out.trans (hb1.mono HB0.out.size)); have c1 : w1.cell? ⟨w.heap.size, 1, none⟩ = some (.slice vo l.length vc) := (hb1.cell (p := ⟨w.heap.size, 1, none⟩) (by simp)).trans (by unfold World.cell?; rw [heap_alloc_new]; rfl)) | (fail "none"))
          refine (incStr_any vo l vc w1 (HD.out.below B1.out) HF.out).mono ?_
          rintro e w2 ⟨rfl, hb2⟩
          have B2 := Lib.hid (B1.out.trans (hb2.mono B1.out.size))
          clear hb1 hb2
          generalize incB normLt l = r at *
          go_wp2
          go_ret
          exact ⟨ret_bool (by rw [HE.out]; simp), B2.out⟩
end YtmanlnlhpgdbpaaDoor
end Go.Proofs
/- The helpers of the laws: marks. -/
namespace Go.Proofs.YtmanlnlhpgdbpaaDoor
open Go.RowKit
attribute [local go_sem ↓] Go.wp_at_zero Go.wp_at_succ

theorem toS_list (l : List UInt8) : (toS l).data.toList = l := by simp [toS]
theorem toS_size (l : List UInt8) : (toS l).size = l.length := by rw [← size_len, toS_list]
theorem one_str (W : World) (n : Nat) (hn : n < 256) :
    (convert 96 9 (.slice (some ⟨W.heap.size, 0, none⟩) 1 1)).run Tryd.prog (W.alloc (.cells #[.int .u8 (n : Int)] 5)) = .ok (.string ⟨#[UInt8.ofNat n]⟩) (W.alloc (.cells #[.int .u8 (n : Int)] 5)) := by
  refine str22 _ ⟨W.heap.size, 0, none⟩ 1 [UInt8.ofNat n] 1 rfl fun j hj => ?_
  match j, hj with
  | 0, _ =>
    rw [add_plain, World.cell?_alloc_mark]
    simp; omega
set_option maxRecDepth 100000 in
set_option maxHeartbeats 1000000 in
theorem markText_any (n : Nat) (w : World) (h0 : 0 < n) (hn : n ≤ 1000000000) :
    Calls Tryd.prog 33 #[.int .i64 n] w fun e w' => e = .returned (.string (mkT n)) ∧ Below w.heap.size w w' := by
  go_enter Tryd.func33, Tryd.ntmps33
  go_wp2
  go_loopw [0, 3] (fun t u wr => ∃ (f k : Nat) (o : List UInt8), k ≤ n ∧ t = .int .i64 k ∧ u = .string (toS o) ∧ digs 20 n [] = digs f k o ∧ k < 10 ^ f ∧ f ≤ 20 ∧ o.length + f ≤ 20 ∧ Below w.heap.size w wr) (fun t _ _ => (intOf t).toNat)
  case atStart => exact ⟨20, n, [], Nat.le_refl _, rfl, rfl, rfl, by omega, by omega, by simp, Below.refl _ _⟩
  case round =>
    obtain ⟨f, k, o, hk, rfl, rfl, hD, hf, hf2, ho, hbel⟩ := hrel
    have HD := Lib.hid hD; clear hD
    have hsz := hbel.size
    by_cases hk0 : 0 < k
    · obtain ⟨g, rfl⟩ : ∃ g, f = g + 1 := ⟨f - 1, by
        rcases f with _ | f
        · simp at hf; omega
        · simp⟩
      have HN : Hid (digs 20 n [] = digs g (k / 10) (UInt8.ofNat (48 + k % 10) :: o)) := Lib.hid (by rw [HD.out, digs, if_neg (by omega)])
      have HF : Hid (k / 10 < 10 ^ g) := Lib.hid (by rw [Nat.pow_succ] at hf; omega)
      have HC : Hid ((⟨#[UInt8.ofNat (48 + k % 10)]⟩ : ByteArray) ++ toS o = toS (UInt8.ofNat (48 + k % 10) :: o)) := Lib.hid (by apply ByteArray.ext; simp [toS])
      clear hf
      have hos : (toS o).size ≤ 20 := by rw [toS_size]; omega
      have hcv := one_str wr (48 + k % 10) (by omega)
      have hca := cat ⟨#[UInt8.ofNat (48 + k % 10)]⟩ (toS o) (by rw [sz1]; omega)
      have e1 : ((48 + k % 10 : Nat) : Int) = 48 + (k : Int) % 10 := by omega
      rw [e1] at hcv
      clear e1
      generalize UInt8.ofNat (48 + k % 10) = c at *
      go_wp2
      refine ⟨⟨g, k / 10, c :: o, by omega, by go_num, by rw [HC.out], HN.out, HF.out, by omega, by simp only [List.length_cons]; omega, more hbel _⟩, ?_⟩
      simp [intOf]; omega
    · have HE : Hid (⟨#[109]⟩ ++ toS o = mkT n) := Lib.hid (by
        have e : k = 0 := by omega
        subst e
        have : digs f 0 o = o := by cases f <;> simp [digs]
        unfold mkT mkL
        rw [HD.out, this]
        apply ByteArray.ext; simp [toS])
      have hos : (toS o).size ≤ 20 := by rw [toS_size]; omega
      have hca := cat ⟨#[109]⟩ (toS o) (by rw [sz1]; omega)
      go_wp2
      go_ret
      exact ⟨ret_str HE.out, hbel⟩
/-- n pairs of marks, from k on -/
def marks : Nat → Nat → RdnL
  | _, 0 => []
  | k, n + 1 => marks k n ++ [(mkT (k + 2 * n), mkT (k + 2 * n + 1))]
theorem marks_len (k n : Nat) : (marks k n).length = n := by
  induction n with
  | zero => rfl
  | succ n ih => rw [marks, List.length_append, ih]; rfl
theorem marks_get (k n i : Nat) (h : i < n) (h' : i < (marks k n).length) : (marks k n)[i] = (mkT (k + 2 * i), mkT (k + 2 * i + 1)) := by
  induction n with
  | zero => omega
  | succ n ih =>
    have hl := marks_len k n
    simp only [marks]
    by_cases e : i < n
    · rw [List.getElem_append_left (by omega)]; exact ih e (by omega)
    · have : i = n := by omega
      subst this
      rw [List.getElem_append_right (by omega)]
      simp [hl]
/-- a block of pairs, the first k marked, the rest as they were -/
def MarkTo (w : World) (g n k j : Nat) : Prop := ∃ C : Array Value, w.heap[g]? = some (.cells C 84 (0, 0)) ∧ C.size = n * 2 ∧ C.toList.take (j * 2) = rs (marks k j)
theorem MarkTo.below {w w' : World} {g n k j : Nat} (h : MarkTo w g n k j) (hb : Below w.heap.size w w') : MarkTo w' g n k j := by
  obtain ⟨C, h1, h2⟩ := h
  exact ⟨C, (hb.block g (Array.getElem?_eq_some_iff.1 h1).1).trans h1, h2⟩
end Go.Proofs.YtmanlnlhpgdbpaaDoor
/- The helpers of the laws: marks laid into a name, and found there again. -/
namespace Go.Proofs.YtmanlnlhpgdbpaaDoor
open Go.RowKit
attribute [local go_sem ↓] Go.wp_at_zero Go.wp_at_succ

theorem grown_of {a b : World} (h : Below a.heap.size a b) (row : Option Nat) : a.grownBy b row := ⟨h.os, h.tape, h.output, h.size, fun k hk _ => h.block k hk⟩
theorem grown_tr {a b c : World} {r : Option Nat} (h : a.grownBy b r) (g : b.grownBy c r) : a.grownBy c r :=
  ⟨g.os.trans h.os, g.tape.trans h.tape, g.output.trans h.output, Nat.le_trans h.size g.size, fun k hk hne => (g.block k (Nat.lt_of_lt_of_le hk h.size) hne).trans (h.block k hk hne)⟩
theorem markText_from (w0 : World) (n : Nat) (w : World) (h0 : 0 < n) (hn : n ≤ 1000000000) (hB : Below w0.heap.size w0 w) :
    Calls Tryd.prog 33 #[.int .i64 n] w fun e w' => e = .returned (.string (mkT n)) ∧ Below w0.heap.size w0 w' :=
  (markText_any n w h0 hn).mono fun _ _ ⟨he, hb⟩ => ⟨he, hB.trans (hb.mono hB.size)⟩
end Go.Proofs.YtmanlnlhpgdbpaaDoor
/- AttrOf: the program's copies of texts, and its map of attributes by their names. -/
namespace Go.Proofs.YtmanlnlhpgdbpaaDoor
open Go.RowKit
attribute [local go_sem ↓] Go.wp_at_zero Go.wp_at_succ

theorem concat_copy (a : ByteArray) (w : World) (h : a.size ≤ 10000000) :
    Calls Tryd.prog 53 #[.slice (some ⟨w.heap.size, 0, none⟩) 1 1] (w.alloc (.cells #[.string a] 9)) fun e w' => e = .returned (.string a) ∧ Below w.heap.size w w' := by
  have := concat_any w.heap.size 0 1 [a] (w.alloc (.cells #[.string a] 9)) (by simp) (by simp) (by simp [joinL]; omega) (fun i hi => by
    match i, hi with
    | 0, _ => simp)
  rw [joinS_one] at this
  exact this.mono fun e w' ⟨he, hb⟩ => ⟨he, ((Below.refl _ _).alloc (Nat.le_refl _) _).trans (hb.mono (by simp))⟩
theorem take_snoc' {α : Type} (l : List α) (k : Nat) (h : k < l.length) : l.take (k + 1) = l.take k ++ [l[k]] := List.take_succ_eq_append_getElem h
set_option maxRecDepth 100000 in
set_option maxHeartbeats 1000000 in
theorem copyTexts_any (vo : Option Addr) (V : List ByteArray) (vc : Nat) (w : World) (hd : StrsAt w vo V) (hf : FitsV V) :
    Calls Tryd.prog 28 #[.slice vo V.length vc] w fun e w' => (∃ v, e = .returned v ∧ w'.ownsRow w.heap.size 9 1 v V.length (ss V)) ∧ Below w.heap.size w w' := by
  have hl := hf.1
  have HD := Lib.hid hd; have HF := Lib.hid hf; clear hd hf
  go_enter Tryd.func28, Tryd.ntmps28
  go_wp2_with fail
  go_loopw [3, 8] (fun v i wr => ∃ k : Nat, k ≤ V.length ∧ i = .int .i64 k ∧ wr.ownsRow w.heap.size 9 1 v (V.take k).length (ss (V.take k)) ∧ Below w.heap.size w wr) (fun _ i _ => V.length - (intOf i).toNat)
  case atStart => exact ⟨0, Nat.zero_le _, rfl, ⟨rfl, .inl ⟨rfl, rfl⟩⟩, Below.refl _ _⟩
  case round =>
    obtain ⟨k, hk, rfl, hown, hbel⟩ := hrel
    have hsz := hbel.size
    by_cases hlt : k < V.length
    · obtain ⟨p, off, rfl, hp0, hd1⟩ := HD.out.at hlt
      have hz := HF.out.at hlt
      have c1 := (hbel.cell (p := ⟨p, off + k, none⟩) hp0).trans hd1
      have HN := Lib.hid (take_snoc' V k hlt)
      have HL : Hid ((V.take k).length ≤ 1000000000) := Lib.hid (by simp; omega)
      have g1 : (0 : Int) ≤ (k : Int) := by omega
      have g2 : (k : Int) < (V.length : Int) := by omega
      clear hd1
      generalize V[k] = x at *
      generalize V.take k = pre at *
      go_wp2_with (first
        | (go_at_call 53; refine (concat_copy x wr (by omega)).mono ?_; rintro e w3 ⟨rfl, hb3⟩; have O3 := own_below hown hb3; have L3 := Nat.le_trans hsz hb3.size; have B3 := hbel.trans (hb3.mono hsz); clear hb3)
        | (at_builtin; refine append_str w.heap.size rfl _ _ rfl _ pre rfl O3 _ rfl HL.out L3 B3 ?_; intro v4 w4 hown4 hbel4 hsz4 _ _)
        | (fail "none"))
      go_roundw
      case rel => exact ⟨k + 1, by omega, by go_num, by rw [HN.out]; exact hown4, hbel4⟩
      case measure => simp [intOf]; omega
    · obtain rfl : k = V.length := by omega
      have HO : Hid (wr.ownsRow w.heap.size 9 1 u3 V.length (ss V)) := Lib.hid (by have h := hown; rw [List.take_length] at h; exact h)
      clear hown
      go_wp2
      go_ret
      exact ⟨⟨_, rfl, HO.out⟩, hbel⟩

end Go.Proofs.YtmanlnlhpgdbpaaDoor
/- AttrOf: the program's copies of texts, and its map of attributes by their names. -/
namespace Go.Proofs.YtmanlnlhpgdbpaaDoor
open Go.RowKit
attribute [local go_sem ↓] Go.wp_at_zero Go.wp_at_succ

/-- how an element of the map reads: as itself -/
def valR (v : Value) : Option (DataW Value × List MemPlace) := some (.held v, [])
def putP (D : DataW Value) (p : ByteArray × Value) : DataW Value := D.put (.string p.1.data.toList) (.held p.2)
/-- the map that a list of pairs lays -/
def mapOf (l : List (ByteArray × Value)) : DataW Value := l.foldl putP (.map [])
theorem mapOf_snoc (l : List (ByteArray × Value)) (p : ByteArray × Value) : mapOf (l ++ [p]) = (mapOf l).put (.string p.1.data.toList) (.held p.2) := by
  unfold mapOf; rw [List.foldl_append]; rfl
/-- what lies in the map of an entry's attributes -/
def AttrVals (w : World) (l : List AttrV) (ps : List (ByteArray × Value)) : Prop :=
  ps.length = l.length ∧ ∀ i (h : i < l.length) (h' : i < ps.length), ps[i].1 = l[i].1 ∧ ∃ vo vc, ps[i].2 = .agg #[.string l[i].1, .slice vo l[i].2.length vc] ∧ ValsAt w vo vc l[i].2
theorem AttrVals.snoc {w : World} {l : List AttrV} {ps : List (ByteArray × Value)} (h : AttrVals w l ps) (a : AttrV) (vo : Option Addr) (vc : Nat) (hv : ValsAt w vo vc a.2) : AttrVals w (l ++ [a]) (ps ++ [(a.1, .agg #[.string a.1, .slice vo a.2.length vc])]) := by
  refine ⟨by simp [h.1], fun i h1 h2 => ?_⟩
  by_cases e : i < l.length
  · have e' : i < ps.length := by rw [h.1]; exact e
    rw [List.getElem_append_left e, List.getElem_append_left e']
    exact h.2 i e e'
  · have hi : i = l.length := by simp at h1; omega
    subst hi
    have hl := h.1
    rw [List.getElem_append_right (Nat.le_refl _), List.getElem_append_right (by omega)]
    simp only [hl, Nat.sub_self, List.getElem_cons_zero]
    exact ⟨trivial, vo, vc, rfl, hv⟩
theorem Tryd.keyed9 : Maps.Keyed Tryd.prog 9 := Maps.string_keyed Tryd.underlying9
end Go.Proofs.YtmanlnlhpgdbpaaDoor
/- Attributes by their names: plain facts. -/
namespace Go.Proofs.YtmanlnlhpgdbpaaDoor
open Go.RowKit

theorem less_irrefl : ∀ a : List UInt8, Op.bytesLess a a = false
  | [] => rfl
  | a :: xs => by
    have ih := less_irrefl xs
    unfold Op.bytesLess
    simp [ih]
theorem less_trans : ∀ a b c : List UInt8, Op.bytesLess a b = true → Op.bytesLess b c = true → Op.bytesLess a c = true
  | [], [], _, h, _ => by simp [Op.bytesLess] at h
  | [], _ :: _, [], _, h => by simp [Op.bytesLess] at h
  | [], _ :: _, _ :: _, _, _ => by simp [Op.bytesLess]
  | _ :: _, [], _, h, _ => by simp [Op.bytesLess] at h
  | _ :: _, _ :: _, [], _, h => by simp [Op.bytesLess] at h
  | a :: xs, b :: ys, c :: zs, h1, h2 => by
    have ih := less_trans xs ys zs
    unfold Op.bytesLess at h1 h2 ⊢
    simp at h1 h2 ⊢
    rcases h1 with h1 | ⟨rfl, h1⟩
    · rcases h2 with h2 | ⟨rfl, h2⟩
      · exact .inl (UInt8.lt_trans h1 h2)
      · exact .inl h1
    · rcases h2 with h2 | ⟨rfl, h2⟩
      · exact .inl h2
      · exact .inr ⟨rfl, ih h1 h2⟩
theorem inc_far {α : Type} {lt : α → α → Bool} (tr : ∀ a b c, lt a b = true → lt b c = true → lt a c = true) {l : List α} (h : incB lt l = true) : ∀ (i j : Nat) (hi : i < l.length) (hj : j < l.length), i < j → lt l[i] l[j] = true := by
  have h1 : ∀ i (h : i + 1 < l.length), lt l[i] l[i + 1] = true := @of_decide_eq_true _ (Classical.propDecidable _) h
  intro i j
  induction j with
  | zero => intro _ _ h; omega
  | succ j ih =>
    intro hi hj hij
    by_cases e : i = j
    · subst e; exact h1 i hj
    · exact tr _ _ _ (ih hi (by omega) (by omega)) (h1 j hj)
theorem names_apart {d : RdnL} {l : List AttrV} (h : rightB d l = true) : ∀ (i j : Nat) (hi : i < l.length) (hj : j < l.length), i < j → l[i].1 ≠ l[j].1 := by
  unfold rightB attrsB at h
  simp only [Bool.and_eq_true] at h
  intro i j hi hj hij e
  have := inc_far (lt := nameLt) (fun a b c => less_trans _ _ _) h.2.2 i j hi hj hij
  unfold nameLt at this
  rw [e, less_irrefl] at this
  cases this
theorem name_short {d : RdnL} {l : List AttrV} (h : rightB d l = true) {a : AttrV} (ha : a ∈ l) : a.1.size ≤ 20 := by
  unfold rightB attrsB at h
  simp only [Bool.and_eq_true, List.all_eq_true] at h
  have := h.2.1.2 a ha
  unfold attrB nmL at this
  simp only [Bool.and_eq_true, decide_eq_true_eq] at this
  exact this.1.1.1.2
/-- the number of the attribute of a name -/
def atN (l : List AttrV) (nm : ByteArray) : Option Nat := l.findIdx? (fun a => decide (a.1 = nm))
def valsOf (l : List AttrV) (nm : ByteArray) : List ByteArray := match atN l nm with | some i => (l.getD i (ByteArray.empty, [])).2 | none => []
theorem atN_some {l : List AttrV} {nm : ByteArray} {i : Nat} (h : atN l nm = some i) : ∃ hi : i < l.length, l[i].1 = nm ∧ valsOf l nm = l[i].2 ∧ ∀ j (hj : j < i), l[j].1 ≠ nm := by
  have h' := h
  unfold atN at h'
  rw [List.findIdx?_eq_some_iff_getElem] at h'
  obtain ⟨hi, h1, h2⟩ := h'
  refine ⟨hi, by simpa using h1, ?_, fun j hj => by simpa using h2 j hj⟩
  unfold valsOf
  rw [h]
  simp [hi]
theorem atN_none {l : List AttrV} {nm : ByteArray} (h : atN l nm = none) : (∀ a ∈ l, a.1 ≠ nm) ∧ valsOf l nm = [] := by
  have h' := h
  unfold atN at h'
  rw [List.findIdx?_eq_none_iff] at h'
  refine ⟨fun a ha => by simpa using h' a ha, ?_⟩
  unfold valsOf
  rw [h]
theorem isMap_mapOf (ps : List (ByteArray × Value)) : Maps.IsMap (mapOf ps) := by
  have : ∀ (ps : List (ByteArray × Value)) (D : DataW Value), Maps.IsMap D → Maps.IsMap (ps.foldl putP D) := by
    intro ps
    induction ps with
    | nil => intro D h; exact h
    | cons p ps ih => intro D h; exact ih _ (h.put _ _)
  exact this ps _ Maps.isMap_empty
theorem key_ne {a b : ByteArray} (h : a ≠ b) : Lit.string a.data.toList ≠ Lit.string b.data.toList := by
  intro e
  injection e with e
  exact h (ByteArray.ext (Array.toList_inj.1 e))
theorem snoc_rec {α : Type} {P : List α → Prop} (h0 : P []) (h1 : ∀ l a, P l → P (l ++ [a])) (l : List α) : P l := by
  have : ∀ r : List α, P r.reverse := by
    intro r
    induction r with
    | nil => exact h0
    | cons a r ih => rw [List.reverse_cons]; exact h1 _ _ ih
  simpa using this l.reverse
theorem mapOf_miss (ps : List (ByteArray × Value)) (nm : ByteArray) (z : DataW Value) (h : ∀ p ∈ ps, p.1 ≠ nm) : (mapOf ps).atKey (.string nm.data.toList) z = z := by
  revert h
  refine snoc_rec (P := fun ps => (∀ p ∈ ps, p.1 ≠ nm) → (mapOf ps).atKey (.string nm.data.toList) z = z) ?_ ?_ ps
  · intro _; rfl
  · intro ps p ih h
    rw [mapOf_snoc, Maps.atKey_put_other (key_ne (h p (by simp)).symm)]
    exact ih fun q hq => h q (by simp [hq])
theorem mapOf_hit (ps : List (ByteArray × Value)) (nm : ByteArray) (z : DataW Value) (i : Nat) (hi : i < ps.length) (h1 : ps[i].1 = nm) (h2 : ∀ j (hj : j < ps.length), i < j → ps[j].1 ≠ nm) : (mapOf ps).atKey (.string nm.data.toList) z = .held ps[i].2 := by
  revert hi h1 h2
  refine snoc_rec (P := fun ps => ∀ (hi : i < ps.length), ps[i].1 = nm → (∀ j (hj : j < ps.length), i < j → ps[j].1 ≠ nm) → (mapOf ps).atKey (.string nm.data.toList) z = .held ps[i].2) ?_ ?_ ps
  · intro hi; simp at hi
  · intro ps p ih hi h1 h2
    by_cases e : i < ps.length
    · rw [mapOf_snoc]
      have hp : p.1 ≠ nm := by
        have := h2 ps.length (by simp) e
        simpa using this
      rw [Maps.atKey_put_other (key_ne hp.symm)]
      rw [List.getElem_append_left e] at h1 ⊢
      exact ih e h1 (fun j hj hij => by have := h2 j (by simp; omega) hij; rwa [List.getElem_append_left hj] at this)
    · have hi' : i = ps.length := by simp at hi; omega
      subst hi'
      rw [mapOf_snoc]
      simp only [List.getElem_append_right (Nat.le_refl _), Nat.sub_self, List.getElem_cons_zero] at h1 ⊢
      rw [← h1]
      exact Maps.atKey_put_same (isMap_mapOf ps) (by trivial) _ _
/-- what the map of a valid entry's attributes holds at a name -/
theorem map_at {w : World} {d : RdnL} {l : List AttrV} {ps : List (ByteArray × Value)} (h : AttrVals w l ps) (hr : rightB d l = true) (nm : ByteArray) :
    ∃ x vo vc, (mapOf ps).atKey (.string nm.data.toList) (.held (.agg #[.string ByteArray.empty, .slice none 0 0])) = .held (.agg #[.string x, .slice vo (valsOf l nm).length vc]) ∧ ValsAt w vo vc (valsOf l nm) := by
  have hl := h.1
  cases ha : atN l nm with
  | none =>
    obtain ⟨h1, h2⟩ := atN_none ha
    refine ⟨ByteArray.empty, none, 0, ?_, ?_⟩
    · rw [h2]
      refine mapOf_miss ps nm _ fun p hp => ?_
      obtain ⟨i, hi, rfl⟩ := List.getElem_of_mem hp
      rw [(h.2 i (by omega) hi).1]
      exact h1 _ (List.getElem_mem _)
    · rw [h2]; exact ⟨.inl rfl, Nat.le_refl _, fun _ => rfl⟩
  | some i =>
    obtain ⟨hi, h1, h2, _⟩ := atN_some ha
    obtain ⟨q1, vo, vc, q2, q3⟩ := h.2 i hi (by omega)
    refine ⟨l[i].1, vo, vc, ?_, by rw [h2]; exact q3⟩
    rw [mapOf_hit ps nm _ i (by omega) (q1.trans h1) (fun j hj hij => by
      rw [(h.2 j (by omega) hj).1, ← h1]
      exact (names_apart hr i j hi (by omega) hij).symm), q2, h2]
end Go.Proofs.YtmanlnlhpgdbpaaDoor
/- AttrOf: what the program returns, and what the specification returns. -/
namespace Go.Proofs.YtmanlnlhpgdbpaaDoor
open Go.RowKit
attribute [local go_sem ↓] Go.wp_at_zero Go.wp_at_succ

noncomputable def attrOfL (d : RdnL) (l : List AttrV) (nm : ByteArray) : List ByteArray := if rightB d l = true then valsOf l nm else []
theorem attrOf_yes {d : RdnL} {l : List AttrV} (h : rightB d l = true) (nm : ByteArray) : attrOfL d l nm = valsOf l nm := by unfold attrOfL; rw [if_pos h]
theorem attrOf_no {d : RdnL} {l : List AttrV} (h : rightB d l = false) (nm : ByteArray) : attrOfL d l nm = [] := by unfold attrOfL; rw [h]; rfl
theorem attrOf_long {d : RdnL} {l : List AttrV} {nm : ByteArray} (h : 20 < nm.size) : attrOfL d l nm = [] := by
  unfold attrOfL
  split
  · rename_i hr
    cases ha : atN l nm with
    | none => exact (atN_none ha).2
    | some i =>
      obtain ⟨hi, h1, _⟩ := atN_some ha
      have := name_short hr (List.getElem_mem hi)
      rw [h1] at this; omega
  · rfl
theorem FitsV.nil : FitsV [] := ⟨by simp, fun s h => by simp at h⟩
theorem valsOf_fits {l : List AttrV} (h : FitsA l) (nm : ByteArray) : FitsV (valsOf l nm) := by
  cases ha : atN l nm with
  | none => rw [(atN_none ha).2]; exact .nil
  | some i =>
    obtain ⟨hi, _, h2, _⟩ := atN_some ha
    rw [h2]; exact (h.at hi).2
/-- new texts are returned -/
def GivesV (w : World) (V : List ByteArray) (e : Ending) (w' : World) : Prop := (∃ v, e = .returned v ∧ w'.ownsRow w.heap.size 9 1 v V.length (ss V)) ∧ Below w.heap.size w w'
theorem own_none (w : World) (B : Nat) : w.ownsRow B 9 1 (.slice none 0 0) 0 (ss []) := ⟨rfl, .inl ⟨rfl, rfl⟩⟩
theorem ss_one (l : List ByteArray) : ∀ u ∈ ss l, u.oneCell' = true := by
  intro u hu
  unfold ss at hu
  obtain ⟨s, _, rfl⟩ := List.mem_map.1 hu
  rfl
theorem ss_append (a b : List ByteArray) : ss (a ++ b) = ss a ++ ss b := by unfold ss; rw [List.map_append]
theorem strs_cells {w : World} {b off : Nat} {d : List ByteArray} (h : StrsAt w (some ⟨b, off, none⟩) d) : ∀ j u, (ss d)[j]? = some u → w.cell? ((⟨b, off, none⟩ : Addr).add j) = some u := by
  intro j u hu
  have ea : (⟨b, off, none⟩ : Addr).add j = ⟨b, off + j, none⟩ := by unfold Addr.add; split <;> simp_all
  rw [ea]
  unfold ss at hu
  rw [List.getElem?_map] at hu
  by_cases hj : j < d.length
  · rw [List.getElem?_eq_getElem hj] at hu
    obtain ⟨b', off', e, _, c⟩ := h.at hj
    cases e
    rw [c, ← hu]; rfl
  · rw [List.getElem?_eq_none (by omega)] at hu; cases hu
/-- append(v, texts...) onto a row that the call owns -/
theorem append_strs {ops : Array Oper} {rest : List Oper} {o : Oper} {a : Act} {Q : Exit → Act → World → Prop} {w0 wr : World} (B : Nat) (hgd : o.guard = none) (s x : Operand)
    (ho : o.op = .call { callee := .builtin .append, args := #[s, x], argTypes := #[29, 29] }) (v : Value) (pre : List ByteArray) (hs : a.eval s = v) (hown : wr.ownsRow B 9 1 v pre.length (ss pre))
    (ao : Option Addr) (d : List ByteArray) (c n : Nat) (hn : n = d.length) (hx : a.eval x = .slice ao n c) (hd : StrsAt wr ao d) (hc : ao = none → c = 0) (hlen : pre.length + d.length ≤ 1000000000) (hB : B ≤ wr.heap.size) (hbel : Below B w0 wr)
    (h : ∀ v' w', w'.ownsRow B 9 1 v' (pre ++ d).length (ss (pre ++ d)) → Below B w0 w' → wpList Tryd.prog ops Q rest (a.put o.dst v') w') :
    wpList Tryd.prog ops Q (o :: rest) a wr := by
  obtain ⟨i0, hi, hz0, hz1, hz2⟩ := info_parts Tryd.info9
  subst hn
  rcases ao with _ | ad
  · have hd0 : d = [] := by
      rcases hd with h | ⟨b, off, e, _⟩
      · exact h
      · cases e
    subst hd0
    have := hc rfl
    subst this
    refine wpList_append_own_none hgd s x 29 ho B 9 i0 1 Tryd.underlying29 hi v pre.length (ss pre) hs hown hx (h v wr (by rw [List.append_nil]; exact hown) hbel)
  · have hnews : ∀ j u, (ss d)[j]? = some u → wr.cell? (ad.add j) = some u := by
      rcases hd with hd | ⟨b, off, e, h2, h3⟩
      · subst hd; intro j u hu; simp [ss] at hu
      · cases e; exact strs_cells (.inr ⟨b, off, rfl, h2, h3⟩)
    refine wpList_append_own _ hgd s x 29 ho B 9 i0 _ 1 16 Tryd.underlying29 hi hz0 hz1 hz2 rfl (by decide) v pre.length (ss pre) hs hown ad d.length c (ss d) hx (by rw [ss_length]; omega) hnews (ss_one d) ?_ ?_ hB ?_
    · unfold maxLen; omega
    · omega
    · intro v' w' h1 h2 h3
      refine h v' w' ?_ (hbel.grown h2 hB (fun k hk => (hown.lt k hk).1))
      rw [ss_append, List.length_append]; exact h1
end Go.Proofs.YtmanlnlhpgdbpaaDoor
/- EntryRight: what the program returns. -/
namespace Go.Proofs.YtmanlnlhpgdbpaaDoor
open Go.RowKit
attribute [local go_sem ↓] Go.wp_at_zero Go.wp_at_succ

set_option maxHeartbeats 1000000 in
theorem compareNames_any (w0 : World) (A B u v : Value) (a b : ByteArray) (hA : A = .agg #[.string a, u]) (hB : B = .agg #[.string b, v]) (x y : AttrV) (hx : x.1 = a) (hy : y.1 = b) (w : World) (hu : ∃ o n c, u = .slice o n c) (hv : ∃ o n c, v = .slice o n c) (hBel : Below w0.heap.size w0 w) :
    Calls Tryd.prog 81 #[A, B] w fun e w' => (∃ c : Int, e = .returned (.int .i64 c) ∧ decide (0 ≤ c) = !(nameLt x y)) ∧ Below w0.heap.size w0 w' := by
  subst hA hB
  obtain ⟨uo, un, uc, rfl⟩ := hu
  obtain ⟨vo, vn, vc, rfl⟩ := hv
  have HC : Hid (decide (0 ≤ Lib.compareBytes a.data.toList b.data.toList) = !(nameLt x y)) := Lib.hid (by rw [compare_less]; unfold nameLt; rw [hx, hy, Lib.toList_data, Lib.toList_data])
  have HB := Lib.hid hBel; clear hBel hx hy
  go_enter Tryd.func81, Tryd.ntmps81
  go_wp2_with (first
    | (go_at_call 77; refine (Tryd.strings_Compare _ _ _).mono ?_; rintro e w3 ⟨rfl, rfl⟩)
    | (fail "none"))
  go_ret
  exact ⟨⟨_, rfl, HC.out⟩, more (more HB.out _) _⟩
set_option maxRecDepth 100000 in
set_option maxHeartbeats 1000000 in
theorem incAttr_any (ao : Option Addr) (l : List AttrV) (cap : Nat) (w : World) (hd : AttrsAt w ao l) (hl : l.length ≤ 1048576) :
    Calls Tryd.prog 80 #[.slice ao l.length cap, .func (.func 81) #[] #[]] w fun e w' => e = .returned (.bool (incB nameLt l)) ∧ Below w.heap.size w w' := by
  have HD := Lib.hid hd; clear hd
  go_enter Tryd.func80, Tryd.ntmps80
  go_wp2
  go_loopw [5] (fun i wr => ∃ m : Nat, m ≤ l.length ∧ i = .int .i64 ((m : Int) + 1) ∧ (∀ j (h : j + 1 < l.length), j < m → nameLt l[j] l[j + 1] = true) ∧ Below w.heap.size w wr) (fun i _ => l.length + 1 - (intOf i).toNat)
  case atStart => exact ⟨0, Nat.zero_le _, rfl, fun j _ h => absurd h (Nat.not_lt_zero _), Below.refl _ _⟩
  case round =>
    obtain ⟨m, hm, rfl, ha, hbel⟩ := hrel
    have Ha := Lib.hid ha; clear ha
    have hsz := hbel.size
    by_cases hlt : m + 1 < l.length
    · have hm0 : m < l.length := by omega
      obtain ⟨b, off, uo, uc, rfl, hw0, hd1, hd2, _⟩ := HD.out.at hm0
      obtain ⟨b', off', vo, vc, e, _, hd3, hd4, _⟩ := HD.out.at hlt
      cases e
      have g1 : (m : Int) + 1 < (l.length : Int) := by omega
      have g2 : (0 : Int) ≤ (m : Int) := by omega
      have g3 : (m : Int) < (l.length : Int) := by omega
      have g4 : (0 : Int) ≤ (m : Int) + 1 := by omega
      have HN : Hid (∀ j (h : j + 1 < l.length), j < m + 1 → nameLt l[m] l[m + 1] = true → nameLt l[j] l[j + 1] = true) := Lib.hid (fun j h hj hn => by
        by_cases e : j = m
        · subst e; exact hn
        · exact Ha.out j h (by omega))
      have HX : Hid (nameLt l[m] l[m + 1] = false → incB nameLt l = false) := Lib.hid (fun h => incB_no hlt h)
      generalize hx : l[m] = X at *
      generalize hy : l[m + 1] = Y at *
      clear hx hy
      obtain ⟨xa, xv⟩ := X
      obtain ⟨ya, yv⟩ := Y
      have SK : Hid (∀ W : World, Below w.heap.size w W → (Below w.heap.size w W ∧ W.cell? ⟨b, off + m * 2, none⟩ = some (.string xa) ∧ W.cell? ⟨b, off + m * 2 + 1, none⟩ = some (.slice uo xv.length uc) ∧ W.cell? ⟨b, off + (m + 1) * 2, none⟩ = some (.string ya) ∧ W.cell? ⟨b, off + (m + 1) * 2 + 1, none⟩ = some (.slice vo yv.length vc))) :=
        Lib.hid (fun W h => ⟨h, (h.cell (p := ⟨b, _, none⟩) hw0).trans hd1, (h.cell (p := ⟨b, _, none⟩) hw0).trans hd2, (h.cell (p := ⟨b, _, none⟩) hw0).trans hd3, (h.cell (p := ⟨b, _, none⟩) hw0).trans hd4⟩)
      have hbd := hbel.drew
      have hwr : IntKind.i64.wrap (m : Int) = (m : Int) := IntWalk.i64_in _ (by omega)
      have hwr2 : IntKind.i64.wrap ((m : Int) + 1 - 1) = (m : Int) := by rw [Int.add_sub_cancel]; exact hwr
      clear hd1 hd2 hd3 hd4
      cases hn : nameLt (xa, xv) (ya, yv)
      · have HX' := Lib.hid (HX.out hn)
        go_wp2_with fail
        go_region_held3 (fun W => Below w.heap.size w W ∧ W.cell? ⟨b, off + m * 2, none⟩ = some (.string xa) ∧ W.cell? ⟨b, off + m * 2 + 1, none⟩ = some (.slice uo xv.length uc) ∧ W.cell? ⟨b, off + (m + 1) * 2, none⟩ = some (.string ya) ∧ W.cell? ⟨b, off + (m + 1) * 2 + 1, none⟩ = some (.slice vo yv.length vc))
          (exact SK.out _ (by assumption))
          (first | (go_at_call 81; refine (compareNames_any w _ _ _ _ xa ya rfl rfl (xa, xv) (ya, yv) rfl rfl _ ⟨_, _, _, rfl⟩ ⟨_, _, _, rfl⟩ (by assumption)).mono ?_; rintro e w1 ⟨⟨c, rfl, hc⟩, hb1⟩; rw [hn] at hc; have hc0 : 0 ≤ c := (by simpa using hc); clear hc) | (fail "none"))
        all_goals
          go_wp2
          go_ret
          exact ⟨ret_bool (by rw [HX'.out]), hb1⟩
      · go_wp2_with fail
        go_region_held3 (fun W => Below w.heap.size w W ∧ W.cell? ⟨b, off + m * 2, none⟩ = some (.string xa) ∧ W.cell? ⟨b, off + m * 2 + 1, none⟩ = some (.slice uo xv.length uc) ∧ W.cell? ⟨b, off + (m + 1) * 2, none⟩ = some (.string ya) ∧ W.cell? ⟨b, off + (m + 1) * 2 + 1, none⟩ = some (.slice vo yv.length vc))
          (exact SK.out _ (by assumption))
          (first | (go_at_call 81; refine (compareNames_any w _ _ _ _ xa ya rfl rfl (xa, xv) (ya, yv) rfl rfl _ ⟨_, _, _, rfl⟩ ⟨_, _, _, rfl⟩ (by assumption)).mono ?_; rintro e w1 ⟨⟨c, rfl, hc⟩, hb1⟩; rw [hn] at hc; have hc0 : ¬ 0 ≤ c := (by simpa using hc); clear hc) | (fail "none"))
        all_goals
          go_wp2
          go_roundw
          case rel => exact ⟨m + 1, by omega, by go_num, fun j h hj => HN.out j h hj hn, hb1⟩
          case measure => simp [intOf]; omega
    · have HT : Hid (incB nameLt l = true) := Lib.hid (incB_yes fun j h => Ha.out j h (by omega))
      have g1 : ¬ (m : Int) + 1 < (l.length : Int) := by omega
      go_wp2
      go_ret
      exact ⟨ret_bool (by rw [HT.out]), hbel⟩
theorem attrsB_long {l : List AttrV} (h : 8 < l.length) : attrsB l = false := by unfold attrsB; simp [show ¬ l.length ≤ 8 by omega]
theorem attrsB_short {l : List AttrV} (h : l.length ≤ 8) : attrsB l = (l.all attrB && incB nameLt l) := by unfold attrsB; simp [h]
theorem FitsA.max {l : List AttrV} (h : FitsA l) {k : Nat} (hk : k < l.length) : l[k].1.size ≤ maxLen := by have := (h.at hk).1; unfold maxLen; omega
set_option maxRecDepth 100000 in
set_option maxHeartbeats 1000000 in
theorem attrsRight_any (ao : Option Addr) (l : List AttrV) (cap : Nat) (w : World) (hd : AttrsAt w ao l) (hf : FitsA l) :
    Calls Tryd.prog 68 #[.slice ao l.length cap] w fun e w' => e = .returned (.bool (attrsB l)) ∧ Below w.heap.size w w' := by
  have hl := hf.1
  have HD := Lib.hid hd; have HF := Lib.hid hf; clear hd hf
  by_cases h8 : 8 < l.length
  · have HV := Lib.hid (attrsB_long h8)
    have g8 : 8 < (l.length : Int) := by omega
    go_enter Tryd.func68, Tryd.ntmps68
    go_wp2
    go_ret
    exact ⟨ret_bool HV.out.symm, Below.refl _ _⟩
  · have HV := Lib.hid (attrsB_short (l := l) (by omega))
    have g8 : ¬ 8 < (l.length : Int) := by omega
    go_enter Tryd.func68, Tryd.ntmps68
    go_wp2
    go_loopw [10] (fun i wr => ∃ k : Nat, k ≤ l.length ∧ i = .int .i64 k ∧ (l.take k).all attrB = true ∧ Below w.heap.size w wr) (fun i _ => l.length - (intOf i).toNat)
    case atStart => exact ⟨0, Nat.zero_le _, rfl, rfl, Below.refl _ _⟩
    case round =>
      obtain ⟨k, hk, rfl, ha, hbel⟩ := hrel
      have Ha := Lib.hid ha; clear ha
      have hsz := hbel.size
      by_cases hlt : k < l.length
      · obtain ⟨b, off, vo, vc, rfl, hb0, hc1, hc2, hv⟩ := (HD.out.below hbel).at hlt
        have HVv := Lib.hid hv.1; clear hv
        have hz := HF.out.max hlt
        have HZ := Lib.hid (HF.out.at hlt).2
        generalize hr : attrB l[k] = r at *
        have HR := Lib.hid hr
        have HE : Hid (attrB (l[k].1, l[k].2) = r) := Lib.hid hr
        have HT : Hid (r = true → (l.take (k + 1)).all attrB = true) := Lib.hid (fun h => by rw [all_take attrB l k hlt, Ha.out, hr, h]; rfl)
        have HX : Hid (r = false → l.all attrB = false) := Lib.hid (fun h => all_bad attrB l k hlt (hr.trans h))
        clear hr HR
        generalize l[k].1 = A at *
        generalize l[k].2 = V at *
        cases r
        · have HX' := Lib.hid (HX.out rfl)
          go_wp2_with fail
          have hb1 := more hbel (.cells #[.string A, .slice vo V.length vc] 83)
          refine (attrRight_any A vo V vc _ hz (HVv.out.below (more (Below.refl _ _) _)) HZ.out).mono ?_
          rintro e w2 ⟨rfl, hb2⟩
          have B2 := Lib.hid (hb1.trans (hb2.mono hb1.size))
          rw [HE.out]
          clear hb1 hb2
          go_wp2
          go_ret
          exact ⟨ret_bool (by rw [HV.out, HX'.out]; rfl), B2.out⟩
        · have HT' := Lib.hid (HT.out rfl)
          go_wp2_with fail
          have hb1 := more hbel (.cells #[.string A, .slice vo V.length vc] 83)
          refine (attrRight_any A vo V vc _ hz (HVv.out.below (more (Below.refl _ _) _)) HZ.out).mono ?_
          rintro e w2 ⟨rfl, hb2⟩
          have B2 := Lib.hid (hb1.trans (hb2.mono hb1.size))
          rw [HE.out]
          clear hb1 hb2
          go_wp2
          go_roundw
          case rel => exact ⟨k + 1, by omega, by go_num, HT'.out, B2.out⟩
          case measure => simp [intOf]; omega
      · have e : l.take k = l := List.take_of_length_le (by omega)
        have HT : Hid (l.all attrB = true) := Lib.hid (by rw [← e]; exact Ha.out)
        clear e
        go_wp2_with fail
        refine (incAttr_any ao l cap wr (HD.out.below hbel) hl).mono ?_
        rintro e w2 ⟨rfl, hb2⟩
        have B2 := Lib.hid (hbel.trans (hb2.mono hsz))
        clear hb2
        go_wp2
        go_ret
        exact ⟨ret_bool (by rw [HV.out, HT.out]; simp), B2.out⟩
theorem rightB_eq (d : RdnL) (l : List AttrV) : rightB d l = (dnB d && decide (0 < d.length) && attrsB l) := rfl
set_option maxRecDepth 100000 in
set_option maxHeartbeats 1000000 in
theorem EntryRight_any (ao bo : Option Addr) (d : RdnL) (l : List AttrV) (ca cb : Nat) (w : World) (hd : DnAt w ao d) (hl : AttrsAt w bo l) (hfd : Fits d) (hfl : FitsA l) :
    Calls Tryd.prog 49 #[.agg #[.slice ao d.length ca, .slice bo l.length cb]] w fun e w' => e = .returned (.bool (rightB d l)) ∧ Below w.heap.size w w' := by
  have hdl := hfd.1
  have HD := Lib.hid hd; have HL := Lib.hid hl; have FD := Lib.hid hfd; have FL := Lib.hid hfl; clear hd hl hfd hfl
  have HB0 : Hid (Below w.heap.size w (w.alloc (.cells #[.slice ao d.length ca, .slice bo l.length cb] 36))) := Lib.hid (more (Below.refl _ _) _)
  have HE := Lib.hid (rightB_eq d l)
  go_enter Tryd.func49, Tryd.ntmps49
  go_wp2_with fail
  refine (DnRight_any ao d ca _ (HD.out.below HB0.out) FD.out).mono ?_
  rintro e w1 ⟨rfl, hb1⟩
  have B1 := Lib.hid (HB0.out.trans (hb1.mono HB0.out.size))
  have c0 : w1.cell? ⟨w.heap.size, 0, none⟩ = some (.slice ao d.length ca) := (hb1.cell (p := ⟨w.heap.size, 0, none⟩) (by simp)).trans (by unfold World.cell?; rw [heap_alloc_new]; rfl)
  have c1 : w1.cell? ⟨w.heap.size, 1, none⟩ = some (.slice bo l.length cb) := (hb1.cell (p := ⟨w.heap.size, 1, none⟩) (by simp)).trans (by unfold World.cell?; rw [heap_alloc_new]; rfl)
  clear hb1
  cases hr : dnB d
  · rw [hr] at HE
    go_wp2
    go_ret
    exact ⟨ret_bool (by rw [HE.out]; rfl), B1.out⟩
  · rw [hr] at HE
    by_cases h0 : 0 < d.length
    · have g0 : (0 : Int) < (d.length : Int) := by omega
      go_wp2_with fail
      refine (attrsRight_any bo l cb w1 (HL.out.below B1.out) FL.out).mono ?_
      rintro e w2 ⟨rfl, hb2⟩
      have B2 := Lib.hid (B1.out.trans (hb2.mono B1.out.size))
      clear hb2
      go_wp2
      go_ret
      exact ⟨ret_bool (by rw [HE.out]; simp [h0]), B2.out⟩
    · have g0 : ¬ (0 : Int) < (d.length : Int) := by omega
      go_wp2
      go_ret
      exact ⟨ret_bool (by rw [HE.out]; simp [h0]), B1.out⟩
end Go.Proofs.YtmanlnlhpgdbpaaDoor
/- AttrOf: what the program returns. -/
namespace Go.Proofs.YtmanlnlhpgdbpaaDoor
open Go.RowKit
attribute [local go_sem ↓] Go.wp_at_zero Go.wp_at_succ

set_option maxRecDepth 100000 in
set_option maxHeartbeats 1000000 in
theorem attrsByName_any (bo : Option Addr) (l : List AttrV) (cb : Nat) (w : World) (hd : AttrsAt w bo l) (hf : FitsA l) :
    Calls Tryd.prog 69 #[.slice bo l.length cb] w fun e w' => e = .returned (.map (some w.heap.size)) ∧ (∃ ps, AttrVals w l ps ∧ w'.ownsMap Tryd.prog 9 valR w.heap.size l.length (mapOf ps)) ∧ Below w.heap.size w w' := by
  have hl := hf.1
  have HD := Lib.hid hd; have HF := Lib.hid hf; clear hd hf
  have hmm := @run_makeMap Tryd.prog
  go_enter Tryd.func69, Tryd.ntmps69
  go_wp2_with fail
  go_loopw [9] (fun i wr => ∃ k : Nat, k ≤ l.length ∧ i = .int .i64 k ∧ (∃ ps, AttrVals w (l.take k) ps ∧ wr.ownsMap Tryd.prog 9 valR w.heap.size k (mapOf ps)) ∧ Below w.heap.size w wr) (fun i _ => l.length - (intOf i).toNat)
  case atStart => exact ⟨0, Nat.zero_le _, rfl, ⟨[], ⟨rfl, fun i h => by simp at h⟩, World.ownsMap_made _ _ _ _⟩, more (Below.refl _ _) _⟩
  case round =>
    obtain ⟨k, hk, rfl, ⟨ps, hps, hown⟩, hbel⟩ := hrel
    have HP := Lib.hid hps; clear hps
    have hsz := hbel.size
    by_cases hlt : k < l.length
    · obtain ⟨p, off, vo, vc, rfl, hp0, hd1, hd2, hv⟩ := HD.out.at hlt
      have c1 := (hbel.cell (p := ⟨p, off + k * 2, none⟩) hp0).trans hd1
      have c2 := (hbel.cell (p := ⟨p, off + k * 2 + 1, none⟩) hp0).trans hd2
      have hp1 : p < wr.heap.size := Nat.lt_of_lt_of_le hp0 hsz
      have hz := HF.out.max hlt
      have HN := Lib.hid (HP.out.snoc l[k] vo vc hv)
      rw [← take_snoc' l k hlt] at HN
      have g1 : (0 : Int) ≤ (k : Int) := by omega
      have g2 : (k : Int) < (l.length : Int) := by omega
      clear hd1 hd2 hv
      generalize l[k].1 = A at *
      generalize l[k].2 = V at *
      have hkey := Go.WideMaps.keyOf_string_mk Tryd.underlying9 (s := A) hz
      have HO := Lib.hid (hown.alloc (.cells #[.string A, .slice vo V.length vc] 83))
      have HB := Lib.hid (more hbel (.cells #[.string A, .slice vo V.length vc] 83))
      clear hown hbel
      go_wp2_with (first
        | (at_mapUpdate; refine wpList_mapUpdate_own _ rfl _ _ _ 102 rfl 9 83 Tryd.keyed9 Tryd.underlying102 valR w.heap.size k (mapOf ps) rfl HO.out (by unfold maxLen; omega) _ _ _ rfl rfl hkey (.held (.agg #[.string A, .slice vo V.length vc])) [] rfl ?_; intro w4 hown4 hgrow4)
        | (fail "none"))
      go_roundw
      case rel => exact ⟨k + 1, by omega, by go_num, ⟨_, HN.out, by rw [mapOf_snoc]; exact hown4⟩, HB.out.grown hgrow4 HB.out.size (fun j hj => by cases hj; exact Nat.le_refl _)⟩
      case measure => simp [intOf]; omega
    · obtain rfl : k = l.length := by omega
      rw [List.take_length] at HP
      go_wp2
      go_ret
      exact ⟨rfl, ⟨ps, HP.out, hown⟩, hbel⟩
theorem zeroAttr_run (w : World) : (zeroValue 83).run Tryd.prog w = .ok (.agg #[.string ByteArray.empty, .slice none 0 0]) w := by kernel_rfl
theorem fieldAttr1 (s : ByteArray) (v : Value) (w : World) : (Instr.field 83 (.agg #[.string s, v]) 1).run Tryd.prog w = .ok v w := by kernel_rfl
set_option maxRecDepth 100000 in
set_option maxHeartbeats 1000000 in
theorem AttrOf_any (ao bo : Option Addr) (d : RdnL) (l : List AttrV) (ca cb : Nat) (nm : ByteArray) (w : World) (hd : DnAt w ao d) (hl : AttrsAt w bo l) (hfd : Fits d) (hfl : FitsA l) (hn : nm.size ≤ maxLen) :
    Calls Tryd.prog 50 #[.agg #[.slice ao d.length ca, .slice bo l.length cb], .string nm] w (GivesV w (attrOfL d l nm)) := by
  have HD := Lib.hid hd; have HL := Lib.hid hl; have FD := Lib.hid hfd; have FL := Lib.hid hfl; clear hd hl hfd hfl
  go_enter Tryd.func50, Tryd.ntmps50
  go_wp2_with fail
  refine calls_by (fun W => Below w.heap.size w W ∧ Blk W w.heap.size [.slice ao d.length ca, .slice bo l.length cb]) ⟨more' (Below.refl _ _) _, Blk.new _ _ _⟩ ?_
  rintro W ⟨hbW, t0⟩
  refine (EntryRight_any ao bo d l ca cb W (HD.out.below hbW) (HL.out.below hbW) FD.out FL.out).mono ?_
  rintro e w1 ⟨rfl, hb1⟩
  have B1 := Lib.hid (hbW.trans (hb1.mono hbW.size)); have T1 := Lib.hid (t0.below hb1)
  clear hbW t0 hb1
  have c0 := T1.out.cell 0 rfl; have c1 := T1.out.cell 1 rfl
  cases hr : rightB d l
  · have HE := Lib.hid (attrOf_no hr nm)
    go_wp2
    go_ret
    exact ⟨⟨_, rfl, by rw [HE.out]; exact own_none _ _⟩, B1.out⟩
  · have HE := Lib.hid (attrOf_yes hr nm)
    have HR := Lib.hid hr
    clear hr
    go_wp2_with fail
    refine (attrsByName_any bo l cb w1 (HL.out.below B1.out) FL.out).mono ?_
    rintro e w2 ⟨rfl, ⟨ps, hps, hown⟩, hb2⟩
    obtain ⟨x, vo, vc, hat, hvs⟩ := map_at hps HR.out nm
    obtain ⟨v, pl, hrun, hv⟩ := hown.lookup (t := 102) (e := 83) Tryd.keyed9 Tryd.underlying102 (zeroAttr_run w2) (zd := .held (.agg #[.string ByteArray.empty, .slice none 0 0])) (zp := []) rfl (Go.WideMaps.keyOf_string_mk Tryd.underlying9 (s := nm) hn)
    rw [hat] at hv
    have hv' : v = .agg #[.string x, .slice vo (valsOf l nm).length vc] := by
      unfold valR at hv; injection hv with hv; injection hv with hv _; injection hv
    subst hv'
    have HV := Lib.hid (hvs.1.below hb2)
    have FV := Lib.hid (valsOf_fits FL.out nm)
    have B2 := Lib.hid (B1.out.trans (hb2.mono B1.out.size))
    clear hv hat hvs hown hps hb2 c0 c1
    have hfd := fieldAttr1 x (.slice vo (valsOf l nm).length vc)
    go_wp2_with fail
    refine (copyTexts_any vo (valsOf l nm) vc w2 HV.out FV.out).mono ?_
    rintro e w3 ⟨⟨v3, rfl, hown3⟩, hb3⟩
    have O3 := Lib.hid (own_mono hown3 B2.out.size)
    clear hown3
    go_wp2
    go_ret
    exact ⟨⟨_, rfl, by rw [HE.out]; exact O3.out⟩, B2.out.trans (hb3.mono B2.out.size)⟩
end Go.Proofs.YtmanlnlhpgdbpaaDoor
/- Classes: a name and three lists of names, and where they lie. -/
namespace Go.Proofs.YtmanlnlhpgdbpaaDoor
open Go.RowKit

structure ClassV where
  nm : ByteArray
  must : List ByteArray
  may : List ByteArray
  one : List ByteArray
/-- a slice's value that holds texts -/
def SlV (w : World) (v : Value) (l : List ByteArray) : Prop := ∃ vo vc, v = .slice vo l.length vc ∧ ValsAt w vo vc l
theorem SlV.below {w w' : World} {v : Value} {l : List ByteArray} (h : SlV w v l) (hb : Below w.heap.size w w') : SlV w' v l := by
  obtain ⟨vo, vc, h1, h2⟩ := h
  exact ⟨vo, vc, h1, h2.below hb⟩
/-- the four cells of a class -/
structure ClsAt (w : World) (b off : Nat) (c : ClassV) (v1 v2 v3 : Value) : Prop where
  c0 : w.cell? ⟨b, off, none⟩ = some (.string c.nm)
  c1 : w.cell? ⟨b, off + 1, none⟩ = some v1
  c2 : w.cell? ⟨b, off + 2, none⟩ = some v2
  c3 : w.cell? ⟨b, off + 3, none⟩ = some v3
  s1 : SlV w v1 c.must
  s2 : SlV w v2 c.may
  s3 : SlV w v3 c.one
theorem ClsAt.below {w w' : World} {b off : Nat} {c : ClassV} {v1 v2 v3 : Value} (h : ClsAt w b off c v1 v2 v3) (hl : b < w.heap.size) (hb : Below w.heap.size w w') : ClsAt w' b off c v1 v2 v3 :=
  ⟨(hb.cell (p := ⟨b, off, none⟩) hl).trans h.c0, (hb.cell (p := ⟨b, off + 1, none⟩) hl).trans h.c1, (hb.cell (p := ⟨b, off + 2, none⟩) hl).trans h.c2, (hb.cell (p := ⟨b, off + 3, none⟩) hl).trans h.c3, h.s1.below hb, h.s2.below hb, h.s3.below hb⟩
/-- classes lie behind a slice -/
def ClassesAt (w : World) (ao : Option Addr) (l : List ClassV) : Prop :=
  l = [] ∨ ∃ b off, ao = some ⟨b, off, none⟩ ∧ b < w.heap.size ∧ ∀ i (h : i < l.length), ∃ v1 v2 v3, ClsAt w b (off + i * 4) l[i] v1 v2 v3
theorem ClassesAt.below {w w' : World} {ao : Option Addr} {l : List ClassV} (h : ClassesAt w ao l) (hb : Below w.heap.size w w') : ClassesAt w' ao l := by
  rcases h with h | ⟨b, off, h1, h2, h3⟩
  · exact .inl h
  · refine .inr ⟨b, off, h1, Nat.lt_of_lt_of_le h2 hb.size, fun i hi => ?_⟩
    obtain ⟨v1, v2, v3, g⟩ := h3 i hi
    exact ⟨v1, v2, v3, g.below h2 hb⟩
theorem ClassesAt.at {w : World} {ao : Option Addr} {l : List ClassV} (h : ClassesAt w ao l) {k : Nat} (hk : k < l.length) :
    ∃ b off v1 v2 v3, ao = some ⟨b, off, none⟩ ∧ b < w.heap.size ∧ ClsAt w b (off + k * 4) l[k] v1 v2 v3 := by
  rcases h with h | ⟨b, off, h1, h2, h3⟩
  · subst h; simp at hk
  · obtain ⟨v1, v2, v3, g⟩ := h3 k hk
    exact ⟨b, off, v1, v2, v3, h1, h2, g⟩
def LongC (l : List ClassV) : Prop := l.length ≤ 9223372036854775807 ∧ ∀ c ∈ l, c.nm.size ≤ maxLen ∧ LongV c.must ∧ LongV c.may ∧ LongV c.one
structure FitsC1 (c : ClassV) : Prop where
  nm : c.nm.size ≤ 1048576
  must : FitsV c.must
  may : FitsV c.may
  one : FitsV c.one
def FitsC (l : List ClassV) : Prop := l.length ≤ 1048576 ∧ ∀ c ∈ l, FitsC1 c
theorem FitsC.at {l : List ClassV} (h : FitsC l) {k : Nat} (hk : k < l.length) : FitsC1 l[k] := h.2 _ (List.getElem_mem hk)
def szV (l : List ByteArray) : Nat := l.length + sizeV l
def sizeC (c : ClassV) : Nat := c.nm.size + (szV c.must + (szV c.may + szV c.one))
def sizeCs (l : List ClassV) : Nat := (l.map sizeC).sum
theorem sizeCs_take (d : List ClassV) (k : Nat) (h : k < d.length) : sizeCs (d.take (k + 1)) = sizeCs (d.take k) + sizeC d[k] := by
  unfold sizeCs; rw [List.take_succ_eq_append_getElem h, List.map_append, List.sum_append]; simp
theorem sizeCs_le (d : List ClassV) (k : Nat) : sizeCs (d.take k) ≤ sizeCs d := by
  have h := List.take_append_drop k d
  have : sizeCs d = sizeCs (d.take k) + sizeCs (d.drop k) := by
    unfold sizeCs; rw [← List.sum_append, ← List.map_append, h]
  omega
theorem sizeCs_mem {l : List ClassV} {a : ClassV} (h : a ∈ l) : sizeC a ≤ sizeCs l := sum_mem (List.mem_map_of_mem h)
theorem fitsC_of {l : List ClassV} (h : l.length + sizeCs l ≤ 1048576) : FitsC l :=
  ⟨by omega, fun a ha => by
    have := sizeCs_mem ha
    unfold sizeC szV at this
    exact ⟨by omega, fitsV_of (by omega), fitsV_of (by omega), fitsV_of (by omega)⟩⟩
end Go.Proofs.YtmanlnlhpgdbpaaDoor
/- SchemaRight: names in order. -/
namespace Go.Proofs.YtmanlnlhpgdbpaaDoor
open Go.RowKit
attribute [local go_sem ↓] Go.wp_at_zero Go.wp_at_succ

def strLt (x y : ByteArray) : Bool := Op.bytesLess x.toList y.toList
noncomputable def namesB (l : List ByteArray) : Bool := l.all nmL && incB strLt l
theorem compare_any (w0 : World) (a b : ByteArray) (w : World) (hB : Below w0.heap.size w0 w) :
    Calls Tryd.prog 77 #[.string a, .string b] w fun e w' => (∃ c : Int, e = .returned (.int .i64 c) ∧ decide (0 ≤ c) = !(strLt a b)) ∧ Below w0.heap.size w0 w' := by
  refine (Tryd.strings_Compare a b w).mono ?_
  rintro e w' ⟨rfl, rfl⟩
  exact ⟨⟨_, rfl, by rw [compare_less]; unfold strLt; rw [Lib.toList_data, Lib.toList_data]⟩, hB⟩
set_option maxRecDepth 100000 in
set_option maxHeartbeats 1000000 in
theorem incName_any (ao : Option Addr) (l : List ByteArray) (cap : Nat) (w : World) (hd : StrsAt w ao l) (hf : FitsV l) :
    Calls Tryd.prog 91 #[.slice ao l.length cap, .func (.func 77) #[] #[]] w fun e w' => e = .returned (.bool (incB strLt l)) ∧ Below w.heap.size w w' := by
  have hl := hf.1
  have HD := Lib.hid hd; have HF := Lib.hid hf; clear hd hf
  go_enter Tryd.func91, Tryd.ntmps91
  go_wp2
  go_loopw [5] (fun i wr => ∃ m : Nat, m ≤ l.length ∧ i = .int .i64 ((m : Int) + 1) ∧ (∀ j (h : j + 1 < l.length), j < m → strLt l[j] l[j + 1] = true) ∧ Below w.heap.size w wr) (fun i _ => l.length + 1 - (intOf i).toNat)
  case atStart => exact ⟨0, Nat.zero_le _, rfl, fun j _ h => absurd h (Nat.not_lt_zero _), Below.refl _ _⟩
  case round =>
    obtain ⟨m, hm, rfl, ha, hbel⟩ := hrel
    have Ha := Lib.hid ha; clear ha
    have hsz := hbel.size
    by_cases hlt : m + 1 < l.length
    · have hm0 : m < l.length := by omega
      obtain ⟨b, off, rfl, hw0, hd1⟩ := HD.out.at hm0
      obtain ⟨b', off', e, _, hd2⟩ := HD.out.at hlt
      cases e
      have hc1 := (hbel.cell (p := ⟨b, off + m, none⟩) hw0).trans hd1
      have hc2 := (hbel.cell (p := ⟨b, off + (m + 1), none⟩) hw0).trans hd2
      have hz1 := HF.out.max hm0
      have hz2 := HF.out.max hlt
      have g1 : (m : Int) + 1 < (l.length : Int) := by omega
      have g2 : (0 : Int) ≤ (m : Int) := by omega
      have g3 : (m : Int) < (l.length : Int) := by omega
      have g4 : (0 : Int) ≤ (m : Int) + 1 := by omega
      have HN : Hid (∀ j (h : j + 1 < l.length), j < m + 1 → strLt l[m] l[m + 1] = true → strLt l[j] l[j + 1] = true) := Lib.hid (fun j h hj hn => by
        by_cases e : j = m
        · subst e; exact hn
        · exact Ha.out j h (by omega))
      have HX : Hid (strLt l[m] l[m + 1] = false → incB strLt l = false) := Lib.hid (fun h => incB_no hlt h)
      generalize hx : l[m] = X at *
      generalize hy : l[m + 1] = Y at *
      clear hx hy
      have SK : Hid (∀ W : World, Below w.heap.size w W → (Below w.heap.size w W ∧ W.cell? ⟨b, off + m, none⟩ = some (.string X) ∧ W.cell? ⟨b, off + (m + 1), none⟩ = some (.string Y))) :=
        Lib.hid (fun W h => ⟨h, (h.cell (p := ⟨b, _, none⟩) hw0).trans hd1, (h.cell (p := ⟨b, _, none⟩) hw0).trans hd2⟩)
      have hbd := hbel.drew
      have hwr : IntKind.i64.wrap (m : Int) = (m : Int) := IntWalk.i64_in _ (by omega)
      have hwr2 : IntKind.i64.wrap ((m : Int) + 1 - 1) = (m : Int) := by rw [Int.add_sub_cancel]; exact hwr
      clear hc1 hc2 hd1 hd2
      cases hn : strLt X Y
      · have HX' := Lib.hid (HX.out hn)
        go_wp2_with fail
        go_region_held3 (fun W => Below w.heap.size w W ∧ W.cell? ⟨b, off + m, none⟩ = some (.string X) ∧ W.cell? ⟨b, off + (m + 1), none⟩ = some (.string Y))
          (exact SK.out _ (by assumption))
          (first | (go_at_call 77; refine (compare_any w X Y _ (by assumption)).mono ?_; rintro e w1 ⟨⟨c, rfl, hc⟩, hb1⟩; rw [hn] at hc; have hc0 : 0 ≤ c := (by simpa using hc); clear hc) | (fail "none"))
        all_goals
          go_wp2
          go_ret
          exact ⟨ret_bool (by rw [HX'.out]), hb1⟩
      · go_wp2_with fail
        go_region_held3 (fun W => Below w.heap.size w W ∧ W.cell? ⟨b, off + m, none⟩ = some (.string X) ∧ W.cell? ⟨b, off + (m + 1), none⟩ = some (.string Y))
          (exact SK.out _ (by assumption))
          (first | (go_at_call 77; refine (compare_any w X Y _ (by assumption)).mono ?_; rintro e w1 ⟨⟨c, rfl, hc⟩, hb1⟩; rw [hn] at hc; have hc0 : ¬ 0 ≤ c := (by simpa using hc); clear hc) | (fail "none"))
        all_goals
          go_wp2
          go_roundw
          case rel => exact ⟨m + 1, by omega, by go_num, fun j h hj => HN.out j h hj hn, hb1⟩
          case measure => simp [intOf]; omega
    · have HT : Hid (incB strLt l = true) := Lib.hid (incB_yes fun j h => Ha.out j h (by omega))
      have g1 : ¬ (m : Int) + 1 < (l.length : Int) := by omega
      go_wp2
      go_ret
      exact ⟨ret_bool (by rw [HT.out]), hbel⟩
set_option maxRecDepth 100000 in
set_option maxHeartbeats 1000000 in
theorem areNames_any (ao : Option Addr) (l : List ByteArray) (cap : Nat) (w : World) (hd : StrsAt w ao l) (hf : FitsV l) :
    Calls Tryd.prog 86 #[.slice ao l.length cap] w fun e w' => e = .returned (.bool (namesB l)) ∧ Below w.heap.size w w' := by
  have hl := hf.1
  have HD := Lib.hid hd; have HF := Lib.hid hf; clear hd hf
  go_enter Tryd.func86, Tryd.ntmps86
  go_wp2
  go_loopw [7] (fun i wr => ∃ k : Nat, k ≤ l.length ∧ i = .int .i64 k ∧ (l.take k).all nmL = true ∧ Below w.heap.size w wr) (fun i _ => l.length - (intOf i).toNat)
  case atStart => exact ⟨0, Nat.zero_le _, rfl, rfl, Below.refl _ _⟩
  case round =>
    obtain ⟨k, hk, rfl, ha, hbel⟩ := hrel
    have Ha := Lib.hid ha; clear ha
    have hsz := hbel.size
    by_cases hlt : k < l.length
    · obtain ⟨b, off, rfl, hb0, hc1⟩ := (HD.out.below hbel).at hlt
      have hz := HF.out.max hlt
      generalize hr : nmL l[k] = r at *
      have HR := Lib.hid hr; clear hr
      cases r
      · have HX : Hid (namesB l = false) := Lib.hid (by unfold namesB; rw [all_bad nmL l k hlt HR.out]; rfl)
        go_wp2_with (first | (go_at_call 74; refine (NameRight_any _ _ hz).mono ?_; rintro e w1 ⟨rfl, rfl⟩; rw [HR.out]) | (fail "none"))
        go_ret
        exact ⟨ret_bool (by rw [HX.out]), hbel⟩
      · have HT : Hid ((l.take (k + 1)).all nmL = true) := Lib.hid (by rw [all_take nmL l k hlt, Ha.out, HR.out]; rfl)
        go_wp2_with (first | (go_at_call 74; refine (NameRight_any _ _ hz).mono ?_; rintro e w1 ⟨rfl, rfl⟩; rw [HR.out]) | (fail "none"))
        go_roundw
        case rel => exact ⟨k + 1, by omega, by go_num, HT.out, hbel⟩
        case measure => simp [intOf]; omega
    · have e : l.take k = l := List.take_of_length_le (by omega)
      have HT : Hid (namesB l = incB strLt l) := Lib.hid (by unfold namesB; rw [← e, Ha.out, e]; rfl)
      clear e
      go_wp2_with fail
      refine (incName_any ao l cap wr (HD.out.below hbel) HF.out).mono ?_
      rintro e w1 ⟨rfl, hb1⟩
      have B1 := Lib.hid (hbel.trans (hb1.mono hsz))
      generalize incB strLt l = r at *
      go_wp2
      go_ret
      exact ⟨ret_bool (by rw [HT.out]), B1.out⟩
noncomputable def names10 (l : List ByteArray) : Bool := decide (l.length ≤ 10) && namesB l
set_option maxHeartbeats 1000000 in
theorem classNames_any (w0 : World) (v : Value) (l : List ByteArray) (w : World) (hB : Below w0.heap.size w0 w) (hd : SlV w0 v l) (hf : FitsV l) :
    Calls Tryd.prog 75 #[v] w fun e w' => e = .returned (.bool (names10 l)) ∧ Below w.heap.size w w' := by
  obtain ⟨ao, cap, rfl, hd⟩ := hd
  have HD := Lib.hid (hd.1.below hB); have HF := Lib.hid hf
  have hl := hf.1
  clear hd hf hB
  have HE : Hid (names10 l = (decide (l.length ≤ 10) && namesB l)) := Lib.hid rfl
  by_cases h : l.length ≤ 10
  · have g : (l.length : Int) ≤ 10 := by omega
    rw [decide_eq_true h] at HE
    go_enter Tryd.func75, Tryd.ntmps75
    go_wp2_with (first | (go_at_call 86; refine (areNames_any ao l cap _ HD.out HF.out).mono ?_; rintro e w1 ⟨rfl, hb1⟩; generalize namesB l = r at *) | (fail "none"))
    go_ret
    exact ⟨ret_bool (by rw [HE.out]; simp), hb1⟩
  · have g : ¬ (l.length : Int) ≤ 10 := by omega
    rw [decide_eq_false h] at HE
    go_enter Tryd.func75, Tryd.ntmps75
    go_wp2_with (fail "none")
    go_ret
    exact ⟨ret_bool (by rw [HE.out]; simp), Below.refl _ _⟩
end Go.Proofs.YtmanlnlhpgdbpaaDoor
/- SchemaRight: classes in order. -/
namespace Go.Proofs.YtmanlnlhpgdbpaaDoor
open Go.RowKit
attribute [local go_sem ↓] Go.wp_at_zero Go.wp_at_succ

def clsLt (x y : ClassV) : Bool := Op.bytesLess x.nm.toList y.nm.toList
def IsSl (v : Value) : Prop := ∃ o n c, v = .slice o n c
theorem SlV.sl {w : World} {v : Value} {l : List ByteArray} (h : SlV w v l) : IsSl v := by obtain ⟨vo, vc, rfl, _⟩ := h; exact ⟨_, _, _, rfl⟩
set_option maxHeartbeats 1000000 in
theorem compareClass_any (w0 : World) (x y : ClassV) (v1 v2 v3 u1 u2 u3 : Value) (w : World) (i1 : IsSl v1) (i2 : IsSl v2) (i3 : IsSl v3) (j1 : IsSl u1) (j2 : IsSl u2) (j3 : IsSl u3) (hBel : Below w0.heap.size w0 w) :
    Calls Tryd.prog 66 #[.agg #[.string x.nm, v1, v2, v3], .agg #[.string y.nm, u1, u2, u3]] w fun e w' => (∃ c : Int, e = .returned (.int .i64 c) ∧ decide (0 ≤ c) = !(clsLt x y)) ∧ Below w0.heap.size w0 w' := by
  obtain ⟨_, _, _, rfl⟩ := i1
  obtain ⟨_, _, _, rfl⟩ := i2
  obtain ⟨_, _, _, rfl⟩ := i3
  obtain ⟨_, _, _, rfl⟩ := j1
  obtain ⟨_, _, _, rfl⟩ := j2
  obtain ⟨_, _, _, rfl⟩ := j3
  have HC : Hid (decide (0 ≤ Lib.compareBytes x.nm.data.toList y.nm.data.toList) = !(clsLt x y)) := Lib.hid (by rw [compare_less]; unfold clsLt; rw [Lib.toList_data, Lib.toList_data])
  have HB := Lib.hid hBel; clear hBel
  generalize clsLt x y = r at *
  generalize x.nm = a at *
  generalize y.nm = b at *
  go_enter Tryd.func66, Tryd.ntmps66
  go_wp2_with (first
    | (go_at_call 77; refine (Tryd.strings_Compare _ _ _).mono ?_; rintro e w3 ⟨rfl, rfl⟩)
    | (fail "none"))
  go_ret
  exact ⟨⟨_, rfl, HC.out⟩, more (more HB.out _) _⟩
set_option maxRecDepth 100000 in
set_option maxHeartbeats 2000000 in
theorem incClass_any (ao : Option Addr) (l : List ClassV) (cap : Nat) (w : World) (hd : ClassesAt w ao l) (hl : l.length ≤ 1048576) :
    Calls Tryd.prog 65 #[.slice ao l.length cap, .func (.func 66) #[] #[]] w fun e w' => e = .returned (.bool (incB clsLt l)) ∧ Below w.heap.size w w' := by
  have HD := Lib.hid hd; clear hd
  go_enter Tryd.func65, Tryd.ntmps65
  go_wp2
  go_loopw [5] (fun i wr => ∃ m : Nat, m ≤ l.length ∧ i = .int .i64 ((m : Int) + 1) ∧ (∀ j (h : j + 1 < l.length), j < m → clsLt l[j] l[j + 1] = true) ∧ Below w.heap.size w wr) (fun i _ => l.length + 1 - (intOf i).toNat)
  case atStart => exact ⟨0, Nat.zero_le _, rfl, fun j _ h => absurd h (Nat.not_lt_zero _), Below.refl _ _⟩
  case round =>
    obtain ⟨m, hm, rfl, ha, hbel⟩ := hrel
    have Ha := Lib.hid ha; clear ha
    have hsz := hbel.size
    by_cases hlt : m + 1 < l.length
    · have hm0 : m < l.length := by omega
      obtain ⟨b, off, v1, v2, v3, rfl, hw0, hx⟩ := HD.out.at hm0
      obtain ⟨b', off', u1, u2, u3, e, _, hy⟩ := HD.out.at hlt
      cases e
      obtain ⟨d0, d1, d2, d3, s1, s2, s3⟩ := hx
      obtain ⟨e0, e1, e2, e3, t1, t2, t3⟩ := hy
      have g1 : (m : Int) + 1 < (l.length : Int) := by omega
      have g2 : (0 : Int) ≤ (m : Int) := by omega
      have g3 : (m : Int) < (l.length : Int) := by omega
      have g4 : (0 : Int) ≤ (m : Int) + 1 := by omega
      have HN : Hid (∀ j (h : j + 1 < l.length), j < m + 1 → clsLt l[m] l[m + 1] = true → clsLt l[j] l[j + 1] = true) := Lib.hid (fun j h hj hn => by
        by_cases e : j = m
        · subst e; exact hn
        · exact Ha.out j h (by omega))
      have HX : Hid (clsLt l[m] l[m + 1] = false → incB clsLt l = false) := Lib.hid (fun h => incB_no hlt h)
      generalize hx : l[m] = X at *
      generalize hy : l[m + 1] = Y at *
      clear hx hy
      have CC : Hid (∀ W : World, Below w.heap.size w W → Calls Tryd.prog 66 #[.agg #[.string X.nm, v1, v2, v3], .agg #[.string Y.nm, u1, u2, u3]] W fun e w' => (∃ c : Int, e = .returned (.int .i64 c) ∧ decide (0 ≤ c) = !(clsLt X Y)) ∧ Below w.heap.size w w') := Lib.hid (fun W h => compareClass_any w X Y v1 v2 v3 u1 u2 u3 W s1.sl s2.sl s3.sl t1.sl t2.sl t3.sl h)
      clear s1 s2 s3 t1 t2 t3
      have SK : Hid (∀ W : World, Below w.heap.size w W → (Below w.heap.size w W ∧ (W.cell? ⟨b, off + m * 4, none⟩ = some (.string X.nm) ∧ W.cell? ⟨b, off + m * 4 + 1, none⟩ = some v1 ∧ W.cell? ⟨b, off + m * 4 + 2, none⟩ = some v2 ∧ W.cell? ⟨b, off + m * 4 + 3, none⟩ = some v3) ∧ (W.cell? ⟨b, off + (m + 1) * 4, none⟩ = some (.string Y.nm) ∧ W.cell? ⟨b, off + (m + 1) * 4 + 1, none⟩ = some u1 ∧ W.cell? ⟨b, off + (m + 1) * 4 + 2, none⟩ = some u2 ∧ W.cell? ⟨b, off + (m + 1) * 4 + 3, none⟩ = some u3))) :=
        Lib.hid (fun W h => ⟨h, ⟨(h.cell (p := ⟨b, _, none⟩) hw0).trans d0, (h.cell (p := ⟨b, _, none⟩) hw0).trans d1, (h.cell (p := ⟨b, _, none⟩) hw0).trans d2, (h.cell (p := ⟨b, _, none⟩) hw0).trans d3⟩, ⟨(h.cell (p := ⟨b, _, none⟩) hw0).trans e0, (h.cell (p := ⟨b, _, none⟩) hw0).trans e1, (h.cell (p := ⟨b, _, none⟩) hw0).trans e2, (h.cell (p := ⟨b, _, none⟩) hw0).trans e3⟩⟩)
      have hbd := hbel.drew
      have hwr : IntKind.i64.wrap (m : Int) = (m : Int) := IntWalk.i64_in _ (by omega)
      have hwr2 : IntKind.i64.wrap ((m : Int) + 1 - 1) = (m : Int) := by rw [Int.add_sub_cancel]; exact hwr
      clear d0 d1 d2 d3 e0 e1 e2 e3
      cases hn : clsLt X Y
      · have HX' := Lib.hid (HX.out hn)
        go_wp2_with fail
        go_region_held3 (fun W => Below w.heap.size w W ∧ (W.cell? ⟨b, off + m * 4, none⟩ = some (.string X.nm) ∧ W.cell? ⟨b, off + m * 4 + 1, none⟩ = some v1 ∧ W.cell? ⟨b, off + m * 4 + 2, none⟩ = some v2 ∧ W.cell? ⟨b, off + m * 4 + 3, none⟩ = some v3) ∧ (W.cell? ⟨b, off + (m + 1) * 4, none⟩ = some (.string Y.nm) ∧ W.cell? ⟨b, off + (m + 1) * 4 + 1, none⟩ = some u1 ∧ W.cell? ⟨b, off + (m + 1) * 4 + 2, none⟩ = some u2 ∧ W.cell? ⟨b, off + (m + 1) * 4 + 3, none⟩ = some u3))
          (exact SK.out _ (by assumption))
          (first | (go_at_call 66; refine (CC.out _ (by assumption)).mono ?_; rintro e w1 ⟨⟨c, rfl, hc⟩, hb1⟩; rw [hn] at hc; have hc0 : 0 ≤ c := (by simpa using hc); clear hc) | (fail "none"))
        all_goals
          go_wp2
          go_ret
          exact ⟨ret_bool (by rw [HX'.out]), hb1⟩
      · skip
        go_wp2_with fail
        go_region_held3 (fun W => Below w.heap.size w W ∧ (W.cell? ⟨b, off + m * 4, none⟩ = some (.string X.nm) ∧ W.cell? ⟨b, off + m * 4 + 1, none⟩ = some v1 ∧ W.cell? ⟨b, off + m * 4 + 2, none⟩ = some v2 ∧ W.cell? ⟨b, off + m * 4 + 3, none⟩ = some v3) ∧ (W.cell? ⟨b, off + (m + 1) * 4, none⟩ = some (.string Y.nm) ∧ W.cell? ⟨b, off + (m + 1) * 4 + 1, none⟩ = some u1 ∧ W.cell? ⟨b, off + (m + 1) * 4 + 2, none⟩ = some u2 ∧ W.cell? ⟨b, off + (m + 1) * 4 + 3, none⟩ = some u3))
          (exact SK.out _ (by assumption))
          (first | (go_at_call 66; refine (CC.out _ (by assumption)).mono ?_; rintro e w1 ⟨⟨c, rfl, hc⟩, hb1⟩; rw [hn] at hc; have hc0 : ¬ 0 ≤ c := (by simpa using hc); clear hc) | (fail "none"))
        all_goals
          go_wp2
          go_roundw
          case rel => exact ⟨m + 1, by omega, by go_num, fun j h hj => HN.out j h hj hn, hb1⟩
          case measure => simp [intOf]; omega
    · have HT : Hid (incB clsLt l = true) := Lib.hid (incB_yes fun j h => Ha.out j h (by omega))
      have g1 : ¬ (m : Int) + 1 < (l.length : Int) := by omega
      go_wp2
      go_ret
      exact ⟨ret_bool (by rw [HT.out]), hbel⟩
end Go.Proofs.YtmanlnlhpgdbpaaDoor
/- Names among others: what slices.Contains and the specification's look-up return. -/
namespace Go.Proofs.YtmanlnlhpgdbpaaDoor
open Go.RowKit
attribute [local go_sem ↓] Go.wp_at_zero Go.wp_at_succ

def hasS (l : List ByteArray) (x : ByteArray) : Bool := l.any fun y => y.toList == x.toList
theorem hasS_yes {l : List ByteArray} {x : ByteArray} {k : Nat} (hk : k < l.length) (h : (l[k].toList == x.toList) = true) : hasS l x = true := by
  unfold hasS
  rw [List.any_eq_true]
  exact ⟨l[k], List.getElem_mem hk, h⟩
theorem hasS_no {l : List ByteArray} {x : ByteArray} (h : ∀ j (h : j < l.length), (l[j].toList == x.toList) = false) : hasS l x = false := by
  unfold hasS
  rw [List.any_eq_false]
  intro y hy
  obtain ⟨i, hi, rfl⟩ := List.getElem_of_mem hy
  rw [h i hi]; simp
theorem beq_swap (a b : ByteArray) : (a.toList == b.toList) = (b.toList == a.toList) := by
  rw [Bool.eq_iff_iff]; simp only [beq_iff_eq]; exact ⟨Eq.symm, Eq.symm⟩
set_option maxRecDepth 100000 in
set_option maxHeartbeats 1000000 in
theorem index_any (ao : Option Addr) (l : List ByteArray) (cap : Nat) (x : ByteArray) (w : World) (hd : StrsAt w ao l) (hl : l.length ≤ 10000000) :
    Calls Tryd.prog 83 #[.slice ao l.length cap, .string x] w fun e w' => (∃ n : Int, e = .returned (.int .i64 n) ∧ decide (0 ≤ n) = hasS l x) ∧ w' = w := by
  have HD := Lib.hid hd; clear hd
  go_enter Tryd.func83, Tryd.ntmps83
  go_wp2
  go_loopw [5, 8] (fun _ i wr => ∃ k : Nat, k ≤ l.length ∧ i = .int .i64 k ∧ (∀ j (h : j < l.length), j < k → (l[j].toList == x.toList) = false) ∧ wr = w) (fun _ i _ => l.length - (intOf i).toNat)
  case atStart => exact ⟨0, Nat.zero_le _, rfl, fun j _ h => absurd h (Nat.not_lt_zero _), by trivial⟩
  case round =>
    obtain ⟨k, hk, rfl, ha, rfl⟩ := hrel
    have Ha := Lib.hid ha; clear ha
    by_cases hlt : k < l.length
    · obtain ⟨b, off, rfl, hb0, hc1⟩ := HD.out.at hlt
      have HY : Hid ((l[k].toList == x.toList) = true → hasS l x = true) := Lib.hid (fun h => hasS_yes hlt h)
      have HN : Hid ((l[k].toList == x.toList) = false → ∀ j (h : j < l.length), j < k + 1 → (l[j].toList == x.toList) = false) := Lib.hid (fun hn j h hj => by
        by_cases e : j = k
        · subst e; exact hn
        · exact Ha.out j h (by omega))
      generalize l[k] = A at *
      have hsw := beq_swap x A
      cases hq : (A.toList == x.toList)
      · rw [hq] at hsw
        have HN' := Lib.hid (HN.out hq)
        go_wp2
        go_roundw
        case rel => exact ⟨k + 1, by omega, by go_num, HN'.out, trivial⟩
        case measure => simp [intOf]; omega
      · rw [hq] at hsw
        have HY' := Lib.hid (HY.out hq)
        go_wp2
        go_ret
        exact ⟨⟨_, rfl, by rw [HY'.out]; exact decide_eq_true (by omega)⟩, rfl⟩
    · have HN' : Hid (hasS l x = false) := Lib.hid (hasS_no fun j h => Ha.out j h (by omega))
      go_wp2
      go_ret
      exact ⟨⟨_, rfl, by rw [HN'.out]; rfl⟩, rfl⟩
set_option maxHeartbeats 1000000 in
theorem contains_any (ao : Option Addr) (l : List ByteArray) (cap : Nat) (x : ByteArray) (w : World) (hd : StrsAt w ao l) (hl : l.length ≤ 10000000) :
    Calls Tryd.prog 73 #[.slice ao l.length cap, .string x] w fun e w' => e = .returned (.bool (hasS l x)) ∧ w' = w := by
  have HD := Lib.hid hd; clear hd
  go_enter Tryd.func73, Tryd.ntmps73
  go_wp2_with fail
  refine (index_any ao l cap x w HD.out hl).mono ?_
  rintro e w' ⟨⟨n, rfl, hn⟩, rfl⟩
  have HN := Lib.hid hn; clear hn
  by_cases h : 0 ≤ n
  · have HR : Hid (hasS l x = true) := Lib.hid (by rw [← HN.out]; exact decide_eq_true h)
    go_wp2
    go_ret
    exact ⟨ret_bool (by rw [HR.out]), rfl⟩
  · have HR : Hid (decide (0 ≤ n) = hasS l x) := HN
    go_wp2
    go_ret
    exact ⟨ret_bool HR.out, rfl⟩
set_option maxRecDepth 100000 in
set_option maxHeartbeats 1000000 in
theorem l04Has_any (ao : Option Addr) (l : List ByteArray) (cap : Nat) (x : ByteArray) (w : World) (hd : StrsAt w ao l) (hl : l.length ≤ 10000000) :
    Calls Tryd.prog 60 #[.slice ao l.length cap, .string x] w fun e w' => e = .returned (.bool (hasS l x)) ∧ w' = w := by
  have HD := Lib.hid hd; clear hd
  go_enter Tryd.func60, Tryd.ntmps60
  go_wp2
  go_loopw [5] (fun i wr => ∃ k : Nat, k ≤ l.length ∧ i = .int .i64 k ∧ (∀ j (h : j < l.length), j < k → (l[j].toList == x.toList) = false) ∧ wr = w) (fun i _ => l.length - (intOf i).toNat)
  case atStart => exact ⟨0, Nat.zero_le _, rfl, fun j _ h => absurd h (Nat.not_lt_zero _), by trivial⟩
  case round =>
    obtain ⟨k, hk, rfl, ha, rfl⟩ := hrel
    have Ha := Lib.hid ha; clear ha
    by_cases hlt : k < l.length
    · obtain ⟨b, off, rfl, hb0, hc1⟩ := HD.out.at hlt
      have HY : Hid ((l[k].toList == x.toList) = true → hasS l x = true) := Lib.hid (fun h => hasS_yes hlt h)
      have HN : Hid ((l[k].toList == x.toList) = false → ∀ j (h : j < l.length), j < k + 1 → (l[j].toList == x.toList) = false) := Lib.hid (fun hn j h hj => by
        by_cases e : j = k
        · subst e; exact hn
        · exact Ha.out j h (by omega))
      generalize l[k] = A at *
      cases hq : (A.toList == x.toList)
      · have HN' := Lib.hid (HN.out hq)
        go_wp2
        go_roundw
        case rel => exact ⟨k + 1, by omega, by go_num, HN'.out, trivial⟩
        case measure => simp [intOf]; omega
      · have HY' := Lib.hid (HY.out hq)
        go_wp2
        go_ret
        exact ⟨ret_bool (by rw [HY'.out]), rfl⟩
    · have HN' : Hid (hasS l x = false) := Lib.hid (hasS_no fun j h => Ha.out j h (by omega))
      go_wp2
      go_ret
      exact ⟨ret_bool (by rw [HN'.out]), rfl⟩
/-- those of the names that are not among the others -/
def besideV (l m : List ByteArray) : List ByteArray := l.filter fun x => !(hasS m x)
theorem besideV_succ (l m : List ByteArray) (k : Nat) (h : k < l.length) : besideV (l.take (k + 1)) m = besideV (l.take k) m ++ (if hasS m l[k] then [] else [l[k]]) := by
  unfold besideV
  rw [List.take_succ_eq_append_getElem h, List.filter_append]
  congr 1
  cases hq : hasS m l[k] <;> simp [hq]
theorem besideV_len (l m : List ByteArray) (k : Nat) : (besideV (l.take k) m).length ≤ l.length := by
  unfold besideV
  exact Nat.le_trans (List.length_filter_le _ _) (by rw [List.length_take]; omega)
set_option maxRecDepth 100000 in
set_option maxHeartbeats 2000000 in
theorem beside_any (ao bo : Option Addr) (l m : List ByteArray) (ca cb : Nat) (w : World) (hd : StrsAt w ao l) (he : StrsAt w bo m) (hl : l.length ≤ 1048576) (hm : m.length ≤ 10000000) :
    Calls Tryd.prog 54 #[.slice ao l.length ca, .slice bo m.length cb] w (GivesV w (besideV l m)) := by
  have HD := Lib.hid hd; have HE := Lib.hid he; clear hd he
  go_enter Tryd.func54, Tryd.ntmps54
  go_wp2_with fail
  go_loopw [5, 10] (fun v i wr => ∃ k : Nat, k ≤ l.length ∧ i = .int .i64 k ∧ wr.ownsRow w.heap.size 9 1 v (besideV (l.take k) m).length (ss (besideV (l.take k) m)) ∧ Below w.heap.size w wr) (fun _ i _ => l.length - (intOf i).toNat)
  case atStart => exact ⟨0, Nat.zero_le _, rfl, ⟨rfl, .inl ⟨rfl, rfl⟩⟩, Below.refl _ _⟩
  case round =>
    obtain ⟨k, hk, rfl, hown, hbel⟩ := hrel
    have hsz := hbel.size
    by_cases hlt : k < l.length
    · obtain ⟨p, off, rfl, hp0, hd1⟩ := HD.out.at hlt
      have c1 := (hbel.cell (p := ⟨p, off + k, none⟩) hp0).trans hd1
      have HN := Lib.hid (besideV_succ l m k hlt)
      have HL : Hid ((besideV (l.take k) m).length ≤ 1000000000) := Lib.hid (by have := besideV_len l m k; omega)
      have HE' := Lib.hid (HE.out.below hbel)
      have g1 : (0 : Int) ≤ (k : Int) := by omega
      have g2 : (k : Int) < (l.length : Int) := by omega
      clear hd1
      generalize l[k] = x at *
      generalize besideV (l.take k) m = pre at *
      cases hq : hasS m x
      · rw [hq] at HN
        go_wp2_with (first
          | (go_at_call 73; refine (contains_any bo m cb x wr HE'.out hm).mono ?_; rintro e w3 ⟨rfl, rfl⟩; rw [hq])
          | (at_builtin; refine append_str w.heap.size rfl _ _ rfl _ pre rfl hown _ rfl HL.out hsz hbel ?_; intro v4 w4 hown4 hbel4 hsz4 _ _)
          | (fail "none"))
        go_roundw
        case rel => exact ⟨k + 1, by omega, by go_num, by rw [HN.out]; exact hown4, hbel4⟩
        case measure => simp [intOf]; omega
      · rw [hq] at HN
        go_wp2_with (first
          | (go_at_call 73; refine (contains_any bo m cb x wr HE'.out hm).mono ?_; rintro e w3 ⟨rfl, rfl⟩; rw [hq])
          | (fail "none"))
        go_roundw
        case rel => exact ⟨k + 1, by omega, by go_num, by rw [HN.out]; simpa using hown, hbel⟩
        case measure => simp [intOf]; omega
    · obtain rfl : k = l.length := by omega
      have HO : Hid (wr.ownsRow w.heap.size 9 1 u5 (besideV l m).length (ss (besideV l m))) := Lib.hid (by have h := hown; rw [List.take_length] at h; exact h)
      clear hown
      go_wp2
      go_ret
      exact ⟨⟨_, rfl, HO.out⟩, hbel⟩
end Go.Proofs.YtmanlnlhpgdbpaaDoor
/- Blocks of two and of four cells. -/
namespace Go.Proofs.YtmanlnlhpgdbpaaDoor
open Go.RowKit

def Two (w : World) (g : Nat) (T : TypeId) (a b : Value) : Prop := w.heap[g]? = some (.cells #[a, b] T (0, 0))
theorem Two.cells {w : World} {g : Nat} {T : TypeId} {a b : Value} (h : Two w g T a b) : (w.cell? ⟨g, 0, none⟩ = some a ∧ w.cell? ⟨g, 1, none⟩ = some b) ∧ (w.frozen? ⟨g, 0, none⟩ = false ∧ w.frozen? ⟨g, 1, none⟩ = false) := by
  unfold Two at h
  refine ⟨⟨?_, ?_⟩, ?_, ?_⟩
  · rw [cell_of_row w g _ _ T (0, 0) h]; rfl
  · rw [cell_of_row w g _ _ T (0, 0) h]; rfl
  · simp [World.frozen?, h]
  · simp [World.frozen?, h]
theorem Two.lt {w : World} {g : Nat} {T : TypeId} {a b : Value} (h : Two w g T a b) : g < w.heap.size := (Array.getElem?_eq_some_iff.1 h).1
theorem Two.below {w w' : World} {g : Nat} {T : TypeId} {a b : Value} (h : Two w g T a b) (hb : Below w.heap.size w w') : Two w' g T a b := (hb.block g h.lt).trans h
theorem Two.set0 {w : World} {g : Nat} {T : TypeId} {a b : Value} (h : Two w g T a b) (v : Value) : Two (w.setCell ⟨g, 0, none⟩ v) g T v b := heap_set v h
theorem Two.set1 {w : World} {g : Nat} {T : TypeId} {a b : Value} (h : Two w g T a b) (v : Value) : Two (w.setCell ⟨g, 1, none⟩ v) g T a v := heap_set v h
theorem Two.far {w : World} {g R j : Nat} {T : TypeId} {a b : Value} (h : Two w g T a b) (hne : g ≠ R) (v : Value) : Two (w.setCell ⟨R, j, none⟩ v) g T a b := (Below.heap_setCell _ _ _ _ hne).trans h
theorem twoNew (w : World) (T : TypeId) (a b : Value) : Two (w.alloc (.cells #[a, b] T)) w.heap.size T a b := heap_alloc_new w _
theorem Two.alloc {w : World} {g : Nat} {T : TypeId} {a b : Value} (h : Two w g T a b) (o : Obj) : Two (w.alloc o) g T a b := (heap_alloc_old w o h.lt).trans h
def Quad (w : World) (g : Nat) (T : TypeId) (a b c d : Value) : Prop := w.heap[g]? = some (.cells #[a, b, c, d] T (0, 0))
theorem Quad.cells {w : World} {g : Nat} {T : TypeId} {a b c d : Value} (h : Quad w g T a b c d) : w.cell? ⟨g, 0, none⟩ = some a ∧ w.cell? ⟨g, 1, none⟩ = some b ∧ w.cell? ⟨g, 2, none⟩ = some c ∧ w.cell? ⟨g, 3, none⟩ = some d := by
  unfold Quad at h
  refine ⟨?_, ?_, ?_, ?_⟩ <;> (rw [cell_of_row w g _ _ T (0, 0) h]; rfl)
theorem Quad.soft {w : World} {g : Nat} {T : TypeId} {a b c d : Value} (h : Quad w g T a b c d) : w.frozen? ⟨g, 0, none⟩ = false ∧ w.frozen? ⟨g, 1, none⟩ = false ∧ w.frozen? ⟨g, 2, none⟩ = false ∧ w.frozen? ⟨g, 3, none⟩ = false := by
  unfold Quad at h
  refine ⟨?_, ?_, ?_, ?_⟩ <;> simp [World.frozen?, h]
theorem Quad.lt {w : World} {g : Nat} {T : TypeId} {a b c d : Value} (h : Quad w g T a b c d) : g < w.heap.size := (Array.getElem?_eq_some_iff.1 h).1
theorem Quad.below {w w' : World} {g : Nat} {T : TypeId} {a b c d : Value} (h : Quad w g T a b c d) (hb : Below w.heap.size w w') : Quad w' g T a b c d := (hb.block g h.lt).trans h
theorem Quad.set0 {w : World} {g : Nat} {T : TypeId} {a b c d : Value} (h : Quad w g T a b c d) (v : Value) : Quad (w.setCell ⟨g, 0, none⟩ v) g T v b c d := heap_set v h
theorem Quad.set1 {w : World} {g : Nat} {T : TypeId} {a b c d : Value} (h : Quad w g T a b c d) (v : Value) : Quad (w.setCell ⟨g, 1, none⟩ v) g T a v c d := heap_set v h
theorem Quad.set2 {w : World} {g : Nat} {T : TypeId} {a b c d : Value} (h : Quad w g T a b c d) (v : Value) : Quad (w.setCell ⟨g, 2, none⟩ v) g T a b v d := heap_set v h
theorem Quad.set3 {w : World} {g : Nat} {T : TypeId} {a b c d : Value} (h : Quad w g T a b c d) (v : Value) : Quad (w.setCell ⟨g, 3, none⟩ v) g T a b c v := heap_set v h
theorem Quad.far {w : World} {g R j : Nat} {T : TypeId} {a b c d : Value} (h : Quad w g T a b c d) (hne : g ≠ R) (v : Value) : Quad (w.setCell ⟨R, j, none⟩ v) g T a b c d := (Below.heap_setCell _ _ _ _ hne).trans h
theorem Quad.alloc {w : World} {g : Nat} {T : TypeId} {a b c d : Value} (h : Quad w g T a b c d) (o : Obj) : Quad (w.alloc o) g T a b c d := (heap_alloc_old w o h.lt).trans h
theorem quadNew (w : World) (T : TypeId) (a b c d : Value) : Quad (w.alloc (.cells #[a, b, c, d] T)) w.heap.size T a b c d := heap_alloc_new w _
end Go.Proofs.YtmanlnlhpgdbpaaDoor
