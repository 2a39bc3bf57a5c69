/- Merged texts: EntA3, UnderMath, EntS1, EntH1, EntH2, EntH3. -/
import Derived.Test.YtjajpdghamecoaaM6
import Derived.Test.YtjajpdghamecoaaM2
import Derived.Test.YtjajpdghamecoaaM4
/- AttrOf: what the specification returns. -/
namespace Go.Proofs.Ytjajpdghamecoaa
open Go.RowKit
attribute [local go_sem ↓] Go.wp_at_zero Go.wp_at_succ

theorem name_eq (a b : ByteArray) : (a.toList == b.toList) = decide (a = b) := by
  rw [Lib.toList_data, Lib.toList_data, Bool.eq_iff_iff]
  simp only [beq_iff_eq, decide_eq_true_eq]
  constructor
  · intro h; exact ByteArray.ext (Array.toList_inj.1 h)
  · intro h; rw [h]
def atI (l : List AttrV) (nm : ByteArray) : Int := match atN l nm with | some i => (i : Int) | none => -1
theorem atI_none {l : List AttrV} {nm : ByteArray} (h : ∀ i (hi : i < l.length), l[i].1 ≠ nm) : atI l nm = -1 := by
  have : atN l nm = none := by
    unfold atN
    rw [List.findIdx?_eq_none_iff]
    intro a ha
    obtain ⟨i, hi, rfl⟩ := List.getElem_of_mem ha
    simpa using h i hi
  unfold atI; rw [this]
theorem atI_some {l : List AttrV} {nm : ByteArray} {k : Nat} (hk : k < l.length) (h1 : l[k].1 = nm) (h : ∀ i (hi : i < l.length), i < k → l[i].1 ≠ nm) : atI l nm = (k : Int) := by
  have : atN l nm = some k := by
    unfold atN
    rw [List.findIdx?_eq_some_iff_getElem]
    exact ⟨hk, by simpa using h1, fun j hj => by simpa using h j (by omega) hj⟩
  unfold atI; rw [this]
set_option maxRecDepth 100000 in
set_option maxHeartbeats 1000000 in
theorem l03At_any (ao bo : Option Addr) (d : RdnL) (l : List AttrV) (ca cb : Nat) (nm : ByteArray) (w : World) (hl : AttrsAt w bo l) (hfl : FitsA l) :
    Calls Try.prog 110 #[.agg #[.slice ao d.length ca, .slice bo l.length cb], .string nm] w fun e w' => e = .returned (.int .i64 (atI l nm)) ∧ Below w.heap.size w w' := by
  have hll := hfl.1
  have HL := Lib.hid hl; have FL := Lib.hid hfl; clear hl hfl
  go_enter Try.func110, Try.ntmps110
  go_wp2_with fail
  refine wp_world (fun W => Below w.heap.size w W ∧ Two W w.heap.size 43 (.slice ao d.length ca) (.slice bo l.length cb)) ⟨more (Below.refl _ _) _, twoNew w 43 _ _⟩ ?_
  rintro W ⟨hbW, t0⟩
  have BW := Lib.hid hbW; have T0 := Lib.hid t0
  clear hbW t0
  obtain ⟨⟨_, c1⟩, _⟩ := T0.out.cells
  go_wp2_with fail
  go_loop [5] (fun i => ∃ k : Nat, k ≤ l.length ∧ i = .int .i64 k ∧ ∀ j (hj : j < l.length), j < k → l[j].1 ≠ nm) (fun i => l.length - (intOf i).toNat)
  case atStart => exact ⟨0, Nat.zero_le _, rfl, fun j _ h => absurd h (Nat.not_lt_zero _)⟩
  case round =>
    obtain ⟨k, hk, rfl, hj⟩ := hrel
    have Hj := Lib.hid hj; clear hj
    by_cases hlt : k < l.length
    · obtain ⟨p, off, vo, vc, rfl, hp0, hd1, hd2, _⟩ := (HL.out.below BW.out).at hlt
      have g1 : (0 : Int) ≤ (k : Int) := by omega
      have g2 : (k : Int) < (l.length : Int) := by omega
      by_cases he : l[k].1 = nm
      · have HT := Lib.hid (atI_some hlt he Hj.out)
        have hq : (l[k].1.toList == nm.toList) = true := by rw [name_eq]; simpa using he
        clear he
        generalize l[k].1 = A at *
        go_wp2
        go_ret
        exact ⟨ret_int' HT.out.symm, BW.out⟩
      · have HN : Hid (∀ j (hj : j < l.length), j < k + 1 → l[j].1 ≠ nm) := Lib.hid (fun j h hjk => by
          by_cases e : j = k
          · subst e; exact he
          · exact Hj.out j h (by omega))
        have hq : (l[k].1.toList == nm.toList) = false := by rw [name_eq]; simpa using he
        clear he
        generalize l[k].1 = A at *
        go_wp2
        go_round
        case rel => exact ⟨k + 1, by omega, by go_num, HN.out⟩
        case measure => simp [intOf]; omega
    · have HT := Lib.hid (atI_none (l := l) (nm := nm) (fun i hi => Hj.out i hi (by omega)))
      go_wp2
      go_ret
      exact ⟨ret_int' HT.out.symm, BW.out⟩
/-- the texts of an attribute, where they lie -/
def GivesAt (w : World) (V : List ByteArray) (e : Ending) (w' : World) : Prop := (∃ vo vc, e = .returned (.slice vo V.length vc) ∧ ValsAt w' vo vc V) ∧ Below w.heap.size w w'
theorem of_at {l : List AttrV} {nm : ByteArray} (h : atI l nm < 0) : valsOf l nm = [] := by
  unfold atI at h
  cases ha : atN l nm with
  | none => exact (atN_none ha).2
  | some i => rw [ha] at h; simp at h; omega
theorem of_at' {l : List AttrV} {nm : ByteArray} (h : ¬ atI l nm < 0) : ∃ k, ∃ hk : k < l.length, atI l nm = (k : Int) ∧ valsOf l nm = l[k].2 := by
  unfold atI at h ⊢
  cases ha : atN l nm with
  | none => rw [ha] at h; simp at h
  | some i =>
    obtain ⟨hi, _, h2, _⟩ := atN_some ha
    exact ⟨i, hi, rfl, h2⟩
set_option maxRecDepth 100000 in
set_option maxHeartbeats 1000000 in
theorem l03Of_any (ao bo : Option Addr) (d : RdnL) (l : List AttrV) (ca cb : Nat) (nm : ByteArray) (w : World) (hl : AttrsAt w bo l) (hfl : FitsA l) :
    Calls Try.prog 69 #[.agg #[.slice ao d.length ca, .slice bo l.length cb], .string nm] w (GivesAt w (valsOf l nm)) := by
  have hll := hfl.1
  have HL := Lib.hid hl; have FL := Lib.hid hfl; clear hl hfl
  go_enter Try.func69, Try.ntmps69
  go_wp2_with fail
  refine calls_any' (fun W => Below w.heap.size w W ∧ Two W w.heap.size 43 (.slice ao d.length ca) (.slice bo l.length cb)) ⟨more (Below.refl _ _) _, twoNew w 43 _ _⟩ ?_
  rintro W ⟨hbW, t0⟩
  refine (l03At_any ao bo d l ca cb nm W (HL.out.below hbW) FL.out).mono ?_
  rintro e w1 ⟨rfl, hb1⟩
  have B1 := Lib.hid (hbW.trans (hb1.mono hbW.size)); have T1 := Lib.hid (t0.below hb1)
  clear hbW t0 hb1
  by_cases h : atI l nm < 0
  · have HV := Lib.hid (of_at h)
    generalize atI l nm = q at *
    go_wp2
    go_ret
    exact ⟨⟨none, 0, by rw [HV.out]; rfl, by rw [HV.out]; exact ⟨.inl rfl, Nat.le_refl _, fun _ => rfl⟩⟩, B1.out⟩
  · obtain ⟨k, hk, e1, e2⟩ := of_at' h
    rw [e1]
    have HV := Lib.hid e2
    clear h e1 e2
    obtain ⟨⟨_, c1⟩, _⟩ := T1.out.cells
    obtain ⟨p, off, vo, vc, rfl, hp0, hd1, hd2, hv⟩ := (HL.out.below B1.out).at hk
    have HVv := Lib.hid hv
    have g0 : ¬ (k : Int) < 0 := by omega
    have g1 : (0 : Int) ≤ (k : Int) := by omega
    have g2 : (k : Int) < (l.length : Int) := by omega
    clear hv hd1
    generalize l[k].2 = V at *
    go_wp2
    go_ret
    exact ⟨⟨vo, vc, by rw [HV.out]; rfl, by rw [HV.out]; exact HVv.out⟩, B1.out⟩
theorem own_zero (w : World) {B g : Nat} (hg : g = w.heap.size) (hB : B ≤ g) : (w.alloc (.cells #[] 9)).ownsRow B 9 1 (.slice (some ⟨g, 0, none⟩) 0 0) 0 (ss []) := by
  subst hg
  exact ⟨rfl, .inr ⟨w.heap.size, 0, #[], rfl, hB, heap_alloc_new w _, by simp, by unfold maxLen; simp, rfl, rfl⟩⟩
set_option maxRecDepth 100000 in
set_option maxHeartbeats 1000000 in
theorem SpecAttrOf_any (ao bo : Option Addr) (d : RdnL) (l : List AttrV) (ca cb : Nat) (nm : ByteArray) (w : World) (hd : DnAt w ao d) (hl : AttrsAt w bo l) (hfd : Fits d) (hfl : FitsA l) (hn : nm.size ≤ maxLen) :
    Calls Try.prog 32 #[.agg #[.slice ao d.length ca, .slice bo l.length cb], .string nm] w (GivesV w (attrOfL d l nm)) := by
  unfold maxLen at hn
  have HD := Lib.hid hd; have HL := Lib.hid hl; have FD := Lib.hid hfd; have FL := Lib.hid hfl; clear hd hl hfd hfl
  by_cases h8 : 8000 < nm.size
  · have HE := Lib.hid (attrOf_long (d := d) (l := l) (nm := nm) (by omega))
    go_enter Try.func32, Try.ntmps32
    go_wp2
    go_ret
    exact ⟨⟨_, rfl, by rw [HE.out]; exact own_zero _ (by simp) (by simp)⟩, more (more (Below.refl _ _) _) _⟩
  · have h8' : ¬ 8000 < (nm.size : Int) := by omega
    go_enter Try.func32, Try.ntmps32
    go_wp2_with fail
    refine calls_any' (fun W => Below w.heap.size w W ∧ Two W w.heap.size 43 (.slice ao d.length ca) (.slice bo l.length cb)) ⟨more (Below.refl _ _) _, twoNew w 43 _ _⟩ ?_
    rintro W ⟨hbW, t0⟩
    refine (SpecEntryRight_any ao bo d l ca cb W (HD.out.below hbW) (HL.out.below hbW) FD.out FL.out).mono ?_
    rintro e w1 ⟨rfl, hb1⟩
    have B1 := Lib.hid (hbW.trans (hb1.mono hbW.size)); have T1 := Lib.hid (t0.below hb1)
    clear hbW t0 hb1
    obtain ⟨⟨c0, c1⟩, _⟩ := T1.out.cells
    cases hr : rightB d l
    · have HE := Lib.hid (attrOf_no hr nm)
      go_wp2
      go_ret
      exact ⟨⟨_, rfl, by rw [HE.out]; exact own_zero _ rfl B1.out.size⟩, more B1.out _⟩
    · have HE := Lib.hid (attrOf_yes hr nm)
      have FV := Lib.hid (valsOf_fits FL.out nm)
      clear hr
      have hlv := FV.out.1
      obtain ⟨⟨p0, p1⟩, _⟩ := (T1.out.alloc (.cells #[] 9)).cells
      have O1 := Lib.hid (own_zero w1 (g := w1.heap.size) rfl B1.out.size)
      have B2 := Lib.hid (more B1.out (.cells #[] 9))
      go_wp2_with fail
      refine (l03Of_any ao bo d l ca cb nm _ (HL.out.below B2.out) FL.out).mono ?_
      rintro e w2 ⟨⟨vo, vc, rfl, hv⟩, hb2⟩
      have O2 := own_below O1.out hb2
      have B3 := B2.out.trans (hb2.mono B2.out.size)
      have hs3 := B3.size
      have HE2 : Hid (attrOfL d l nm = [] ++ valsOf l nm) := Lib.hid (by rw [HE.out]; rfl)
      have hv1 := hv.1; have hv2 := hv.2.2
      clear hv hb2 c0 c1 p0 p1 HE
      generalize valsOf l nm = V at *
      have HE3 := Lib.hid HE2.out
      have hlen : ([] : List ByteArray).length + V.length ≤ 1000000000 := by simp; omega
      go_wp2_with (first
        | (at_builtin; refine append_strs w.heap.size rfl _ _ rfl _ [] rfl O2 vo V vc _ rfl rfl hv1 hv2 hlen hs3 B3 ?_; intro v4 w4 hown4 hbel4)
        | (fail "none"))
      go_ret
      exact ⟨⟨_, rfl, by rw [HE3.out]; exact hown4⟩, hbel4⟩
end Go.Proofs.Ytjajpdghamecoaa
/- Names under their ends; two names under each other are the same. -/
namespace Go.Proofs.Ytjajpdghamecoaa

theorem under_drop {d : RdnL} (h : dnB d = true) {i : Nat} (hi : i ≤ d.length) : underB d (d.drop i) = true := by
  unfold underB
  have e : d.length - (d.drop i).length = i := by rw [List.length_drop]; omega
  rw [h, dnB_drop h, e]
  simp [sameB]
theorem dnB_rdns {d : RdnL} (h : dnB d = true) : d.all rdnB = true := by
  unfold dnB at h
  simp only [Bool.and_eq_true] at h
  exact h.2
theorem same_length {a b : RdnL} (h : sameB a b = true) : a.length = b.length := by
  unfold sameB at h
  have := congrArg List.length (of_decide_eq_true h)
  simpa using this
theorem sameB_comm (a b : RdnL) : sameB a b = sameB b a := by
  unfold sameB
  exact decide_eq_decide.2 ⟨Eq.symm, Eq.symm⟩
theorem under_two {a b : RdnL} (ha : dnB a = true) (hb : dnB b = true) : sameB a b = (underB a b && underB b a) := by
  unfold underB
  rw [ha, hb]
  by_cases h : a.length = b.length
  · have e1 : a.length - b.length = 0 := by omega
    have e2 : b.length - a.length = 0 := by omega
    rw [e1, e2, List.drop_zero, List.drop_zero, sameB_comm b a]
    have h1 : decide (b.length ≤ a.length) = true := decide_eq_true (by omega)
    have h2 : decide (a.length ≤ b.length) = true := decide_eq_true (by omega)
    rw [h1, h2]
    simp
  · have hs : sameB a b = false := by
      cases hs : sameB a b
      · rfl
      · exact absurd (same_length hs) h
    rw [hs]
    by_cases h1 : b.length ≤ a.length
    · have h2 : decide (a.length ≤ b.length) = false := decide_eq_false (by omega)
      rw [h2]; simp
    · have h2 : decide (b.length ≤ a.length) = false := decide_eq_false h1
      rw [h2]; simp
theorem key_two {a b : RdnL} (ha : dnB a = true) (hb : dnB b = true) : ((dnKeyS a).toList == (dnKeyS b).toList) = sameB a b := by
  have ea : dnKeyS a = keyS a := by unfold dnKeyS; simp [ha]
  have eb : dnKeyS b = keyS b := by unfold dnKeyS; simp [hb]
  rw [ea, eb]
  exact key_same (dnB_rdns ha) (dnB_rdns hb)
end Go.Proofs.Ytjajpdghamecoaa
/- EntrySame: what the program returns. -/
namespace Go.Proofs.Ytjajpdghamecoaa
open Go.RowKit
attribute [local go_sem ↓] Go.wp_at_zero Go.wp_at_succ

/-- two lists as long as each other, alike element by element -/
noncomputable def pairB {α : Type} (eq : α → α → Bool) (a b : List α) : Bool := @decide (a.length = b.length ∧ ∀ i (h : i < a.length) (h' : i < b.length), eq a[i] b[i] = true) (Classical.propDecidable _)
theorem pairB_yes {α : Type} {eq : α → α → Bool} {a b : List α} (hl : a.length = b.length) (h : ∀ i (h : i < a.length) (h' : i < b.length), eq a[i] b[i] = true) : pairB eq a b = true := @decide_eq_true _ (Classical.propDecidable _) ⟨hl, h⟩
theorem pairB_len {α : Type} {eq : α → α → Bool} {a b : List α} (hl : a.length ≠ b.length) : pairB eq a b = false := @decide_eq_false _ (Classical.propDecidable _) (fun h => hl h.1)
theorem pairB_no {α : Type} {eq : α → α → Bool} {a b : List α} {k : Nat} (hk : k < a.length) (hk' : k < b.length) (h : eq a[k] b[k] = false) : pairB eq a b = false :=
  @decide_eq_false _ (Classical.propDecidable _) (fun g => by have := g.2 k hk hk'; rw [h] at this; cases this)
def normEq (x y : ByteArray) : Bool := (normS x).toList == (normS y).toList
noncomputable def attrEq (a b : AttrV) : Bool := (a.1.toList == b.1.toList) && pairB normEq a.2 b.2
set_option maxHeartbeats 1000000 in
theorem sameNorm_any (w0 : World) (a b : ByteArray) (w : World) (ha : a.size ≤ maxLen) (hb : b.size ≤ maxLen) (hB : Below w0.heap.size w0 w) :
    Calls Try.prog 114 #[.string a, .string b] w fun e w' => e = .returned (.bool (normEq a b)) ∧ Below w0.heap.size w0 w' := by
  have HE : Hid (normEq a b = ((normS a).toList == (normS b).toList)) := Lib.hid rfl
  have HN : Hid (∀ (s : ByteArray) W, s.size ≤ maxLen → Below w0.heap.size w0 W → Calls Try.prog 99 #[.string s] W fun e w' => e = .returned (.string (normS s)) ∧ Below w0.heap.size w0 w') :=
    Lib.hid (fun s W hs h => (Norm_any s W hs).mono fun _ _ g => ⟨g.1, h.trans (g.2.mono h.size)⟩)
  go_enter Try.func114, Try.ntmps114
  go_wp2_with (first
    | (go_at_call 99; refine (HN.out _ _ ha hB).mono ?_; rintro e w1 ⟨rfl, hb1⟩; clear hB)
    | (go_at_call 99; refine (HN.out _ _ hb hb1).mono ?_; rintro e w2 ⟨rfl, hb2⟩; clear hb1)
    | (fail "none"))
  go_ret
  exact ⟨ret_bool HE.out.symm, hb2⟩
set_option maxRecDepth 100000 in
set_option maxHeartbeats 1000000 in
theorem eqStr_any (w0 : World) (ao bo : Option Addr) (a b : List ByteArray) (ca cb : Nat) (w : World) (hda : StrsAt w0 ao a) (hdb : StrsAt w0 bo b) (hfa : FitsV a) (hfb : FitsV b) (hB : Below w0.heap.size w0 w) :
    Calls Try.prog 115 #[.slice ao a.length ca, .slice bo b.length cb, .func (.func 114) #[] #[]] w fun e w' => e = .returned (.bool (pairB normEq a b)) ∧ Below w0.heap.size w0 w' := by
  have hla := hfa.1
  have hlb := hfb.1
  have HA := Lib.hid hda; have HB := Lib.hid hdb; have FA := Lib.hid hfa; have FB := Lib.hid hfb; clear hda hdb hfa hfb
  by_cases hl : a.length = b.length
  · have gl : ((a.length : Int) != (b.length : Int)) = false := by simp [hl]
    have HLen := Lib.hid hl
    clear hl
    go_enter Try.func115, Try.ntmps115
    go_wp2
    go_loopw [17] (fun i wr => ∃ k : Nat, k ≤ a.length ∧ i = .int .i64 k ∧ (∀ j (h : j < a.length) (h' : j < b.length), j < k → normEq a[j] b[j] = true) ∧ Below w0.heap.size w0 wr) (fun i _ => a.length - (intOf i).toNat)
    case atStart => exact ⟨0, Nat.zero_le _, rfl, fun j _ _ h => absurd h (Nat.not_lt_zero _), hB⟩
    case round =>
      obtain ⟨k, hk, rfl, hj, hbel⟩ := hrel
      have Hj := Lib.hid hj; clear hj
      by_cases hlt : k < a.length
      · have hlt' : k < b.length := by have := HLen.out; omega
        obtain ⟨p, off, rfl, hp0, hd1⟩ := HA.out.at hlt
        obtain ⟨q, off', rfl, hq0, he1⟩ := HB.out.at hlt'
        have c1 := (hbel.cell (p := ⟨p, off + k, none⟩) hp0).trans hd1
        have c2 := (hbel.cell (p := ⟨q, off' + k, none⟩) hq0).trans he1
        have hz1 := FA.out.max hlt
        have hz2 := FB.out.max hlt'
        have HX : Hid (normEq a[k] b[k] = false → pairB normEq a b = false) := Lib.hid (fun h => pairB_no hlt hlt' h)
        have HN : Hid (normEq a[k] b[k] = true → ∀ j (h : j < a.length) (h' : j < b.length), j < k + 1 → normEq a[j] b[j] = true) := Lib.hid (fun hn j h h' hjk => by
          by_cases e : j = k
          · subst e; exact hn
          · exact Hj.out j h h' (by omega))
        have g1 : (0 : Int) ≤ (k : Int) := by omega
        have g2 : (k : Int) < (a.length : Int) := by omega
        have g3 : (k : Int) < (b.length : Int) := by omega
        clear hd1 he1
        generalize a[k] = X at *
        generalize b[k] = Y at *
        cases hn : normEq X Y
        · have HX' := Lib.hid (HX.out hn)
          go_wp2_with (first | (go_at_call 114; refine (sameNorm_any w0 X Y _ hz1 hz2 hbel).mono ?_; rw [hn]; rintro e w1 ⟨rfl, hb1⟩) | (fail "none"))
          go_ret
          exact ⟨ret_bool HX'.out.symm, hb1⟩
        · have HN' := Lib.hid (HN.out hn)
          go_wp2_with (first | (go_at_call 114; refine (sameNorm_any w0 X Y _ hz1 hz2 hbel).mono ?_; rw [hn]; rintro e w1 ⟨rfl, hb1⟩) | (fail "none"))
          go_roundw
          case rel => exact ⟨k + 1, by omega, by go_num, HN'.out, hb1⟩
          case measure => simp [intOf]; omega
      · have HT := Lib.hid (pairB_yes (eq := normEq) HLen.out (fun j h h' => Hj.out j h h' (by omega)))
        go_wp2
        go_ret
        exact ⟨ret_bool HT.out.symm, hbel⟩
  · have HX := Lib.hid (pairB_len (eq := normEq) hl)
    have gl : ((a.length : Int) != (b.length : Int)) = true := by simp; omega
    go_enter Try.func115, Try.ntmps115
    go_wp2
    go_ret
    exact ⟨ret_bool HX.out.symm, hB⟩
set_option maxRecDepth 100000 in
set_option maxHeartbeats 1000000 in
theorem sameAttr_any (w0 : World) (A B : ByteArray) (vo uo : Option Addr) (V U : List ByteArray) (vc uc : Nat) (w : World) (hv : StrsAt w0 vo V) (hu : StrsAt w0 uo U) (hfv : FitsV V) (hfu : FitsV U) (hB : Below w0.heap.size w0 w) :
    Calls Try.prog 79 #[.agg #[.string A, .slice vo V.length vc], .agg #[.string B, .slice uo U.length uc]] w fun e w' => e = .returned (.bool (attrEq (A, V) (B, U))) ∧ Below w0.heap.size w0 w' := by
  have HV := Lib.hid hv; have HU := Lib.hid hu; have FV := Lib.hid hfv; have FU := Lib.hid hfu; have HB := Lib.hid hB; clear hv hu hfv hfu hB
  have HE : Hid (attrEq (A, V) (B, U) = ((A.toList == B.toList) && pairB normEq V U)) := Lib.hid rfl
  have B0 := Lib.hid (more (more HB.out (.cells #[.string A, .slice vo V.length vc] 81)) (.cells #[.string B, .slice uo U.length uc] 81))
  cases hn : (A.toList == B.toList)
  · rw [hn] at HE
    go_enter Try.func79, Try.ntmps79
    go_wp2
    go_ret
    exact ⟨ret_bool (by rw [HE.out]; rfl), B0.out⟩
  · rw [hn] at HE
    go_enter Try.func79, Try.ntmps79
    go_wp2_with fail
    refine (eqStr_any w0 vo uo V U vc uc _ HV.out HU.out FV.out FU.out B0.out).mono ?_
    rintro e w1 ⟨rfl, hb1⟩
    generalize pairB normEq V U = r at *
    go_wp2
    go_ret
    exact ⟨ret_bool (by rw [HE.out]; rfl), hb1⟩
set_option maxRecDepth 100000 in
set_option maxHeartbeats 1000000 in
theorem eqAttrs_any (ao bo : Option Addr) (a b : List AttrV) (ca cb : Nat) (w : World) (hda : AttrsAt w ao a) (hdb : AttrsAt w bo b) (hfa : FitsA a) (hfb : FitsA b) :
    Calls Try.prog 78 #[.slice ao a.length ca, .slice bo b.length cb, .func (.func 79) #[] #[]] w fun e w' => e = .returned (.bool (pairB attrEq a b)) ∧ Below w.heap.size w w' := by
  have hla := hfa.1
  have hlb := hfb.1
  have HA := Lib.hid hda; have HB := Lib.hid hdb; have FA := Lib.hid hfa; have FB := Lib.hid hfb; clear hda hdb hfa hfb
  by_cases hl : a.length = b.length
  · have gl : ((a.length : Int) != (b.length : Int)) = false := by simp [hl]
    have HLen := Lib.hid hl
    clear hl
    go_enter Try.func78, Try.ntmps78
    go_wp2
    go_loopw [17] (fun i wr => ∃ k : Nat, k ≤ a.length ∧ i = .int .i64 k ∧ (∀ j (h : j < a.length) (h' : j < b.length), j < k → attrEq a[j] b[j] = true) ∧ Below w.heap.size w wr) (fun i _ => a.length - (intOf i).toNat)
    case atStart => exact ⟨0, Nat.zero_le _, rfl, fun j _ _ h => absurd h (Nat.not_lt_zero _), Below.refl _ _⟩
    case round =>
      obtain ⟨k, hk, rfl, hj, hbel⟩ := hrel
      have Hj := Lib.hid hj; clear hj
      by_cases hlt : k < a.length
      · have hlt' : k < b.length := by have := HLen.out; omega
        obtain ⟨p, off, vo, vc, rfl, hp0, hd1, hd2, hv⟩ := HA.out.at hlt
        obtain ⟨q, off', uo, uc, rfl, hq0, he1, he2, hu⟩ := HB.out.at hlt'
        have hp1 : p < wr.heap.size := Nat.lt_of_lt_of_le hp0 hbel.size
        have hq1 : q < wr.heap.size := Nat.lt_of_lt_of_le hq0 hbel.size
        have c1 := (hbel.cell (p := ⟨p, off + k * 2, none⟩) hp0).trans hd1
        have c2 := (hbel.cell (p := ⟨p, off + k * 2 + 1, none⟩) hp0).trans hd2
        have c3 := (hbel.cell (p := ⟨q, off' + k * 2, none⟩) hq0).trans he1
        have c4 := (hbel.cell (p := ⟨q, off' + k * 2 + 1, none⟩) hq0).trans he2
        have HV := Lib.hid hv.1; have HU := Lib.hid hu.1; clear hv hu
        have F1 := Lib.hid (FA.out.at hlt).2; have F2 := Lib.hid (FB.out.at hlt').2
        have HX : Hid (attrEq (a[k].1, a[k].2) (b[k].1, b[k].2) = false → pairB attrEq a b = false) := Lib.hid (fun h => pairB_no hlt hlt' h)
        have HN : Hid (attrEq (a[k].1, a[k].2) (b[k].1, b[k].2) = true → ∀ j (h : j < a.length) (h' : j < b.length), j < k + 1 → attrEq a[j] b[j] = true) := Lib.hid (fun hn j h h' hjk => by
          by_cases e : j = k
          · subst e; exact hn
          · exact Hj.out j h h' (by omega))
        have g1 : (0 : Int) ≤ (k : Int) := by omega
        have g2 : (k : Int) < (a.length : Int) := by omega
        have g3 : (k : Int) < (b.length : Int) := by omega
        clear hd1 he1 hd2 he2
        generalize a[k].1 = A at *
        generalize a[k].2 = V at *
        generalize b[k].1 = C at *
        generalize b[k].2 = U at *
        have hb2 := Lib.hid (more (more hbel (.cells #[.string A, .slice vo V.length vc] 81)) (.cells #[.string C, .slice uo U.length uc] 81))
        cases hn : attrEq (A, V) (C, U)
        · have HX' := Lib.hid (HX.out hn)
          go_wp2_with (first | (go_at_call 79; refine (sameAttr_any w A C vo uo V U vc uc _ HV.out HU.out F1.out F2.out hb2.out).mono ?_; rw [hn]; rintro e w1 ⟨rfl, hb1⟩) | (fail "none"))
          go_ret
          exact ⟨ret_bool HX'.out.symm, hb1⟩
        · have HN' := Lib.hid (HN.out hn)
          go_wp2_with (first | (go_at_call 79; refine (sameAttr_any w A C vo uo V U vc uc _ HV.out HU.out F1.out F2.out hb2.out).mono ?_; rw [hn]; rintro e w1 ⟨rfl, hb1⟩) | (fail "none"))
          go_roundw
          case rel => exact ⟨k + 1, by omega, by go_num, HN'.out, hb1⟩
          case measure => simp [intOf]; omega
      · have HT := Lib.hid (pairB_yes (eq := attrEq) HLen.out (fun j h h' => Hj.out j h h' (by omega)))
        go_wp2
        go_ret
        exact ⟨ret_bool HT.out.symm, hbel⟩
  · have HX := Lib.hid (pairB_len (eq := attrEq) hl)
    have gl : ((a.length : Int) != (b.length : Int)) = true := by simp; omega
    go_enter Try.func78, Try.ntmps78
    go_wp2
    go_ret
    exact ⟨ret_bool HX.out.symm, Below.refl _ _⟩
end Go.Proofs.Ytjajpdghamecoaa
/- HasValue: what the program returns. -/
namespace Go.Proofs.Ytjajpdghamecoaa
open Go.RowKit
attribute [local go_sem ↓] Go.wp_at_zero Go.wp_at_succ

/-- the number of the first that is so, or -1 -/
def findI {α : Type} (p : α → Bool) (l : List α) : Int := match l.findIdx? p with | some i => (i : Int) | none => -1
theorem findI_none {α : Type} {p : α → Bool} {l : List α} (h : ∀ i (hi : i < l.length), p l[i] = false) : findI p l = -1 := by
  have : l.findIdx? p = none := by
    rw [List.findIdx?_eq_none_iff]
    intro a ha
    obtain ⟨i, hi, rfl⟩ := List.getElem_of_mem ha
    exact h i hi
  unfold findI; rw [this]
theorem findI_some {α : Type} {p : α → Bool} {l : List α} {k : Nat} (hk : k < l.length) (h1 : p l[k] = true) (h : ∀ i (hi : i < l.length), i < k → p l[i] = false) : findI p l = (k : Int) := by
  have : l.findIdx? p = some k := by
    rw [List.findIdx?_eq_some_iff_getElem]
    exact ⟨hk, h1, fun j hj => by simpa using h j (by omega) hj⟩
  unfold findI; rw [this]
theorem findI_range {α : Type} (p : α → Bool) (l : List α) : -1 ≤ findI p l ∧ findI p l ≤ l.length := by
  unfold findI
  cases h : l.findIdx? p with
  | none => constructor <;> simp <;> omega
  | some i =>
    rw [List.findIdx?_eq_some_iff_getElem] at h
    obtain ⟨hi, _⟩ := h
    constructor <;> simp <;> omega
def likeV (val v : ByteArray) : Bool := normEq v val
noncomputable def hasB (d : RdnL) (l : List AttrV) (nm val : ByteArray) : Bool := decide (0 ≤ findI (likeV val) (attrOfL d l nm))
set_option maxRecDepth 100000 in
set_option maxHeartbeats 1000000 in
theorem like_any (w0 : World) (q : Nat) (x val : ByteArray) (w : World) (hx : x.size ≤ maxLen) (hv : val.size ≤ maxLen) (hc : w0.cell? ⟨q, 0, none⟩ = some (.string val)) (hq : q < w0.heap.size) (hB : Below w0.heap.size w0 w) :
    Calls Try.prog 113 #[.string x, .pointer (some ⟨q, 0, none⟩)] w fun e w' => e = .returned (.bool (likeV val x)) ∧ Below w0.heap.size w0 w' := by
  have c1 := (hB.cell (p := ⟨q, 0, none⟩) hq).trans hc
  have HE : Hid (likeV val x = normEq x val) := Lib.hid rfl
  go_enter Try.func113, Try.ntmps113
  go_wp2_with fail
  refine (sameNorm_any w0 x val w hx hv hB).mono ?_
  rintro e w1 ⟨rfl, hb1⟩
  generalize normEq x val = r at *
  go_wp2
  go_ret
  exact ⟨ret_bool HE.out.symm, hb1⟩
set_option maxRecDepth 100000 in
set_option maxHeartbeats 1000000 in
theorem indexFunc_any (w0 : World) (vo : Option Addr) (V : List ByteArray) (vc q : Nat) (val : ByteArray) (w : World) (hd : StrsAt w0 vo V) (hf : FitsV V) (hv : val.size ≤ maxLen) (hc : w0.cell? ⟨q, 0, none⟩ = some (.string val)) (hq : q < w0.heap.size) (hB : Below w0.heap.size w0 w) :
    Calls Try.prog 112 #[.slice vo V.length vc, .func (.func 113) #[] #[.pointer (some ⟨q, 0, none⟩)]] w fun e w' => e = .returned (.int .i64 (findI (likeV val) V)) ∧ Below w0.heap.size w0 w' := by
  have hl := hf.1
  have HD := Lib.hid hd; have HF := Lib.hid hf; have HC := Lib.hid hc; clear hd hf hc
  go_enter Try.func112, Try.ntmps112
  go_wp2_with fail
  go_loopw [8] (fun i wr => ∃ k : Nat, k ≤ V.length ∧ i = .int .i64 k ∧ (∀ j (h : j < V.length), j < k → likeV val V[j] = false) ∧ Below w0.heap.size w0 wr) (fun i _ => V.length - (intOf i).toNat)
  case atStart => exact ⟨0, Nat.zero_le _, rfl, fun j _ h => absurd h (Nat.not_lt_zero _), hB⟩
  case round =>
    obtain ⟨k, hk, rfl, hj, hbel⟩ := hrel
    have Hj := Lib.hid hj; clear hj
    by_cases hlt : k < V.length
    · obtain ⟨p, off, rfl, hp0, hd1⟩ := HD.out.at hlt
      have c1 := (hbel.cell (p := ⟨p, off + k, none⟩) hp0).trans hd1
      have hz := HF.out.max hlt
      have g1 : (0 : Int) ≤ (k : Int) := by omega
      have g2 : (k : Int) < (V.length : Int) := by omega
      have HX : Hid (likeV val V[k] = true → findI (likeV val) V = (k : Int)) := Lib.hid (fun h => findI_some hlt h Hj.out)
      have HN : Hid (likeV val V[k] = false → ∀ j (h : j < V.length), j < k + 1 → likeV val V[j] = false) := Lib.hid (fun hn j h hjk => by
        by_cases e : j = k
        · subst e; exact hn
        · exact Hj.out j h (by omega))
      clear hd1
      generalize V[k] = x at *
      cases hn : likeV val x
      · have HN' := Lib.hid (HN.out hn)
        go_wp2_with fail
        refine (like_any w0 q x val wr hz hv HC.out hq hbel).mono ?_
        rw [hn]
        rintro e w1 ⟨rfl, hb1⟩
        go_wp2
        go_roundw
        case rel => exact ⟨k + 1, by omega, by go_num, HN'.out, hb1⟩
        case measure => simp [intOf]; omega
      · have HX' := Lib.hid (HX.out hn)
        go_wp2_with fail
        refine (like_any w0 q x val wr hz hv HC.out hq hbel).mono ?_
        rw [hn]
        rintro e w1 ⟨rfl, hb1⟩
        go_wp2
        go_ret
        exact ⟨ret_int' HX'.out.symm, hb1⟩
    · have HT := Lib.hid (findI_none (p := likeV val) (l := V) (fun i hi => Hj.out i hi (by omega)))
      go_wp2
      go_ret
      exact ⟨ret_int' HT.out.symm, hbel⟩
set_option maxRecDepth 100000 in
set_option maxHeartbeats 1000000 in
theorem normIndex_any (vo : Option Addr) (V : List ByteArray) (vc : Nat) (val : ByteArray) (w : World) (hd : StrsAt w vo V) (hf : FitsV V) (hv : val.size ≤ maxLen) :
    Calls Try.prog 76 #[.slice vo V.length vc, .string val] w fun e w' => e = .returned (.int .i64 (findI (likeV val) V)) ∧ Below w.heap.size w w' := by
  have HD := Lib.hid hd; have HF := Lib.hid hf; clear hd hf
  go_enter Try.func76, Try.ntmps76
  go_wp2_with fail
  have hB1 := more (Below.refl w.heap.size w) (.cells #[.string val] 9)
  refine (indexFunc_any (w.alloc (.cells #[.string val] 9)) vo V vc w.heap.size val _ (HD.out.below hB1) HF.out hv (by simp) (by simp) (Below.refl _ _)).mono ?_
  rintro e w1 ⟨rfl, hb1⟩
  generalize hr : findI (likeV val) V = r at *
  have HR := Lib.hid hr; clear hr
  go_wp2
  go_ret
  exact ⟨ret_int' HR.out.symm, hB1.trans (hb1.mono hB1.size)⟩
theorem own_strs {w : World} {B n cap : Nat} {ao : Option Addr} {V : List ByteArray} (h : w.ownsRow B 9 1 (.slice ao n cap) V.length (ss V)) : StrsAt w ao V := by
  by_cases h0 : V.length = 0
  · exact .inl (List.length_eq_zero_iff.1 h0)
  · obtain ⟨g, cp, hv, _, hlt⟩ := h.form (by omega)
    have e : ao = some ⟨g, 0, none⟩ := by injection hv
    subst e
    refine .inr ⟨g, 0, rfl, hlt, fun i hi => ?_⟩
    have := h.cells (g := g) rfl i (.string V[i]) (by unfold ss; rw [List.getElem?_map, List.getElem?_eq_getElem hi]; rfl)
    rw [add_plain] at this; rw [Nat.zero_add]; exact this
theorem attrOf_fits {d : RdnL} {l : List AttrV} (h : FitsA l) (nm : ByteArray) : FitsV (attrOfL d l nm) := by
  unfold attrOfL; split
  · exact valsOf_fits h nm
  · exact .nil
set_option maxRecDepth 100000 in
set_option maxHeartbeats 1000000 in
theorem HasValue_any (ao bo : Option Addr) (d : RdnL) (l : List AttrV) (ca cb : Nat) (nm val : ByteArray) (w : World) (hd : DnAt w ao d) (hl : AttrsAt w bo l) (hfd : Fits d) (hfl : FitsA l) (hn : nm.size ≤ maxLen) (hv : val.size ≤ maxLen) :
    Calls Try.prog 39 #[.agg #[.slice ao d.length ca, .slice bo l.length cb], .string nm, .string val] w fun e w' => e = .returned (.bool (hasB d l nm val)) ∧ Below w.heap.size w w' := by
  have HD := Lib.hid hd; have HL := Lib.hid hl; have FD := Lib.hid hfd; have FL := Lib.hid hfl; clear hd hl hfd hfl
  have HE : Hid (hasB d l nm val = decide (0 ≤ findI (likeV val) (attrOfL d l nm))) := Lib.hid rfl
  go_enter Try.func39, Try.ntmps39
  go_wp2_with fail
  have hB1 := more (Below.refl w.heap.size w) (.cells #[.slice ao d.length ca, .slice bo l.length cb] 43)
  refine (AttrOf_any ao bo d l ca cb nm _ (HD.out.below hB1) (HL.out.below hB1) FD.out FL.out hn).mono ?_
  rintro e w1 ⟨⟨v1, rfl, hown⟩, hb1⟩
  have FV := Lib.hid (attrOf_fits (d := d) FL.out nm)
  have B1 := Lib.hid (hB1.trans (hb1.mono hB1.size))
  obtain ⟨vo, vc, rfl⟩ := own_slice hown
  have HS := Lib.hid (own_strs hown)
  clear hown hb1 hB1
  generalize attrOfL d l nm = V at *
  go_wp2_with fail
  refine (normIndex_any vo V vc val w1 HS.out FV.out hv).mono ?_
  rintro e w2 ⟨rfl, hb2⟩
  generalize findI (likeV val) V = r at *
  by_cases h0 : 0 ≤ r
  · go_wp2
    go_ret
    exact ⟨ret_bool (by rw [HE.out]; first | done | simpa using h0), B1.out.trans (hb2.mono B1.out.size)⟩
  · have h1 : r < 0 := by omega
    go_wp2
    go_ret
    exact ⟨ret_bool (by rw [HE.out]; first | done | simpa using h1), B1.out.trans (hb2.mono B1.out.size)⟩
end Go.Proofs.Ytjajpdghamecoaa
/- HasValue: what the specification returns. -/
namespace Go.Proofs.Ytjajpdghamecoaa
open Go.RowKit
attribute [local go_sem ↓] Go.wp_at_zero Go.wp_at_succ

theorem likeV_eq (val v : ByteArray) : likeV val v = ((normS v).toList == (normS val).toList) := rfl
set_option maxRecDepth 100000 in
set_option maxHeartbeats 1000000 in
theorem l03In_any (vo : Option Addr) (V : List ByteArray) (vc : Nat) (val : ByteArray) (w : World) (hd : StrsAt w vo V) (hf : FitsV V) :
    Calls Try.prog 111 #[.slice vo V.length vc, .string (normS val)] w fun e w' => e = .returned (.int .i64 (findI (likeV val) V)) ∧ Below w.heap.size w w' := by
  have hl := hf.1
  have HD := Lib.hid hd; have HF := Lib.hid hf; clear hd hf
  go_enter Try.func111, Try.ntmps111
  go_wp2_with fail
  go_loopw [5] (fun i wr => ∃ k : Nat, k ≤ V.length ∧ i = .int .i64 k ∧ (∀ j (h : j < V.length), j < k → likeV val V[j] = false) ∧ Below w.heap.size w wr) (fun i _ => V.length - (intOf i).toNat)
  case atStart => exact ⟨0, Nat.zero_le _, rfl, fun j _ h => absurd h (Nat.not_lt_zero _), Below.refl _ _⟩
  case round =>
    obtain ⟨k, hk, rfl, hj, hbel⟩ := hrel
    have Hj := Lib.hid hj; clear hj
    by_cases hlt : k < V.length
    · obtain ⟨p, off, rfl, hp0, hd1⟩ := HD.out.at hlt
      have c1 := (hbel.cell (p := ⟨p, off + k, none⟩) hp0).trans hd1
      have hz := HF.out.max hlt
      have g1 : (0 : Int) ≤ (k : Int) := by omega
      have g2 : (k : Int) < (V.length : Int) := by omega
      have HX : Hid (likeV val V[k] = true → findI (likeV val) V = (k : Int)) := Lib.hid (fun h => findI_some hlt h Hj.out)
      have HN : Hid (likeV val V[k] = false → ∀ j (h : j < V.length), j < k + 1 → likeV val V[j] = false) := Lib.hid (fun hn j h hjk => by
        by_cases e : j = k
        · subst e; exact hn
        · exact Hj.out j h (by omega))
      have HQ := Lib.hid (likeV_eq val V[k])
      have H93 : Hid (Calls Try.prog 93 #[.string V[k]] wr fun e w' => e = .returned (.string (normS V[k])) ∧ Below w.heap.size w w') := Lib.hid (SpecNorm_from w V[k] wr hz hbel)
      clear hd1
      generalize V[k] = x at *
      generalize normS x = nx at *
      generalize normS val = nv at *
      cases hq : (nx.toList == nv.toList)
      · have HN' := Lib.hid (HN.out (HQ.out.trans hq))
        go_wp2_with fail
        refine H93.out.mono ?_
        rintro e w1 ⟨rfl, hb1⟩
        go_wp2
        go_roundw
        case rel => exact ⟨k + 1, by omega, by go_num, HN'.out, hb1⟩
        case measure => simp [intOf]; omega
      · have HX' := Lib.hid (HX.out (HQ.out.trans hq))
        go_wp2_with fail
        refine H93.out.mono ?_
        rintro e w1 ⟨rfl, hb1⟩
        go_wp2
        go_ret
        exact ⟨ret_int' HX'.out.symm, hb1⟩
    · have HT := Lib.hid (findI_none (p := likeV val) (l := V) (fun i hi => Hj.out i hi (by omega)))
      go_wp2
      go_ret
      exact ⟨ret_int' HT.out.symm, hbel⟩
theorem vals_proper {d : RdnL} {l : List AttrV} (h : rightB d l = true) {nm v : ByteArray} (hv : v ∈ valsOf l nm) : valB v = true := by
  cases ha : atN l nm with
  | none => rw [(atN_none ha).2] at hv; simp at hv
  | some i =>
    obtain ⟨hi, _, h2, _⟩ := atN_some ha
    rw [h2] at hv
    unfold rightB attrsB at h
    simp only [Bool.and_eq_true, List.all_eq_true] at h
    have := h.2.1.2 _ (List.getElem_mem hi)
    unfold attrB valsB at this
    simp only [Bool.and_eq_true, List.all_eq_true] at this
    exact this.2.1.2 v hv
/-- an empty normalized form is that of no value of an entry -/
theorem has_empty {d : RdnL} {l : List AttrV} {nm val : ByteArray} (h : (normS val).toList = []) : findI (likeV val) (attrOfL d l nm) = -1 := by
  refine findI_none fun i hi => ?_
  have hm := List.getElem_mem hi
  cases hr : rightB d l
  · rw [attrOf_no hr] at hi; simp at hi
  · rw [likeV_eq, h]
    have : valB (attrOfL d l nm)[i] = true := by
      refine vals_proper hr (nm := nm) ?_
      have e := attrOf_yes hr nm
      rw [← e]; exact hm
    unfold valB at this
    simp only [Bool.and_eq_true] at this
    have h2 := this.2
    cases hq : (normS (attrOfL d l nm)[i]).toList with
    | nil => rw [hq] at h2; simp at h2
    | cons a b => rfl
theorem norm_long {val : ByteArray} (h : 100 < val.size) : (normS val).toList = [] := by
  rw [Lib.toList_data]
  unfold normS normL
  have : ¬ (val.data.toList.length ≤ 100 ∧ plainB val.data.toList = true) := by rw [size_len]; omega
  rw [if_neg this]
theorem hasB_long {d : RdnL} {l : List AttrV} {nm val : ByteArray} (h : 8000 < nm.size ∨ 8000 < val.size) : hasB d l nm val = false := by
  unfold hasB
  rcases h with h | h
  · rw [attrOf_long (by omega), findI_none (fun i hi => by simp at hi)]; rfl
  · rw [has_empty (norm_long (by omega))]; rfl
theorem hasB_no {d : RdnL} {l : List AttrV} {nm val : ByteArray} (h : rightB d l = false) : hasB d l nm val = false := by
  unfold hasB
  rw [attrOf_no h, findI_none (fun i hi => by simp at hi)]; rfl
theorem hasB_empty {d : RdnL} {l : List AttrV} {nm val : ByteArray} (h : (normS val).toList = []) : hasB d l nm val = false := by
  unfold hasB; rw [has_empty h]; rfl
theorem hasB_yes {d : RdnL} {l : List AttrV} {nm val : ByteArray} (h : rightB d l = true) : hasB d l nm val = decide (0 ≤ findI (likeV val) (valsOf l nm)) := by
  unfold hasB; rw [attrOf_yes h]
set_option maxRecDepth 100000 in
set_option maxHeartbeats 1000000 in
theorem l03Has_any (ao bo : Option Addr) (d : RdnL) (l : List AttrV) (ca cb : Nat) (nm val : ByteArray) (w : World) (hl : AttrsAt w bo l) (hfl : FitsA l) (hv : val.size ≤ maxLen) (hr : rightB d l = true) :
    Calls Try.prog 75 #[.agg #[.slice ao d.length ca, .slice bo l.length cb], .string nm, .string val] w fun e w' => e = .returned (.bool (hasB d l nm val)) ∧ Below w.heap.size w w' := by
  have HL := Lib.hid hl; have FL := Lib.hid hfl; clear hl hfl
  have HY := Lib.hid (hasB_yes (nm := nm) (val := val) hr)
  clear hr
  go_enter Try.func75, Try.ntmps75
  go_wp2_with fail
  refine calls_any' (fun W => Below w.heap.size w W ∧ Two W w.heap.size 43 (.slice ao d.length ca) (.slice bo l.length cb)) ⟨more (Below.refl _ _) _, twoNew w 43 _ _⟩ ?_
  rintro W ⟨hbW, t0⟩
  refine (SpecNorm_from W val W hv (Below.refl _ _)).mono ?_
  rintro e w1 ⟨rfl, hb1⟩
  have B1 := Lib.hid (hbW.trans (hb1.mono hbW.size)); have T1 := Lib.hid (t0.below hb1)
  clear hbW t0 hb1
  obtain ⟨⟨c0, c1⟩, _⟩ := T1.out.cells
  by_cases he : (normS val).toList = []
  · have HE := Lib.hid (hasB_empty (d := d) (l := l) (nm := nm) he)
    have h1 : ((normS val).toList == []) = true := by rw [he]; rfl
    generalize normS val = nv at *
    go_wp2
    go_ret
    exact ⟨ret_bool HE.out.symm, B1.out⟩
  · have h1 : ((normS val).toList == []) = false := by simpa using he
    have h2 : (normS val).toList.isEmpty = false := by simpa using he
    have HI := Lib.hid (fun vo V vc W h f => l03In_any vo V vc val W h f)
    generalize normS val = nv at *
    have HEq := Lib.hid he; clear he
    go_wp2_with fail
    refine (l03Of_any ao bo d l ca cb nm w1 (HL.out.below B1.out) FL.out).mono ?_
    rintro e w2 ⟨⟨vo, vc, rfl, hv2⟩, hb2⟩
    have HV := Lib.hid hv2.1
    have FV := Lib.hid (valsOf_fits FL.out nm)
    have B2 := Lib.hid (B1.out.trans (hb2.mono B1.out.size))
    clear hv2 hb2 c0 c1
    generalize valsOf l nm = V at *
    go_wp2_with fail
    refine (HI.out vo V vc w2 HV.out FV.out).mono ?_
    rintro e w3 ⟨rfl, hb3⟩
    have B3 := Lib.hid (B2.out.trans (hb3.mono B2.out.size))
    clear hb3 HI
    generalize findI (likeV val) V = r at *
    by_cases h0 : 0 ≤ r
    · go_wp2
      go_ret
      exact ⟨ret_bool (by rw [HY.out]; first | done | simpa using h0), B3.out⟩
    · have h0' : r < 0 := by omega
      go_wp2
      go_ret
      exact ⟨ret_bool (by rw [HY.out]; first | done | simpa using h0'), B3.out⟩
set_option maxRecDepth 100000 in
set_option maxHeartbeats 1000000 in
theorem SpecHasValue_any (ao bo : Option Addr) (d : RdnL) (l : List AttrV) (ca cb : Nat) (nm val : ByteArray) (w : World) (hd : DnAt w ao d) (hl : AttrsAt w bo l) (hfd : Fits d) (hfl : FitsA l) (hn : nm.size ≤ maxLen) (hv : val.size ≤ maxLen) :
    Calls Try.prog 38 #[.agg #[.slice ao d.length ca, .slice bo l.length cb], .string nm, .string val] w fun e w' => e = .returned (.bool (hasB d l nm val)) ∧ Below w.heap.size w w' := by
  have HD := Lib.hid hd; have HL := Lib.hid hl; have FD := Lib.hid hfd; have FL := Lib.hid hfl; have Hv := Lib.hid hv; clear hd hl hfd hfl
  unfold maxLen at hn hv
  have B0 := Lib.hid (more (Below.refl w.heap.size w) (.cells #[.slice ao d.length ca, .slice bo l.length cb] 43))
  by_cases h1 : 8000 < nm.size
  · have HE := Lib.hid (hasB_long (d := d) (l := l) (nm := nm) (val := val) (.inl h1))
    have g : ¬ (nm.size : Int) ≤ 8000 := by omega
    go_enter Try.func38, Try.ntmps38
    go_wp2
    go_ret
    exact ⟨ret_bool HE.out.symm, B0.out⟩
  · have g : (nm.size : Int) ≤ 8000 := by omega
    by_cases h2 : 8000 < val.size
    · have HE := Lib.hid (hasB_long (d := d) (l := l) (nm := nm) (val := val) (.inr h2))
      have g' : ¬ (val.size : Int) ≤ 8000 := by omega
      go_enter Try.func38, Try.ntmps38
      go_wp2
      go_ret
      exact ⟨ret_bool HE.out.symm, B0.out⟩
    · have g' : (val.size : Int) ≤ 8000 := by omega
      go_enter Try.func38, Try.ntmps38
      go_wp2_with fail
      refine calls_any' (fun W => Below w.heap.size w W ∧ Two W w.heap.size 43 (.slice ao d.length ca) (.slice bo l.length cb)) ⟨B0.out, twoNew w 43 _ _⟩ ?_
      rintro W ⟨hbW, t0⟩
      refine (SpecEntryRight_any ao bo d l ca cb W (HD.out.below hbW) (HL.out.below hbW) FD.out FL.out).mono ?_
      rintro e w1 ⟨rfl, hb1⟩
      have B1 := Lib.hid (hbW.trans (hb1.mono hbW.size)); have T1 := Lib.hid (t0.below hb1)
      clear hbW t0 hb1
      obtain ⟨⟨c0, c1⟩, _⟩ := T1.out.cells
      cases hr : rightB d l
      · have HE := Lib.hid (hasB_no (nm := nm) (val := val) hr)
        go_wp2
        go_ret
        exact ⟨ret_bool HE.out.symm, B1.out⟩
      · have HR := Lib.hid hr; clear hr
        go_wp2_with fail
        refine (l03Has_any ao bo d l ca cb nm val w1 (HL.out.below B1.out) FL.out Hv.out HR.out).mono ?_
        rintro e w2 ⟨rfl, hb2⟩
        generalize hq : hasB d l nm val = r at *
        have HQ := Lib.hid hq; clear hq
        go_wp2
        go_ret
        exact ⟨ret_bool HQ.out.symm, B1.out.trans (hb2.mono B1.out.size)⟩
theorem SpecHas_ent (v : Value) (d : RdnL) (l : List AttrV) (nm val : ByteArray) (w : World) (h : EntAt w v d l) (hfd : Fits d) (hfl : FitsA l) (hn : nm.size ≤ maxLen) (hv : val.size ≤ maxLen) :
    Calls Try.prog 38 #[v, .string nm, .string val] w fun e w' => e = .returned (.bool (hasB d l nm val)) ∧ Below w.heap.size w w' := by
  obtain ⟨ao, ca, bo, cb, rfl, h2, h3, _, _⟩ := h
  exact SpecHasValue_any ao bo d l ca cb nm val w h2 h3 hfd hfl hn hv
end Go.Proofs.Ytjajpdghamecoaa
/- The law FnExactHasValue: its walk. -/
namespace Go.Proofs.Ytjajpdghamecoaa
open Go.RowKit
attribute [local go_sem ↓] Go.wp_at_zero Go.wp_at_succ

set_option maxRecDepth 100000 in
set_option maxHeartbeats 1000000 in
theorem FnExactHasValue_walk (ao bo : Option Addr) (d : RdnL) (l : List AttrV) (ca cb : Nat) (nm val : ByteArray) (w : World) (hd : DnAt w ao d) (hl : AttrsAt w bo l) (hfd : Long d) (hfl : LongA l) (hnm : nm.size ≤ maxLen) (hval : val.size ≤ maxLen) :
    Calls Try.prog 7 #[.agg #[.slice ao d.length ca, .slice bo l.length cb], .string nm, .string val] w fun e w' => e = .returned (.bool true) ∧ Below w.heap.size w w' := by
  have HD := Lib.hid hd; have HL := Lib.hid hl; have LD := Lib.hid hfd; have LL := Lib.hid hfl; clear hd hl hfd hfl
  have Hnm := Lib.hid hnm; have Hval := Lib.hid hval
  unfold maxLen at hnm hval
  by_cases hbig : 1048576 < nm.size
  · go_enter Try.func7, Try.ntmps7
    go_wp2
    go_ret
    exact ⟨rfl, more (Below.refl _ _) _⟩
  by_cases hbig2 : 1048576 < val.size
  · go_enter Try.func7, Try.ntmps7
    go_wp2
    go_ret
    exact ⟨rfl, more (Below.refl _ _) _⟩
  go_enter Try.func7, Try.ntmps7
  have HB0 : Hid (Below w.heap.size w (w.alloc (.cells #[.slice ao d.length ca, .slice bo l.length cb] 38))) := Lib.hid (more (Below.refl _ _) _)
  have HT0 : Hid (Two (w.alloc (.cells #[.slice ao d.length ca, .slice bo l.length cb] 38)) w.heap.size 38 (.slice ao d.length ca) (.slice bo l.length cb)) := Lib.hid (twoNew w 38 _ _)
  go_wp2_with fail
  refine (szEntry_any ao bo d l ca cb 1048576 _ (HD.out.below HB0.out) (HL.out.below HB0.out) LD.out LL.out (by omega) (by omega)).mono ?_
  rintro e w1 ⟨rfl, b1'⟩
  have b1 := HB0.out.trans (b1'.mono HB0.out.size)
  have T1 := Lib.hid (HT0.out.below b1')
  obtain ⟨⟨p0, p1⟩, _⟩ := T1.out.cells
  clear b1'
  by_cases hfit : ((sizeE d l : Nat) : Int) ≤ 1048576
  · rw [leftR_pos hfit]
    obtain ⟨hfd, hfl⟩ := fitsE (d := d) (l := l) (by omega)
    have FD := Lib.hid hfd; have FL := Lib.hid hfl
    have hdl := hfd.1
    clear hfd hfl
    have h0 : ¬ (1048576 : Int) - ((sizeE d l : Nat) : Int) < 0 := by omega
    generalize ((sizeE d l : Nat) : Int) = t at *
    go_wp2_with fail
    refine (toEntry_any ao bo d l ca cb w1 (HD.out.below b1) (HL.out.below b1) hdl FL.out).mono ?_
    rintro e w2 ⟨v2, rfl, e2, b2⟩
    have B2 := Lib.hid (b1.trans (b2.mono b1.size))
    obtain ⟨⟨q0, q1⟩, _⟩ := (T1.out.below b2).cells
    have T2 := Lib.hid (T1.out.below b2)
    clear b2
    go_wp2_with fail
    refine (SpecHas_ent v2 d l nm val w2 e2 FD.out FL.out Hnm.out Hval.out).mono ?_
    rintro e w3 ⟨rfl, b3⟩
    have B3 := Lib.hid (B2.out.trans (b3.mono B2.out.size))
    have T3 := Lib.hid (T2.out.below b3)
    obtain ⟨⟨r0, r1⟩, _⟩ := T3.out.cells
    clear b3 e2
    go_wp2_with fail
    refine (toEntry_any ao bo d l ca cb w3 (HD.out.below B3.out) (HL.out.below B3.out) hdl FL.out).mono ?_
    rintro e w4 ⟨v4, rfl, e4, b4⟩
    have B4 := Lib.hid (B3.out.trans (b4.mono B3.out.size))
    have T4 := Lib.hid (T3.out.below b4)
    obtain ⟨xo, cx, yo, cy, rfl, x4, y4, _, _⟩ := e4
    have X4 := Lib.hid x4; have Y4 := Lib.hid y4
    clear b4 x4 y4
    go_wp2_with fail
    refine calls_any' (fun W => Below w.heap.size w W ∧ Two W w.heap.size 38 (.slice ao d.length ca) (.slice bo l.length cb) ∧ Two W w4.heap.size 43 (.slice xo d.length cx) (.slice yo l.length cy) ∧ DnAt W xo d ∧ AttrsAt W yo l) ⟨more B4.out _, T4.out.alloc _, twoNew w4 43 _ _, X4.out.below (more (Below.refl _ _) _), Y4.out.below (more (Below.refl _ _) _)⟩ ?_
    generalize w4.heap.size = G
    clear B4 T4 X4 Y4 T3 T2 T1 r0 r1 q0 q1 p0 p1
    rintro W ⟨hbW, t0, t1, x5, y5⟩
    refine (HasValue_any xo yo d l cx cy nm val W x5 y5 FD.out FL.out Hnm.out Hval.out).mono ?_
    rintro e w5 ⟨rfl, b5⟩
    have B5 := Lib.hid (hbW.trans (b5.mono hbW.size))
    have T5 := Lib.hid (t0.below b5); have U5 := Lib.hid (t1.below b5); have X5 := Lib.hid (x5.below b5); have Y5 := Lib.hid (y5.below b5)
    obtain ⟨⟨p0, p1⟩, _⟩ := T5.out.cells
    obtain ⟨⟨q0, q1⟩, _⟩ := U5.out.cells
    clear hbW t0 t1 x5 y5 b5
    generalize hasB d l nm val = r at *
    have hrr : (r != r) = false := by simp
    have SK : Hid (∀ V : World, Below w5.heap.size w5 V → (Below w5.heap.size w5 V ∧ V.cell? ⟨w.heap.size, 0, none⟩ = some (.slice ao d.length ca) ∧ V.cell? ⟨w.heap.size, 1, none⟩ = some (.slice bo l.length cb) ∧ V.cell? ⟨G, 0, none⟩ = some (.slice xo d.length cx) ∧ V.cell? ⟨G, 1, none⟩ = some (.slice yo l.length cy))) :=
      Lib.hid (fun V h => ⟨h, (T5.out.below h).cells.1.1, (T5.out.below h).cells.1.2, (U5.out.below h).cells.1.1, (U5.out.below h).cells.1.2⟩)
    have H29 : Hid (∀ V, Below w5.heap.size w5 V → Calls Try.prog 29 #[.agg #[.slice ao d.length ca, .slice bo l.length cb]] V fun e w' => (∃ zo cz uo cu, e = .returned (.agg #[.slice zo d.length cz, .slice uo l.length cu]) ∧ DnAt w' zo d ∧ AttrsAt w' uo l) ∧ Below w5.heap.size w5 w') :=
      Lib.hid (fun V h => (toEntry_any ao bo d l ca cb V (HD.out.below (B5.out.trans (h.mono B5.out.size))) (HL.out.below (B5.out.trans (h.mono B5.out.size))) hdl FL.out).mono fun e w' ⟨v, h1, ⟨zo, cz, uo, cu, h2, h3, h4, _⟩, h5⟩ => ⟨⟨zo, cz, uo, cu, by rw [h1, h2], h3, h4⟩, h.trans (h5.mono h.size)⟩)
    have H31 : Hid (∀ V zo cz uo cu, Below w5.heap.size w5 V → DnAt V zo d → AttrsAt V uo l → Calls Try.prog 31 #[.agg #[.slice xo d.length cx, .slice yo l.length cy], .agg #[.slice zo d.length cz, .slice uo l.length cu]] V fun e w' => e = .returned (.bool true) ∧ Below w5.heap.size w5 w') :=
      Lib.hid (fun V zo cz uo cu h h3 h4 => (eqEntry_any xo yo zo uo d l cx cy cz cu V (X5.out.below h) (Y5.out.below h) h3 h4 hdl FL.out).mono fun _ _ g => ⟨g.1, h.trans (g.2.mono h.size)⟩)
    have hb0 : Below w5.heap.size w5 w5 := Below.refl _ _
    have hbd := hb0.drew
    clear p0 p1 q0 q1
    go_wp2_with fail
    go_region_held3 (fun V => Below w5.heap.size w5 V ∧ V.cell? ⟨w.heap.size, 0, none⟩ = some (.slice ao d.length ca) ∧ V.cell? ⟨w.heap.size, 1, none⟩ = some (.slice bo l.length cb) ∧ V.cell? ⟨G, 0, none⟩ = some (.slice xo d.length cx) ∧ V.cell? ⟨G, 1, none⟩ = some (.slice yo l.length cy))
      (exact SK.out _ (by assumption))
      (first
        | (go_at_call 29; refine (H29.out _ (by assumption)).mono ?_; rintro e w6 ⟨⟨zo, cz, uo, cu, rfl, hz6, hu6⟩, hb6⟩; have Z6 := Lib.hid hz6; have V6 := Lib.hid hu6; clear hz6 hu6)
        | (go_at_call 31; refine (H31.out _ _ _ _ _ (by assumption) ?_ ?_).mono ?_; (focus (first | exact Z6.out | exact Z6.out.below ((Below.refl _ _).drew))); (focus (first | exact V6.out | exact V6.out.below ((Below.refl _ _).drew))); rintro e w7 ⟨rfl, hb7⟩)
        | (fail "none"))
    all_goals
      go_wp2
      go_ret
      exact ⟨rfl, B5.out.trans (hb7.mono B5.out.size)⟩
  · rw [leftR_neg hfit]
    clear hfit
    go_wp2
    go_ret
    exact ⟨rfl, b1⟩
end Go.Proofs.Ytjajpdghamecoaa
