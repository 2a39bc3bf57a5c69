/- Merged texts: EntA3, UnderMath, EntS1, EntH1, Mark, Mark2, EntOwn, EntMk, EntMk2. -/
import Derived.Test.YtjajpdghamecoaaM6
import Derived.Test.YtjajpdghamecoaaM2
import Derived.Test.YtjajpdghamecoaaM4
/- AttrOf: what the specification returns. -/
namespace Go.Proofs.Ytjajpdghamecoaa
open Go.RowKit
attribute [local go_sem ↓] Go.wp_at_zero Go.wp_at_succ

theorem name_eq (a b : ByteArray) : (a.toList == b.toList) = decide (a = b) := by
  rw [Lib.toList_data, Lib.toList_data, Bool.eq_iff_iff]
  simp only [beq_iff_eq, decide_eq_true_eq]
  constructor
  · intro h; exact ByteArray.ext (Array.toList_inj.1 h)
  · intro h; rw [h]
def atI (l : List AttrV) (nm : ByteArray) : Int := match atN l nm with | some i => (i : Int) | none => -1
theorem atI_none {l : List AttrV} {nm : ByteArray} (h : ∀ i (hi : i < l.length), l[i].1 ≠ nm) : atI l nm = -1 := by
  have : atN l nm = none := by
    unfold atN
    rw [List.findIdx?_eq_none_iff]
    intro a ha
    obtain ⟨i, hi, rfl⟩ := List.getElem_of_mem ha
    simpa using h i hi
  unfold atI; rw [this]
theorem atI_some {l : List AttrV} {nm : ByteArray} {k : Nat} (hk : k < l.length) (h1 : l[k].1 = nm) (h : ∀ i (hi : i < l.length), i < k → l[i].1 ≠ nm) : atI l nm = (k : Int) := by
  have : atN l nm = some k := by
    unfold atN
    rw [List.findIdx?_eq_some_iff_getElem]
    exact ⟨hk, by simpa using h1, fun j hj => by simpa using h j (by omega) hj⟩
  unfold atI; rw [this]
set_option maxRecDepth 100000 in
set_option maxHeartbeats 1000000 in
theorem l03At_any (ao bo : Option Addr) (d : RdnL) (l : List AttrV) (ca cb : Nat) (nm : ByteArray) (w : World) (hl : AttrsAt w bo l) (hfl : FitsA l) :
    Calls Try.prog 110 #[.agg #[.slice ao d.length ca, .slice bo l.length cb], .string nm] w fun e w' => e = .returned (.int .i64 (atI l nm)) ∧ Below w.heap.size w w' := by
  have hll := hfl.1
  have HL := Lib.hid hl; have FL := Lib.hid hfl; clear hl hfl
  go_enter Try.func110, Try.ntmps110
  go_wp2_with fail
  refine wp_world (fun W => Below w.heap.size w W ∧ Two W w.heap.size 43 (.slice ao d.length ca) (.slice bo l.length cb)) ⟨more (Below.refl _ _) _, twoNew w 43 _ _⟩ ?_
  rintro W ⟨hbW, t0⟩
  have BW := Lib.hid hbW; have T0 := Lib.hid t0
  clear hbW t0
  obtain ⟨⟨_, c1⟩, _⟩ := T0.out.cells
  go_wp2_with fail
  go_loop [5] (fun i => ∃ k : Nat, k ≤ l.length ∧ i = .int .i64 k ∧ ∀ j (hj : j < l.length), j < k → l[j].1 ≠ nm) (fun i => l.length - (intOf i).toNat)
  case atStart => exact ⟨0, Nat.zero_le _, rfl, fun j _ h => absurd h (Nat.not_lt_zero _)⟩
  case round =>
    obtain ⟨k, hk, rfl, hj⟩ := hrel
    have Hj := Lib.hid hj; clear hj
    by_cases hlt : k < l.length
    · obtain ⟨p, off, vo, vc, rfl, hp0, hd1, hd2, _⟩ := (HL.out.below BW.out).at hlt
      have g1 : (0 : Int) ≤ (k : Int) := by omega
      have g2 : (k : Int) < (l.length : Int) := by omega
      by_cases he : l[k].1 = nm
      · have HT := Lib.hid (atI_some hlt he Hj.out)
        have hq : (l[k].1.toList == nm.toList) = true := by rw [name_eq]; simpa using he
        clear he
        generalize l[k].1 = A at *
        go_wp2
        go_ret
        exact ⟨ret_int' HT.out.symm, BW.out⟩
      · have HN : Hid (∀ j (hj : j < l.length), j < k + 1 → l[j].1 ≠ nm) := Lib.hid (fun j h hjk => by
          by_cases e : j = k
          · subst e; exact he
          · exact Hj.out j h (by omega))
        have hq : (l[k].1.toList == nm.toList) = false := by rw [name_eq]; simpa using he
        clear he
        generalize l[k].1 = A at *
        go_wp2
        go_round
        case rel => exact ⟨k + 1, by omega, by go_num, HN.out⟩
        case measure => simp [intOf]; omega
    · have HT := Lib.hid (atI_none (l := l) (nm := nm) (fun i hi => Hj.out i hi (by omega)))
      go_wp2
      go_ret
      exact ⟨ret_int' HT.out.symm, BW.out⟩
/-- the texts of an attribute, where they lie -/
def GivesAt (w : World) (V : List ByteArray) (e : Ending) (w' : World) : Prop := (∃ vo vc, e = .returned (.slice vo V.length vc) ∧ ValsAt w' vo vc V) ∧ Below w.heap.size w w'
theorem of_at {l : List AttrV} {nm : ByteArray} (h : atI l nm < 0) : valsOf l nm = [] := by
  unfold atI at h
  cases ha : atN l nm with
  | none => exact (atN_none ha).2
  | some i => rw [ha] at h; simp at h; omega
theorem of_at' {l : List AttrV} {nm : ByteArray} (h : ¬ atI l nm < 0) : ∃ k, ∃ hk : k < l.length, atI l nm = (k : Int) ∧ valsOf l nm = l[k].2 := by
  unfold atI at h ⊢
  cases ha : atN l nm with
  | none => rw [ha] at h; simp at h
  | some i =>
    obtain ⟨hi, _, h2, _⟩ := atN_some ha
    exact ⟨i, hi, rfl, h2⟩
set_option maxRecDepth 100000 in
set_option maxHeartbeats 1000000 in
theorem l03Of_any (ao bo : Option Addr) (d : RdnL) (l : List AttrV) (ca cb : Nat) (nm : ByteArray) (w : World) (hl : AttrsAt w bo l) (hfl : FitsA l) :
    Calls Try.prog 69 #[.agg #[.slice ao d.length ca, .slice bo l.length cb], .string nm] w (GivesAt w (valsOf l nm)) := by
  have hll := hfl.1
  have HL := Lib.hid hl; have FL := Lib.hid hfl; clear hl hfl
  go_enter Try.func69, Try.ntmps69
  go_wp2_with fail
  refine calls_any' (fun W => Below w.heap.size w W ∧ Two W w.heap.size 43 (.slice ao d.length ca) (.slice bo l.length cb)) ⟨more (Below.refl _ _) _, twoNew w 43 _ _⟩ ?_
  rintro W ⟨hbW, t0⟩
  refine (l03At_any ao bo d l ca cb nm W (HL.out.below hbW) FL.out).mono ?_
  rintro e w1 ⟨rfl, hb1⟩
  have B1 := Lib.hid (hbW.trans (hb1.mono hbW.size)); have T1 := Lib.hid (t0.below hb1)
  clear hbW t0 hb1
  by_cases h : atI l nm < 0
  · have HV := Lib.hid (of_at h)
    generalize atI l nm = q at *
    go_wp2
    go_ret
    exact ⟨⟨none, 0, by rw [HV.out]; rfl, by rw [HV.out]; exact ⟨.inl rfl, Nat.le_refl _, fun _ => rfl⟩⟩, B1.out⟩
  · obtain ⟨k, hk, e1, e2⟩ := of_at' h
    rw [e1]
    have HV := Lib.hid e2
    clear h e1 e2
    obtain ⟨⟨_, c1⟩, _⟩ := T1.out.cells
    obtain ⟨p, off, vo, vc, rfl, hp0, hd1, hd2, hv⟩ := (HL.out.below B1.out).at hk
    have HVv := Lib.hid hv
    have g0 : ¬ (k : Int) < 0 := by omega
    have g1 : (0 : Int) ≤ (k : Int) := by omega
    have g2 : (k : Int) < (l.length : Int) := by omega
    clear hv hd1
    generalize l[k].2 = V at *
    go_wp2
    go_ret
    exact ⟨⟨vo, vc, by rw [HV.out]; rfl, by rw [HV.out]; exact HVv.out⟩, B1.out⟩
theorem own_zero (w : World) {B g : Nat} (hg : g = w.heap.size) (hB : B ≤ g) : (w.alloc (.cells #[] 9)).ownsRow B 9 1 (.slice (some ⟨g, 0, none⟩) 0 0) 0 (ss []) := by
  subst hg
  exact ⟨rfl, .inr ⟨w.heap.size, 0, #[], rfl, hB, heap_alloc_new w _, by simp, by unfold maxLen; simp, rfl, rfl⟩⟩
set_option maxRecDepth 100000 in
set_option maxHeartbeats 1000000 in
theorem SpecAttrOf_any (ao bo : Option Addr) (d : RdnL) (l : List AttrV) (ca cb : Nat) (nm : ByteArray) (w : World) (hd : DnAt w ao d) (hl : AttrsAt w bo l) (hfd : Fits d) (hfl : FitsA l) (hn : nm.size ≤ maxLen) :
    Calls Try.prog 32 #[.agg #[.slice ao d.length ca, .slice bo l.length cb], .string nm] w (GivesV w (attrOfL d l nm)) := by
  unfold maxLen at hn
  have HD := Lib.hid hd; have HL := Lib.hid hl; have FD := Lib.hid hfd; have FL := Lib.hid hfl; clear hd hl hfd hfl
  by_cases h8 : 8000 < nm.size
  · have HE := Lib.hid (attrOf_long (d := d) (l := l) (nm := nm) (by omega))
    go_enter Try.func32, Try.ntmps32
    go_wp2
    go_ret
    exact ⟨⟨_, rfl, by rw [HE.out]; exact own_zero _ (by simp) (by simp)⟩, more (more (Below.refl _ _) _) _⟩
  · have h8' : ¬ 8000 < (nm.size : Int) := by omega
    go_enter Try.func32, Try.ntmps32
    go_wp2_with fail
    refine calls_any' (fun W => Below w.heap.size w W ∧ Two W w.heap.size 43 (.slice ao d.length ca) (.slice bo l.length cb)) ⟨more (Below.refl _ _) _, twoNew w 43 _ _⟩ ?_
    rintro W ⟨hbW, t0⟩
    refine (SpecEntryRight_any ao bo d l ca cb W (HD.out.below hbW) (HL.out.below hbW) FD.out FL.out).mono ?_
    rintro e w1 ⟨rfl, hb1⟩
    have B1 := Lib.hid (hbW.trans (hb1.mono hbW.size)); have T1 := Lib.hid (t0.below hb1)
    clear hbW t0 hb1
    obtain ⟨⟨c0, c1⟩, _⟩ := T1.out.cells
    cases hr : rightB d l
    · have HE := Lib.hid (attrOf_no hr nm)
      go_wp2
      go_ret
      exact ⟨⟨_, rfl, by rw [HE.out]; exact own_zero _ rfl B1.out.size⟩, more B1.out _⟩
    · have HE := Lib.hid (attrOf_yes hr nm)
      have FV := Lib.hid (valsOf_fits FL.out nm)
      clear hr
      have hlv := FV.out.1
      obtain ⟨⟨p0, p1⟩, _⟩ := (T1.out.alloc (.cells #[] 9)).cells
      have O1 := Lib.hid (own_zero w1 (g := w1.heap.size) rfl B1.out.size)
      have B2 := Lib.hid (more B1.out (.cells #[] 9))
      go_wp2_with fail
      refine (l03Of_any ao bo d l ca cb nm _ (HL.out.below B2.out) FL.out).mono ?_
      rintro e w2 ⟨⟨vo, vc, rfl, hv⟩, hb2⟩
      have O2 := own_below O1.out hb2
      have B3 := B2.out.trans (hb2.mono B2.out.size)
      have hs3 := B3.size
      have HE2 : Hid (attrOfL d l nm = [] ++ valsOf l nm) := Lib.hid (by rw [HE.out]; rfl)
      have hv1 := hv.1; have hv2 := hv.2.2
      clear hv hb2 c0 c1 p0 p1 HE
      generalize valsOf l nm = V at *
      have HE3 := Lib.hid HE2.out
      have hlen : ([] : List ByteArray).length + V.length ≤ 1000000000 := by simp; omega
      go_wp2_with (first
        | (at_builtin; refine append_strs w.heap.size rfl _ _ rfl _ [] rfl O2 vo V vc _ rfl rfl hv1 hv2 hlen hs3 B3 ?_; intro v4 w4 hown4 hbel4)
        | (fail "none"))
      go_ret
      exact ⟨⟨_, rfl, by rw [HE3.out]; exact hown4⟩, hbel4⟩
end Go.Proofs.Ytjajpdghamecoaa
/- Names under their ends; two names under each other are the same. -/
namespace Go.Proofs.Ytjajpdghamecoaa

theorem under_drop {d : RdnL} (h : dnB d = true) {i : Nat} (hi : i ≤ d.length) : underB d (d.drop i) = true := by
  unfold underB
  have e : d.length - (d.drop i).length = i := by rw [List.length_drop]; omega
  rw [h, dnB_drop h, e]
  simp [sameB]
theorem dnB_rdns {d : RdnL} (h : dnB d = true) : d.all rdnB = true := by
  unfold dnB at h
  simp only [Bool.and_eq_true] at h
  exact h.2
theorem same_length {a b : RdnL} (h : sameB a b = true) : a.length = b.length := by
  unfold sameB at h
  have := congrArg List.length (of_decide_eq_true h)
  simpa using this
theorem sameB_comm (a b : RdnL) : sameB a b = sameB b a := by
  unfold sameB
  exact decide_eq_decide.2 ⟨Eq.symm, Eq.symm⟩
theorem under_two {a b : RdnL} (ha : dnB a = true) (hb : dnB b = true) : sameB a b = (underB a b && underB b a) := by
  unfold underB
  rw [ha, hb]
  by_cases h : a.length = b.length
  · have e1 : a.length - b.length = 0 := by omega
    have e2 : b.length - a.length = 0 := by omega
    rw [e1, e2, List.drop_zero, List.drop_zero, sameB_comm b a]
    have h1 : decide (b.length ≤ a.length) = true := decide_eq_true (by omega)
    have h2 : decide (a.length ≤ b.length) = true := decide_eq_true (by omega)
    rw [h1, h2]
    simp
  · have hs : sameB a b = false := by
      cases hs : sameB a b
      · rfl
      · exact absurd (same_length hs) h
    rw [hs]
    by_cases h1 : b.length ≤ a.length
    · have h2 : decide (a.length ≤ b.length) = false := decide_eq_false (by omega)
      rw [h2]; simp
    · have h2 : decide (b.length ≤ a.length) = false := decide_eq_false h1
      rw [h2]; simp
theorem key_two {a b : RdnL} (ha : dnB a = true) (hb : dnB b = true) : ((dnKeyS a).toList == (dnKeyS b).toList) = sameB a b := by
  have ea : dnKeyS a = keyS a := by unfold dnKeyS; simp [ha]
  have eb : dnKeyS b = keyS b := by unfold dnKeyS; simp [hb]
  rw [ea, eb]
  exact key_same (dnB_rdns ha) (dnB_rdns hb)
end Go.Proofs.Ytjajpdghamecoaa
/- EntrySame: what the program returns. -/
namespace Go.Proofs.Ytjajpdghamecoaa
open Go.RowKit
attribute [local go_sem ↓] Go.wp_at_zero Go.wp_at_succ

/-- two lists as long as each other, alike element by element -/
noncomputable def pairB {α : Type} (eq : α → α → Bool) (a b : List α) : Bool := @decide (a.length = b.length ∧ ∀ i (h : i < a.length) (h' : i < b.length), eq a[i] b[i] = true) (Classical.propDecidable _)
theorem pairB_yes {α : Type} {eq : α → α → Bool} {a b : List α} (hl : a.length = b.length) (h : ∀ i (h : i < a.length) (h' : i < b.length), eq a[i] b[i] = true) : pairB eq a b = true := @decide_eq_true _ (Classical.propDecidable _) ⟨hl, h⟩
theorem pairB_len {α : Type} {eq : α → α → Bool} {a b : List α} (hl : a.length ≠ b.length) : pairB eq a b = false := @decide_eq_false _ (Classical.propDecidable _) (fun h => hl h.1)
theorem pairB_no {α : Type} {eq : α → α → Bool} {a b : List α} {k : Nat} (hk : k < a.length) (hk' : k < b.length) (h : eq a[k] b[k] = false) : pairB eq a b = false :=
  @decide_eq_false _ (Classical.propDecidable _) (fun g => by have := g.2 k hk hk'; rw [h] at this; cases this)
def normEq (x y : ByteArray) : Bool := (normS x).toList == (normS y).toList
noncomputable def attrEq (a b : AttrV) : Bool := (a.1.toList == b.1.toList) && pairB normEq a.2 b.2
set_option maxHeartbeats 1000000 in
theorem sameNorm_any (w0 : World) (a b : ByteArray) (w : World) (ha : a.size ≤ maxLen) (hb : b.size ≤ maxLen) (hB : Below w0.heap.size w0 w) :
    Calls Try.prog 114 #[.string a, .string b] w fun e w' => e = .returned (.bool (normEq a b)) ∧ Below w0.heap.size w0 w' := by
  have HE : Hid (normEq a b = ((normS a).toList == (normS b).toList)) := Lib.hid rfl
  have HN : Hid (∀ (s : ByteArray) W, s.size ≤ maxLen → Below w0.heap.size w0 W → Calls Try.prog 99 #[.string s] W fun e w' => e = .returned (.string (normS s)) ∧ Below w0.heap.size w0 w') :=
    Lib.hid (fun s W hs h => (Norm_any s W hs).mono fun _ _ g => ⟨g.1, h.trans (g.2.mono h.size)⟩)
  go_enter Try.func114, Try.ntmps114
  go_wp2_with (first
    | (go_at_call 99; refine (HN.out _ _ ha hB).mono ?_; rintro e w1 ⟨rfl, hb1⟩; clear hB)
    | (go_at_call 99; refine (HN.out _ _ hb hb1).mono ?_; rintro e w2 ⟨rfl, hb2⟩; clear hb1)
    | (fail "none"))
  go_ret
  exact ⟨ret_bool HE.out.symm, hb2⟩
set_option maxRecDepth 100000 in
set_option maxHeartbeats 1000000 in
theorem eqStr_any (w0 : World) (ao bo : Option Addr) (a b : List ByteArray) (ca cb : Nat) (w : World) (hda : StrsAt w0 ao a) (hdb : StrsAt w0 bo b) (hfa : FitsV a) (hfb : FitsV b) (hB : Below w0.heap.size w0 w) :
    Calls Try.prog 115 #[.slice ao a.length ca, .slice bo b.length cb, .func (.func 114) #[] #[]] w fun e w' => e = .returned (.bool (pairB normEq a b)) ∧ Below w0.heap.size w0 w' := by
  have hla := hfa.1
  have hlb := hfb.1
  have HA := Lib.hid hda; have HB := Lib.hid hdb; have FA := Lib.hid hfa; have FB := Lib.hid hfb; clear hda hdb hfa hfb
  by_cases hl : a.length = b.length
  · have gl : ((a.length : Int) != (b.length : Int)) = false := by simp [hl]
    have HLen := Lib.hid hl
    clear hl
    go_enter Try.func115, Try.ntmps115
    go_wp2
    go_loopw [17] (fun i wr => ∃ k : Nat, k ≤ a.length ∧ i = .int .i64 k ∧ (∀ j (h : j < a.length) (h' : j < b.length), j < k → normEq a[j] b[j] = true) ∧ Below w0.heap.size w0 wr) (fun i _ => a.length - (intOf i).toNat)
    case atStart => exact ⟨0, Nat.zero_le _, rfl, fun j _ _ h => absurd h (Nat.not_lt_zero _), hB⟩
    case round =>
      obtain ⟨k, hk, rfl, hj, hbel⟩ := hrel
      have Hj := Lib.hid hj; clear hj
      by_cases hlt : k < a.length
      · have hlt' : k < b.length := by have := HLen.out; omega
        obtain ⟨p, off, rfl, hp0, hd1⟩ := HA.out.at hlt
        obtain ⟨q, off', rfl, hq0, he1⟩ := HB.out.at hlt'
        have c1 := (hbel.cell (p := ⟨p, off + k, none⟩) hp0).trans hd1
        have c2 := (hbel.cell (p := ⟨q, off' + k, none⟩) hq0).trans he1
        have hz1 := FA.out.max hlt
        have hz2 := FB.out.max hlt'
        have HX : Hid (normEq a[k] b[k] = false → pairB normEq a b = false) := Lib.hid (fun h => pairB_no hlt hlt' h)
        have HN : Hid (normEq a[k] b[k] = true → ∀ j (h : j < a.length) (h' : j < b.length), j < k + 1 → normEq a[j] b[j] = true) := Lib.hid (fun hn j h h' hjk => by
          by_cases e : j = k
          · subst e; exact hn
          · exact Hj.out j h h' (by omega))
        have g1 : (0 : Int) ≤ (k : Int) := by omega
        have g2 : (k : Int) < (a.length : Int) := by omega
        have g3 : (k : Int) < (b.length : Int) := by omega
        clear hd1 he1
        generalize a[k] = X at *
        generalize b[k] = Y at *
        cases hn : normEq X Y
        · have HX' := Lib.hid (HX.out hn)
          go_wp2_with (first | (go_at_call 114; refine (sameNorm_any w0 X Y _ hz1 hz2 hbel).mono ?_; rw [hn]; rintro e w1 ⟨rfl, hb1⟩) | (fail "none"))
          go_ret
          exact ⟨ret_bool HX'.out.symm, hb1⟩
        · have HN' := Lib.hid (HN.out hn)
          go_wp2_with (first | (go_at_call 114; refine (sameNorm_any w0 X Y _ hz1 hz2 hbel).mono ?_; rw [hn]; rintro e w1 ⟨rfl, hb1⟩) | (fail "none"))
          go_roundw
          case rel => exact ⟨k + 1, by omega, by go_num, HN'.out, hb1⟩
          case measure => simp [intOf]; omega
      · have HT := Lib.hid (pairB_yes (eq := normEq) HLen.out (fun j h h' => Hj.out j h h' (by omega)))
        go_wp2
        go_ret
        exact ⟨ret_bool HT.out.symm, hbel⟩
  · have HX := Lib.hid (pairB_len (eq := normEq) hl)
    have gl : ((a.length : Int) != (b.length : Int)) = true := by simp; omega
    go_enter Try.func115, Try.ntmps115
    go_wp2
    go_ret
    exact ⟨ret_bool HX.out.symm, hB⟩
set_option maxRecDepth 100000 in
set_option maxHeartbeats 1000000 in
theorem sameAttr_any (w0 : World) (A B : ByteArray) (vo uo : Option Addr) (V U : List ByteArray) (vc uc : Nat) (w : World) (hv : StrsAt w0 vo V) (hu : StrsAt w0 uo U) (hfv : FitsV V) (hfu : FitsV U) (hB : Below w0.heap.size w0 w) :
    Calls Try.prog 79 #[.agg #[.string A, .slice vo V.length vc], .agg #[.string B, .slice uo U.length uc]] w fun e w' => e = .returned (.bool (attrEq (A, V) (B, U))) ∧ Below w0.heap.size w0 w' := by
  have HV := Lib.hid hv; have HU := Lib.hid hu; have FV := Lib.hid hfv; have FU := Lib.hid hfu; have HB := Lib.hid hB; clear hv hu hfv hfu hB
  have HE : Hid (attrEq (A, V) (B, U) = ((A.toList == B.toList) && pairB normEq V U)) := Lib.hid rfl
  have B0 := Lib.hid (more (more HB.out (.cells #[.string A, .slice vo V.length vc] 81)) (.cells #[.string B, .slice uo U.length uc] 81))
  cases hn : (A.toList == B.toList)
  · rw [hn] at HE
    go_enter Try.func79, Try.ntmps79
    go_wp2
    go_ret
    exact ⟨ret_bool (by rw [HE.out]; rfl), B0.out⟩
  · rw [hn] at HE
    go_enter Try.func79, Try.ntmps79
    go_wp2_with fail
    refine (eqStr_any w0 vo uo V U vc uc _ HV.out HU.out FV.out FU.out B0.out).mono ?_
    rintro e w1 ⟨rfl, hb1⟩
    generalize pairB normEq V U = r at *
    go_wp2
    go_ret
    exact ⟨ret_bool (by rw [HE.out]; rfl), hb1⟩
set_option maxRecDepth 100000 in
set_option maxHeartbeats 1000000 in
theorem eqAttrs_any (ao bo : Option Addr) (a b : List AttrV) (ca cb : Nat) (w : World) (hda : AttrsAt w ao a) (hdb : AttrsAt w bo b) (hfa : FitsA a) (hfb : FitsA b) :
    Calls Try.prog 78 #[.slice ao a.length ca, .slice bo b.length cb, .func (.func 79) #[] #[]] w fun e w' => e = .returned (.bool (pairB attrEq a b)) ∧ Below w.heap.size w w' := by
  have hla := hfa.1
  have hlb := hfb.1
  have HA := Lib.hid hda; have HB := Lib.hid hdb; have FA := Lib.hid hfa; have FB := Lib.hid hfb; clear hda hdb hfa hfb
  by_cases hl : a.length = b.length
  · have gl : ((a.length : Int) != (b.length : Int)) = false := by simp [hl]
    have HLen := Lib.hid hl
    clear hl
    go_enter Try.func78, Try.ntmps78
    go_wp2
    go_loopw [17] (fun i wr => ∃ k : Nat, k ≤ a.length ∧ i = .int .i64 k ∧ (∀ j (h : j < a.length) (h' : j < b.length), j < k → attrEq a[j] b[j] = true) ∧ Below w.heap.size w wr) (fun i _ => a.length - (intOf i).toNat)
    case atStart => exact ⟨0, Nat.zero_le _, rfl, fun j _ _ h => absurd h (Nat.not_lt_zero _), Below.refl _ _⟩
    case round =>
      obtain ⟨k, hk, rfl, hj, hbel⟩ := hrel
      have Hj := Lib.hid hj; clear hj
      by_cases hlt : k < a.length
      · have hlt' : k < b.length := by have := HLen.out; omega
        obtain ⟨p, off, vo, vc, rfl, hp0, hd1, hd2, hv⟩ := HA.out.at hlt
        obtain ⟨q, off', uo, uc, rfl, hq0, he1, he2, hu⟩ := HB.out.at hlt'
        have hp1 : p < wr.heap.size := Nat.lt_of_lt_of_le hp0 hbel.size
        have hq1 : q < wr.heap.size := Nat.lt_of_lt_of_le hq0 hbel.size
        have c1 := (hbel.cell (p := ⟨p, off + k * 2, none⟩) hp0).trans hd1
        have c2 := (hbel.cell (p := ⟨p, off + k * 2 + 1, none⟩) hp0).trans hd2
        have c3 := (hbel.cell (p := ⟨q, off' + k * 2, none⟩) hq0).trans he1
        have c4 := (hbel.cell (p := ⟨q, off' + k * 2 + 1, none⟩) hq0).trans he2
        have HV := Lib.hid hv.1; have HU := Lib.hid hu.1; clear hv hu
        have F1 := Lib.hid (FA.out.at hlt).2; have F2 := Lib.hid (FB.out.at hlt').2
        have HX : Hid (attrEq (a[k].1, a[k].2) (b[k].1, b[k].2) = false → pairB attrEq a b = false) := Lib.hid (fun h => pairB_no hlt hlt' h)
        have HN : Hid (attrEq (a[k].1, a[k].2) (b[k].1, b[k].2) = true → ∀ j (h : j < a.length) (h' : j < b.length), j < k + 1 → attrEq a[j] b[j] = true) := Lib.hid (fun hn j h h' hjk => by
          by_cases e : j = k
          · subst e; exact hn
          · exact Hj.out j h h' (by omega))
        have g1 : (0 : Int) ≤ (k : Int) := by omega
        have g2 : (k : Int) < (a.length : Int) := by omega
        have g3 : (k : Int) < (b.length : Int) := by omega
        clear hd1 he1 hd2 he2
        generalize a[k].1 = A at *
        generalize a[k].2 = V at *
        generalize b[k].1 = C at *
        generalize b[k].2 = U at *
        have hb2 := Lib.hid (more (more hbel (.cells #[.string A, .slice vo V.length vc] 81)) (.cells #[.string C, .slice uo U.length uc] 81))
        cases hn : attrEq (A, V) (C, U)
        · have HX' := Lib.hid (HX.out hn)
          go_wp2_with (first | (go_at_call 79; refine (sameAttr_any w A C vo uo V U vc uc _ HV.out HU.out F1.out F2.out hb2.out).mono ?_; rw [hn]; rintro e w1 ⟨rfl, hb1⟩) | (fail "none"))
          go_ret
          exact ⟨ret_bool HX'.out.symm, hb1⟩
        · have HN' := Lib.hid (HN.out hn)
          go_wp2_with (first | (go_at_call 79; refine (sameAttr_any w A C vo uo V U vc uc _ HV.out HU.out F1.out F2.out hb2.out).mono ?_; rw [hn]; rintro e w1 ⟨rfl, hb1⟩) | (fail "none"))
          go_roundw
          case rel => exact ⟨k + 1, by omega, by go_num, HN'.out, hb1⟩
          case measure => simp [intOf]; omega
      · have HT := Lib.hid (pairB_yes (eq := attrEq) HLen.out (fun j h h' => Hj.out j h h' (by omega)))
        go_wp2
        go_ret
        exact ⟨ret_bool HT.out.symm, hbel⟩
  · have HX := Lib.hid (pairB_len (eq := attrEq) hl)
    have gl : ((a.length : Int) != (b.length : Int)) = true := by simp; omega
    go_enter Try.func78, Try.ntmps78
    go_wp2
    go_ret
    exact ⟨ret_bool HX.out.symm, Below.refl _ _⟩
end Go.Proofs.Ytjajpdghamecoaa
/- HasValue: what the program returns. -/
namespace Go.Proofs.Ytjajpdghamecoaa
open Go.RowKit
attribute [local go_sem ↓] Go.wp_at_zero Go.wp_at_succ

/-- the number of the first that is so, or -1 -/
def findI {α : Type} (p : α → Bool) (l : List α) : Int := match l.findIdx? p with | some i => (i : Int) | none => -1
theorem findI_none {α : Type} {p : α → Bool} {l : List α} (h : ∀ i (hi : i < l.length), p l[i] = false) : findI p l = -1 := by
  have : l.findIdx? p = none := by
    rw [List.findIdx?_eq_none_iff]
    intro a ha
    obtain ⟨i, hi, rfl⟩ := List.getElem_of_mem ha
    exact h i hi
  unfold findI; rw [this]
theorem findI_some {α : Type} {p : α → Bool} {l : List α} {k : Nat} (hk : k < l.length) (h1 : p l[k] = true) (h : ∀ i (hi : i < l.length), i < k → p l[i] = false) : findI p l = (k : Int) := by
  have : l.findIdx? p = some k := by
    rw [List.findIdx?_eq_some_iff_getElem]
    exact ⟨hk, h1, fun j hj => by simpa using h j (by omega) hj⟩
  unfold findI; rw [this]
theorem findI_range {α : Type} (p : α → Bool) (l : List α) : -1 ≤ findI p l ∧ findI p l ≤ l.length := by
  unfold findI
  cases h : l.findIdx? p with
  | none => constructor <;> simp <;> omega
  | some i =>
    rw [List.findIdx?_eq_some_iff_getElem] at h
    obtain ⟨hi, _⟩ := h
    constructor <;> simp <;> omega
def likeV (val v : ByteArray) : Bool := normEq v val
noncomputable def hasB (d : RdnL) (l : List AttrV) (nm val : ByteArray) : Bool := decide (0 ≤ findI (likeV val) (attrOfL d l nm))
set_option maxRecDepth 100000 in
set_option maxHeartbeats 1000000 in
theorem like_any (w0 : World) (q : Nat) (x val : ByteArray) (w : World) (hx : x.size ≤ maxLen) (hv : val.size ≤ maxLen) (hc : w0.cell? ⟨q, 0, none⟩ = some (.string val)) (hq : q < w0.heap.size) (hB : Below w0.heap.size w0 w) :
    Calls Try.prog 113 #[.string x, .pointer (some ⟨q, 0, none⟩)] w fun e w' => e = .returned (.bool (likeV val x)) ∧ Below w0.heap.size w0 w' := by
  have c1 := (hB.cell (p := ⟨q, 0, none⟩) hq).trans hc
  have HE : Hid (likeV val x = normEq x val) := Lib.hid rfl
  go_enter Try.func113, Try.ntmps113
  go_wp2_with fail
  refine (sameNorm_any w0 x val w hx hv hB).mono ?_
  rintro e w1 ⟨rfl, hb1⟩
  generalize normEq x val = r at *
  go_wp2
  go_ret
  exact ⟨ret_bool HE.out.symm, hb1⟩
set_option maxRecDepth 100000 in
set_option maxHeartbeats 1000000 in
theorem indexFunc_any (w0 : World) (vo : Option Addr) (V : List ByteArray) (vc q : Nat) (val : ByteArray) (w : World) (hd : StrsAt w0 vo V) (hf : FitsV V) (hv : val.size ≤ maxLen) (hc : w0.cell? ⟨q, 0, none⟩ = some (.string val)) (hq : q < w0.heap.size) (hB : Below w0.heap.size w0 w) :
    Calls Try.prog 112 #[.slice vo V.length vc, .func (.func 113) #[] #[.pointer (some ⟨q, 0, none⟩)]] w fun e w' => e = .returned (.int .i64 (findI (likeV val) V)) ∧ Below w0.heap.size w0 w' := by
  have hl := hf.1
  have HD := Lib.hid hd; have HF := Lib.hid hf; have HC := Lib.hid hc; clear hd hf hc
  go_enter Try.func112, Try.ntmps112
  go_wp2_with fail
  go_loopw [8] (fun i wr => ∃ k : Nat, k ≤ V.length ∧ i = .int .i64 k ∧ (∀ j (h : j < V.length), j < k → likeV val V[j] = false) ∧ Below w0.heap.size w0 wr) (fun i _ => V.length - (intOf i).toNat)
  case atStart => exact ⟨0, Nat.zero_le _, rfl, fun j _ h => absurd h (Nat.not_lt_zero _), hB⟩
  case round =>
    obtain ⟨k, hk, rfl, hj, hbel⟩ := hrel
    have Hj := Lib.hid hj; clear hj
    by_cases hlt : k < V.length
    · obtain ⟨p, off, rfl, hp0, hd1⟩ := HD.out.at hlt
      have c1 := (hbel.cell (p := ⟨p, off + k, none⟩) hp0).trans hd1
      have hz := HF.out.max hlt
      have g1 : (0 : Int) ≤ (k : Int) := by omega
      have g2 : (k : Int) < (V.length : Int) := by omega
      have HX : Hid (likeV val V[k] = true → findI (likeV val) V = (k : Int)) := Lib.hid (fun h => findI_some hlt h Hj.out)
      have HN : Hid (likeV val V[k] = false → ∀ j (h : j < V.length), j < k + 1 → likeV val V[j] = false) := Lib.hid (fun hn j h hjk => by
        by_cases e : j = k
        · subst e; exact hn
        · exact Hj.out j h (by omega))
      clear hd1
      generalize V[k] = x at *
      cases hn : likeV val x
      · have HN' := Lib.hid (HN.out hn)
        go_wp2_with fail
        refine (like_any w0 q x val wr hz hv HC.out hq hbel).mono ?_
        rw [hn]
        rintro e w1 ⟨rfl, hb1⟩
        go_wp2
        go_roundw
        case rel => exact ⟨k + 1, by omega, by go_num, HN'.out, hb1⟩
        case measure => simp [intOf]; omega
      · have HX' := Lib.hid (HX.out hn)
        go_wp2_with fail
        refine (like_any w0 q x val wr hz hv HC.out hq hbel).mono ?_
        rw [hn]
        rintro e w1 ⟨rfl, hb1⟩
        go_wp2
        go_ret
        exact ⟨ret_int' HX'.out.symm, hb1⟩
    · have HT := Lib.hid (findI_none (p := likeV val) (l := V) (fun i hi => Hj.out i hi (by omega)))
      go_wp2
      go_ret
      exact ⟨ret_int' HT.out.symm, hbel⟩
set_option maxRecDepth 100000 in
set_option maxHeartbeats 1000000 in
theorem normIndex_any (vo : Option Addr) (V : List ByteArray) (vc : Nat) (val : ByteArray) (w : World) (hd : StrsAt w vo V) (hf : FitsV V) (hv : val.size ≤ maxLen) :
    Calls Try.prog 76 #[.slice vo V.length vc, .string val] w fun e w' => e = .returned (.int .i64 (findI (likeV val) V)) ∧ Below w.heap.size w w' := by
  have HD := Lib.hid hd; have HF := Lib.hid hf; clear hd hf
  go_enter Try.func76, Try.ntmps76
  go_wp2_with fail
  have hB1 := more (Below.refl w.heap.size w) (.cells #[.string val] 9)
  refine (indexFunc_any (w.alloc (.cells #[.string val] 9)) vo V vc w.heap.size val _ (HD.out.below hB1) HF.out hv (by simp) (by simp) (Below.refl _ _)).mono ?_
  rintro e w1 ⟨rfl, hb1⟩
  generalize hr : findI (likeV val) V = r at *
  have HR := Lib.hid hr; clear hr
  go_wp2
  go_ret
  exact ⟨ret_int' HR.out.symm, hB1.trans (hb1.mono hB1.size)⟩
theorem own_strs {w : World} {B n cap : Nat} {ao : Option Addr} {V : List ByteArray} (h : w.ownsRow B 9 1 (.slice ao n cap) V.length (ss V)) : StrsAt w ao V := by
  by_cases h0 : V.length = 0
  · exact .inl (List.length_eq_zero_iff.1 h0)
  · obtain ⟨g, cp, hv, _, hlt⟩ := h.form (by omega)
    have e : ao = some ⟨g, 0, none⟩ := by injection hv
    subst e
    refine .inr ⟨g, 0, rfl, hlt, fun i hi => ?_⟩
    have := h.cells (g := g) rfl i (.string V[i]) (by unfold ss; rw [List.getElem?_map, List.getElem?_eq_getElem hi]; rfl)
    rw [add_plain] at this; rw [Nat.zero_add]; exact this
theorem attrOf_fits {d : RdnL} {l : List AttrV} (h : FitsA l) (nm : ByteArray) : FitsV (attrOfL d l nm) := by
  unfold attrOfL; split
  · exact valsOf_fits h nm
  · exact .nil
set_option maxRecDepth 100000 in
set_option maxHeartbeats 1000000 in
theorem HasValue_any (ao bo : Option Addr) (d : RdnL) (l : List AttrV) (ca cb : Nat) (nm val : ByteArray) (w : World) (hd : DnAt w ao d) (hl : AttrsAt w bo l) (hfd : Fits d) (hfl : FitsA l) (hn : nm.size ≤ maxLen) (hv : val.size ≤ maxLen) :
    Calls Try.prog 39 #[.agg #[.slice ao d.length ca, .slice bo l.length cb], .string nm, .string val] w fun e w' => e = .returned (.bool (hasB d l nm val)) ∧ Below w.heap.size w w' := by
  have HD := Lib.hid hd; have HL := Lib.hid hl; have FD := Lib.hid hfd; have FL := Lib.hid hfl; clear hd hl hfd hfl
  have HE : Hid (hasB d l nm val = decide (0 ≤ findI (likeV val) (attrOfL d l nm))) := Lib.hid rfl
  go_enter Try.func39, Try.ntmps39
  go_wp2_with fail
  have hB1 := more (Below.refl w.heap.size w) (.cells #[.slice ao d.length ca, .slice bo l.length cb] 43)
  refine (AttrOf_any ao bo d l ca cb nm _ (HD.out.below hB1) (HL.out.below hB1) FD.out FL.out hn).mono ?_
  rintro e w1 ⟨⟨v1, rfl, hown⟩, hb1⟩
  have FV := Lib.hid (attrOf_fits (d := d) FL.out nm)
  have B1 := Lib.hid (hB1.trans (hb1.mono hB1.size))
  obtain ⟨vo, vc, rfl⟩ := own_slice hown
  have HS := Lib.hid (own_strs hown)
  clear hown hb1 hB1
  generalize attrOfL d l nm = V at *
  go_wp2_with fail
  refine (normIndex_any vo V vc val w1 HS.out FV.out hv).mono ?_
  rintro e w2 ⟨rfl, hb2⟩
  generalize findI (likeV val) V = r at *
  by_cases h0 : 0 ≤ r
  · go_wp2
    go_ret
    exact ⟨ret_bool (by rw [HE.out]; first | done | simpa using h0), B1.out.trans (hb2.mono B1.out.size)⟩
  · have h1 : r < 0 := by omega
    go_wp2
    go_ret
    exact ⟨ret_bool (by rw [HE.out]; first | done | simpa using h1), B1.out.trans (hb2.mono B1.out.size)⟩
end Go.Proofs.Ytjajpdghamecoaa
/- The helpers of the laws: marks. -/
namespace Go.Proofs.Ytjajpdghamecoaa
open Go.RowKit
attribute [local go_sem ↓] Go.wp_at_zero Go.wp_at_succ

/-- the digits of a number, ahead of others -/
def digs : Nat → Nat → List UInt8 → List UInt8
  | 0, _, o => o
  | f + 1, n, o => if n = 0 then o else digs f (n / 10) (UInt8.ofNat (48 + n % 10) :: o)
def mkL (n : Nat) : List UInt8 := 109 :: digs 20 n []
def mkT (n : Nat) : ByteArray := toS (mkL n)
theorem one_str (W : World) (n : Nat) (hn : n < 256) :
    (convert 22 9 (.slice (some ⟨W.heap.size, 0, none⟩) 1 1)).run Try.prog (W.alloc (.cells #[.int .u8 (n : Int)] 5)) = .ok (.string ⟨#[UInt8.ofNat n]⟩) (W.alloc (.cells #[.int .u8 (n : Int)] 5)) := by
  refine str22 _ ⟨W.heap.size, 0, none⟩ 1 [UInt8.ofNat n] 1 rfl fun j hj => ?_
  match j, hj with
  | 0, _ =>
    rw [add_plain, World.cell?_alloc_mark]
    simp; omega
set_option maxRecDepth 100000 in
set_option maxHeartbeats 1000000 in
theorem markText_any (n : Nat) (w : World) (h0 : 0 < n) (hn : n ≤ 1000000000) :
    Calls Try.prog 74 #[.int .i64 n] w fun e w' => e = .returned (.string (mkT n)) ∧ Below w.heap.size w w' := by
  go_enter Try.func74, Try.ntmps74
  go_wp2
  go_loopw [0, 3] (fun t u wr => ∃ (f k : Nat) (o : List UInt8), k ≤ n ∧ t = .int .i64 k ∧ u = .string (toS o) ∧ digs 20 n [] = digs f k o ∧ k < 10 ^ f ∧ f ≤ 20 ∧ o.length + f ≤ 20 ∧ Below w.heap.size w wr) (fun t _ _ => (intOf t).toNat)
  case atStart => exact ⟨20, n, [], Nat.le_refl _, rfl, rfl, rfl, by omega, by omega, by simp, Below.refl _ _⟩
  case round =>
    obtain ⟨f, k, o, hk, rfl, rfl, hD, hf, hf2, ho, hbel⟩ := hrel
    have HD := Lib.hid hD; clear hD
    have hsz := hbel.size
    by_cases hk0 : 0 < k
    · obtain ⟨g, rfl⟩ : ∃ g, f = g + 1 := ⟨f - 1, by
        rcases f with _ | f
        · simp at hf; omega
        · simp⟩
      have HN : Hid (digs 20 n [] = digs g (k / 10) (UInt8.ofNat (48 + k % 10) :: o)) := Lib.hid (by rw [HD.out, digs, if_neg (by omega)])
      have HF : Hid (k / 10 < 10 ^ g) := Lib.hid (by rw [Nat.pow_succ] at hf; omega)
      have HC : Hid ((⟨#[UInt8.ofNat (48 + k % 10)]⟩ : ByteArray) ++ toS o = toS (UInt8.ofNat (48 + k % 10) :: o)) := Lib.hid (by apply ByteArray.ext; simp [toS])
      clear hf
      have hos : (toS o).size ≤ 20 := by rw [toS_size]; omega
      have hcv := one_str wr (48 + k % 10) (by omega)
      have hca := cat ⟨#[UInt8.ofNat (48 + k % 10)]⟩ (toS o) (by rw [sz1]; omega)
      have e1 : ((48 + k % 10 : Nat) : Int) = 48 + (k : Int) % 10 := by omega
      rw [e1] at hcv
      clear e1
      generalize UInt8.ofNat (48 + k % 10) = c at *
      go_wp2
      refine ⟨⟨g, k / 10, c :: o, by omega, by go_num, by rw [HC.out], HN.out, HF.out, by omega, by simp only [List.length_cons]; omega, more hbel _⟩, ?_⟩
      simp [intOf]; omega
    · have HE : Hid (⟨#[109]⟩ ++ toS o = mkT n) := Lib.hid (by
        have e : k = 0 := by omega
        subst e
        have : digs f 0 o = o := by cases f <;> simp [digs]
        unfold mkT mkL
        rw [HD.out, this]
        apply ByteArray.ext; simp [toS])
      have hos : (toS o).size ≤ 20 := by rw [toS_size]; omega
      have hca := cat ⟨#[109]⟩ (toS o) (by rw [sz1]; omega)
      go_wp2
      go_ret
      exact ⟨ret_str HE.out, hbel⟩
/-- n pairs of marks, from k on -/
def marks : Nat → Nat → RdnL
  | _, 0 => []
  | k, n + 1 => marks k n ++ [(mkT (k + 2 * n), mkT (k + 2 * n + 1))]
theorem marks_len (k n : Nat) : (marks k n).length = n := by
  induction n with
  | zero => rfl
  | succ n ih => rw [marks, List.length_append, ih]; rfl
theorem marks_get (k n i : Nat) (h : i < n) (h' : i < (marks k n).length) : (marks k n)[i] = (mkT (k + 2 * i), mkT (k + 2 * i + 1)) := by
  induction n with
  | zero => omega
  | succ n ih =>
    have hl := marks_len k n
    simp only [marks]
    by_cases e : i < n
    · rw [List.getElem_append_left (by omega)]; exact ih e (by omega)
    · have : i = n := by omega
      subst this
      rw [List.getElem_append_right (by omega)]
      simp [hl]
/-- a block of pairs, the first k marked, the rest as they were -/
def MarkTo (w : World) (g n k j : Nat) : Prop := ∃ C : Array Value, w.heap[g]? = some (.cells C 61 (0, 0)) ∧ C.size = n * 2 ∧ C.toList.take (j * 2) = rs (marks k j)
theorem MarkTo.below {w w' : World} {g n k j : Nat} (h : MarkTo w g n k j) (hb : Below w.heap.size w w') : MarkTo w' g n k j := by
  obtain ⟨C, h1, h2⟩ := h
  exact ⟨C, (hb.block g (Array.getElem?_eq_some_iff.1 h1).1).trans h1, h2⟩
end Go.Proofs.Ytjajpdghamecoaa
/- The helpers of the laws: marks laid into a name, and found there again. -/
namespace Go.Proofs.Ytjajpdghamecoaa
open Go.RowKit
attribute [local go_sem ↓] Go.wp_at_zero Go.wp_at_succ

theorem grown_of {a b : World} (h : Below a.heap.size a b) (row : Option Nat) : a.grownBy b row := ⟨h.os, h.tape, h.output, h.size, fun k hk _ => h.block k hk⟩
theorem grown_tr {a b c : World} {r : Option Nat} (h : a.grownBy b r) (g : b.grownBy c r) : a.grownBy c r :=
  ⟨g.os.trans h.os, g.tape.trans h.tape, g.output.trans h.output, Nat.le_trans h.size g.size, fun k hk hne => (g.block k (Nat.lt_of_lt_of_le hk h.size) hne).trans (h.block k hk hne)⟩
theorem block_at {w : World} {g j n : Nat} {C : Array Value} (h : w.heap[g]? = some (.cells C 61 (0, 0))) (hC : C.size = n * 2) (hj : j < n * 2) :
    (∃ x, w.cell? ⟨g, j, none⟩ = some x) ∧ w.frozen? ⟨g, j, none⟩ = false := by
  refine ⟨⟨C[j]'(by omega), ?_⟩, ?_⟩
  · rw [cell_of_row w g _ C 61 (0, 0) h]; exact Array.getElem?_eq_getElem (by omega)
  · simp [World.frozen?, h]
set_option maxRecDepth 100000 in
set_option maxHeartbeats 2000000 in
theorem markRdnS_some (g n cap k : Nat) (w : World) (hn : n ≤ cap) (hm : n ≤ 1048576) (hk1 : 0 < k) (hk2 : k ≤ 1000) (hB : ∃ C : Array Value, w.heap[g]? = some (.cells C 61 (0, 0)) ∧ C.size = cap * 2) :
    Calls Try.prog 72 #[.slice (some ⟨g, 0, none⟩) n cap, .int .i64 k] w fun e w' => e = .returned (.int .i64 ((k + 2 * n : Nat) : Int)) ∧ RowTo w' g cap (marks k n) ∧ w.grownBy w' (some g) := by
  have hg : g < w.heap.size := by obtain ⟨C, h, _⟩ := hB; exact (Array.getElem?_eq_some_iff.1 h).1
  have HB := Lib.hid hB; clear hB
  go_enter Try.func72, Try.ntmps72
  go_wp2
  go_loopw [1, 5] (fun t i wr => ∃ j : Nat, j ≤ n ∧ i = .int .i64 j ∧ t = .int .i64 ((k + 2 * j : Nat) : Int) ∧ RowTo wr g cap (marks k j) ∧ w.grownBy wr (some g)) (fun _ i _ => n - (intOf i).toNat)
  case atStart =>
    obtain ⟨C, h1, h2⟩ := HB.out
    exact ⟨0, Nat.zero_le _, rfl, rfl, ⟨C, h1, h2, by simp [marks, rs]⟩, ⟨rfl, rfl, rfl, Nat.le_refl _, fun _ _ _ => rfl⟩⟩
  case round =>
    obtain ⟨j, hj, rfl, rfl, hR, hG⟩ := hrel
    by_cases hlt : j < n
    · obtain ⟨C, h1, h2, h3⟩ := hR
      rw [marks_len] at h3
      have HC := Lib.hid h1; have H2 := Lib.hid h2; have H3 := Lib.hid h3; have HG := Lib.hid hG
      clear h1 h2 h3 hG
      go_wp2_with fail
      refine (markText_any (k + 2 * j) wr (by omega) (by omega)).mono ?_
      rintro e w2 ⟨rfl, hb2⟩
      have HC2 : Hid (w2.heap[g]? = some (.cells C 61 (0, 0))) := Lib.hid ((hb2.block g (Array.getElem?_eq_some_iff.1 HC.out).1).trans HC.out)
      have HG2 := Lib.hid (grown_tr HG.out (grown_of hb2 _))
      clear hb2
      obtain ⟨⟨x0, c0⟩, f0⟩ := block_at (j := j * 2) HC2.out H2.out (by omega)
      have HM := Lib.hid (fun W => markText_any (k + 2 * j + 1) W (by omega) (by omega))
      rw [show ((k + 2 * j + 1 : Nat) : Int) = (k : Int) + 2 * (j : Int) + 1 by omega] at HM
      have HMk : Hid (marks k (j + 1) = marks k j ++ [(mkT (k + 2 * j), mkT (k + 2 * j + 1))]) := Lib.hid rfl
      generalize mkT (k + 2 * j) = A at *
      generalize mkT (k + 2 * j + 1) = V at *
      go_wp2_with fail
      refine (HM.out _).mono ?_
      rintro e w3 ⟨rfl, hb3⟩
      have HC3 : Hid (w3.heap[g]? = some (.cells (C.setIfInBounds (j * 2) (.string A)) 61 (0, 0))) := Lib.hid (by
        have h := heap_set (j := j * 2) (.string A) HC2.out
        exact (hb3.block g (Array.getElem?_eq_some_iff.1 h).1).trans h)
      have HG3 := Lib.hid (grown_tr (grown_tr HG2.out (grown_set w2 g (j * 2) (.string A))) (grown_of hb3 _))
      clear hb3 c0 f0
      obtain ⟨⟨x1, c1⟩, f1⟩ := block_at (j := j * 2 + 1) HC3.out (by rw [Array.size_setIfInBounds]; exact H2.out) (by omega)
      go_wp2
      go_roundw
      case rel =>
        refine ⟨j + 1, by omega, by go_num, ?_, ⟨_, heap_set _ HC3.out, ?_, ?_⟩, grown_tr HG3.out (grown_set _ _ _ _)⟩
        · rw [show ((k + 2 * (j + 1) : Nat) : Int) = (k : Int) + 2 * (j : Int) + 1 + 1 by omega]
        · rw [Array.size_setIfInBounds, Array.size_setIfInBounds]; exact H2.out
        · rw [marks_len, HMk.out, rs_append]
          exact take_set2 (by rw [H2.out]; omega) H3.out (marks_len k j)
      case measure => simp [intOf]; omega
    · have e : j = n := by omega
      subst e
      have HR := Lib.hid hR; clear hR
      go_wp2
      go_ret
      exact ⟨ret_int' (by omega), HR.out, hG⟩
set_option maxHeartbeats 400000 in
theorem markRdnS_none (ao : Option Addr) (cap k : Nat) (w : World) :
    Calls Try.prog 72 #[.slice ao 0 cap, .int .i64 k] w fun e w' => e = .returned (.int .i64 (k : Int)) ∧ w = w' := by
  go_enter Try.func72, Try.ntmps72
  go_wp2
  go_loop [1, 5] (fun t i => t = .int .i64 k ∧ i = .int .i64 0) (fun _ _ => 0)
  case atStart => exact ⟨rfl, rfl⟩
  case round =>
    obtain ⟨rfl, rfl⟩ := hrel
    go_wp2
    go_ret
    exact ⟨rfl, rfl⟩
/-- a name of the call's own is marked -/
theorem markRdnS_any (v : Value) (d : RdnL) (B k : Nat) (w : World) (hown : w.ownsRow B 61 2 v d.length (rs d)) (hm : d.length ≤ 1048576) (hk1 : 0 < k) (hk2 : k ≤ 1000) :
    Calls Try.prog 72 #[v, .int .i64 k] w fun e w' => e = .returned (.int .i64 ((k + 2 * d.length : Nat) : Int)) ∧ w'.ownsRow B 61 2 v (marks k d.length).length (rs (marks k d.length)) ∧ w.grownBy w' v.ownBlock := by
  by_cases h0 : d.length = 0
  · obtain ⟨ao, cap, rfl⟩ := own_slice hown
    have hd0 : d = [] := List.length_eq_zero_iff.1 h0
    subst hd0
    exact (markRdnS_none ao cap k w).mono fun e w' ⟨he, hw⟩ => by
      subst hw
      exact ⟨he, hown, ⟨rfl, rfl, rfl, Nat.le_refl _, fun _ _ _ => rfl⟩⟩
  · rcases hown.2 with ⟨rfl, hh⟩ | ⟨g, cap, cur, rfl, hb, hh, hc1, hc2, hc3, _⟩
    · omega
    · refine (markRdnS_some g d.length cap k w hc1 hm hk1 hk2 ⟨cur, hh, hc3⟩).mono fun e w' ⟨he, ⟨C, r1, r2, r3⟩, hg⟩ => ⟨he, ?_, hg⟩
      rw [marks_len] at r3 ⊢
      exact ⟨by rw [rs_length, marks_len], .inr ⟨g, cap, C, rfl, hb, r1, hc1, hc2, r2, r3⟩⟩
theorem markText_from (w0 : World) (n : Nat) (w : World) (h0 : 0 < n) (hn : n ≤ 1000000000) (hB : Below w0.heap.size w0 w) :
    Calls Try.prog 74 #[.int .i64 n] w fun e w' => e = .returned (.string (mkT n)) ∧ Below w0.heap.size w0 w' :=
  (markText_any n w h0 hn).mono fun _ _ ⟨he, hb⟩ => ⟨he, hB.trans (hb.mono hB.size)⟩
end Go.Proofs.Ytjajpdghamecoaa
/- Copies of entries, in blocks of their own. -/
namespace Go.Proofs.Ytjajpdghamecoaa
open Go.RowKit
attribute [local go_sem ↓] Go.wp_at_zero Go.wp_at_succ

theorem RowS.below {w w' : World} {g n : Nat} {l : List ByteArray} (h : RowS w g n l) (hb : Below w.heap.size w w') : RowS w' g n l := by
  obtain ⟨C, h1, h2⟩ := h
  exact ⟨C, (hb.block g (Array.getElem?_eq_some_iff.1 h1).1).trans h1, h2⟩
theorem RowS.far {w : World} {g n R j : Nat} {l : List ByteArray} (h : RowS w g n l) (hne : g ≠ R) (v : Value) : RowS (w.setCell ⟨R, j, none⟩ v) g n l := by
  obtain ⟨C, h1, h2⟩ := h
  exact ⟨C, (Below.heap_setCell _ _ _ _ hne).trans h1, h2⟩
/-- a copy of texts, in a new block -/
def CopyR (w : World) (l : List ByteArray) (v : Value) (w' : World) : Prop := ∃ g, v = .slice (some ⟨g, 0, none⟩) l.length l.length ∧ w.heap.size ≤ g ∧ g < w'.heap.size ∧ RowS w' g l.length l ∧ Below w.heap.size w w'
set_option maxRecDepth 100000 in
set_option maxHeartbeats 1000000 in
theorem toStringS_row (ao : Option Addr) (d : List ByteArray) (cap : Nat) (w : World) (hd : StrsAt w ao d) (hl : d.length ≤ 1048576) :
    Calls Try.prog 130 #[.slice ao d.length cap] w fun e w' => ∃ v, e = .returned v ∧ CopyR w d v w' := by
  have HD := Lib.hid hd; clear hd
  obtain ⟨C, hC, hmk⟩ := make47 d.length hl w
  have HC := Lib.hid hC; clear hC
  go_enter Try.func130, Try.ntmps130
  go_wp2
  clear hmk
  go_loopw [4] (fun i wr => ∃ k : Nat, k ≤ d.length ∧ i = .int .i64 k ∧ RowS wr w.heap.size d.length (d.take k) ∧ Below w.heap.size w wr) (fun i _ => d.length - (intOf i).toNat)
  case atStart => exact ⟨0, Nat.zero_le _, rfl, ⟨C, heap_alloc_new w _, HC.out, fun i h => by simp at h⟩, (Below.refl _ _).alloc (Nat.le_refl _) _⟩
  case round =>
    obtain ⟨k, hk, rfl, hR, hbel⟩ := hrel
    have HR := Lib.hid hR; clear hR
    have hsz := hbel.size
    by_cases hlt : k < d.length
    · obtain ⟨b, off, rfl, hb0, hd1⟩ := HD.out.at hlt
      have hc1 := (hbel.cell (p := ⟨b, off + k, none⟩) hb0).trans hd1
      have HT : Hid (d.take (k + 1) = d.take k ++ [d[k]]) := Lib.hid (List.take_succ_eq_append_getElem hlt)
      have HK : Hid ((d.take k).length = k) := Lib.hid (by rw [List.length_take]; omega)
      clear hd1
      generalize d[k] = A at *
      obtain ⟨⟨x, c0⟩, f0⟩ := HR.out.at hlt
      go_wp2
      go_roundw
      case rel => exact ⟨k + 1, by omega, by go_num, by rw [HT.out]; exact HR.out.set HK.out hlt A, hbel.setCell (Nat.le_refl _) _⟩
      case measure => simp [intOf]; omega
    · have e : d.take k = d := List.take_of_length_le (by omega)
      rw [e] at HR
      clear e
      go_wp2
      go_ret
      exact ⟨_, rfl, w.heap.size, rfl, Nat.le_refl _, (by obtain ⟨C, h1, _⟩ := HR.out; exact (Array.getElem?_eq_some_iff.1 h1).1), HR.out, hbel⟩
theorem CopyR.low {w w0 w' : World} {l : List ByteArray} {v : Value} (h : CopyR w l v w') (hb : Below w0.heap.size w0 w) : CopyR w0 l v w' := by
  obtain ⟨g, h1, h2, h3, h4, h5⟩ := h
  exact ⟨g, h1, Nat.le_trans hb.size h2, h3, h4, hb.trans (h5.mono hb.size)⟩
set_option maxRecDepth 100000 in
set_option maxHeartbeats 1000000 in
theorem toAttr_row (A : ByteArray) (vo : Option Addr) (l : List ByteArray) (vc : Nat) (w : World) (hd : StrsAt w vo l) (hl : l.length ≤ 1048576) :
    Calls Try.prog 104 #[.agg #[.string A, .slice vo l.length vc]] w fun e w' => ∃ v, e = .returned (.agg #[.string A, v]) ∧ CopyR w l v w' := by
  have HD := Lib.hid hd; clear hd
  go_enter Try.func104, Try.ntmps104
  go_wp2_with fail
  refine calls_any' (fun W => Below w.heap.size w W ∧ StrsAt W vo l ∧ Two W (w.heap.size + 1) 81 (.string ⟨#[]⟩) (.slice none 0 0) ∧ Two W (w.heap.size + 1 + 1) 81 (.string A) (.slice none 0 0)) ⟨more (more (more (Below.refl _ _) _) _) _, HD.out.below (more (more (more (Below.refl _ _) _) _) _), ?_, ?_⟩ ?_
  · exact Two.alloc (by have := twoNew (w.alloc (Obj.cells #[Value.string A, Value.slice vo l.length vc] 116)) 81 (.string ⟨#[]⟩) (.slice none 0 0); simpa using this) _
  · have := twoNew ((w.alloc (Obj.cells #[Value.string A, Value.slice vo l.length vc] 116)).alloc (Obj.cells #[Value.string ⟨#[]⟩, Value.slice none 0 0] 81)) 81 (.string A) (.slice none 0 0); simpa using this
  rintro W ⟨hbW, hsW, ht1, ht2⟩
  refine (toStringS_row vo l vc W hsW hl).mono ?_
  rintro e w2 ⟨v, rfl, g, rfl, hg1, hg2, hst, hb2⟩
  have T1 := Lib.hid (ht1.below hb2); have T2 := Lib.hid (ht2.below hb2); have ST := Lib.hid hst
  have B2 := Lib.hid (hbW.trans (hb2.mono hbW.size))
  have hn1 : w.heap.size + 1 + 1 < W.heap.size := ht2.lt
  clear ht1 ht2 hst hb2 hsW
  obtain ⟨⟨c0, c1⟩, f0, f1⟩ := T2.out.cells
  obtain ⟨⟨d0, d1⟩, g0, g1⟩ := T1.out.cells
  have TE := ((T1.out.far (R := w.heap.size + 1 + 1) (j := 1) (by omega) (.slice (some ⟨g, 0, none⟩) l.length l.length)).set0 (.string A)).set1 (.slice (some ⟨g, 0, none⟩) l.length l.length)
  obtain ⟨⟨k0, k1⟩, _⟩ := TE.cells
  clear TE
  go_wp2_with fail
  refine bodyPost_ret (v := .agg #[.string A, .slice (some ⟨g, 0, none⟩) l.length l.length]) (by simp [results, Try.results104, go_sem, k0, k1]) rfl ⟨_, rfl, g, rfl, ?_, ?_, ?_, ?_⟩
  · have := hbW.size; omega
  · simpa [World.setCell] using hg2
  · exact ((ST.out.far (by omega) _).far (by omega) _).far (by omega) _
  · exact ((B2.out.setCell (p := ⟨w.heap.size + 1 + 1, 1, none⟩) (by show w.heap.size ≤ w.heap.size + 1 + 1; omega) _).setCell (p := ⟨w.heap.size + 1, 0, none⟩) (by show w.heap.size ≤ w.heap.size + 1; omega) _).setCell (p := ⟨w.heap.size + 1, 1, none⟩) (by show w.heap.size ≤ w.heap.size + 1; omega) _
/-- a block of attributes, the first of them known -/
def RowB (w : World) (g n : Nat) (l : List AttrV) : Prop := ∃ C : Array Value, w.heap[g]? = some (.cells C 81 (0, 0)) ∧ C.size = n * 2 ∧
  ∀ i (h : i < l.length), C[i * 2]? = some (.string l[i].1) ∧ ∃ b, C[i * 2 + 1]? = some (.slice (some ⟨b, 0, none⟩) l[i].2.length l[i].2.length) ∧ g < b ∧ RowS w b l[i].2.length l[i].2
theorem RowB.lt {w : World} {g n : Nat} {l : List AttrV} (h : RowB w g n l) : g < w.heap.size := by obtain ⟨C, h1, _⟩ := h; exact (Array.getElem?_eq_some_iff.1 h1).1
theorem RowB.below {w w' : World} {g n : Nat} {l : List AttrV} (h : RowB w g n l) (hb : Below w.heap.size w w') : RowB w' g n l := by
  obtain ⟨C, h1, h2, h3⟩ := h
  refine ⟨C, (hb.block g (Array.getElem?_eq_some_iff.1 h1).1).trans h1, h2, fun i hi => ?_⟩
  obtain ⟨p, b, q, r, s⟩ := h3 i hi
  exact ⟨p, b, q, r, s.below hb⟩
theorem RowB.at {w : World} {g n k : Nat} {l : List AttrV} (h : RowB w g n l) (hk : k < n) :
    (∃ x y, w.cell? ⟨g, k * 2, none⟩ = some x ∧ w.cell? ⟨g, k * 2 + 1, none⟩ = some y) ∧ w.frozen? ⟨g, k * 2, none⟩ = false ∧ w.frozen? ⟨g, k * 2 + 1, none⟩ = false := by
  obtain ⟨C, h1, h2, _⟩ := h
  refine ⟨⟨C[k * 2]'(by omega), C[k * 2 + 1]'(by omega), ?_, ?_⟩, ?_, ?_⟩
  · rw [cell_of_row w g _ C 81 (0, 0) h1]; exact Array.getElem?_eq_getElem (by omega)
  · rw [cell_of_row w g _ C 81 (0, 0) h1]; exact Array.getElem?_eq_getElem (by omega)
  · simp [World.frozen?, h1]
  · simp [World.frozen?, h1]
theorem RowB.set {w : World} {g n k b : Nat} {l : List AttrV} {A : ByteArray} {V : List ByteArray} (h : RowB w g n l) (hl : l.length = k) (hk : k < n) (hb : g < b) (hs : RowS w b V.length V) :
    RowB ((w.setCell ⟨g, k * 2, none⟩ (.string A)).setCell ⟨g, k * 2 + 1, none⟩ (.slice (some ⟨b, 0, none⟩) V.length V.length)) g n (l ++ [(A, V)]) := by
  obtain ⟨C, h1, h2, h3⟩ := h
  refine ⟨_, heap_set _ (heap_set _ h1), by simp [h2], fun i hi => ?_⟩
  rw [Array.getElem?_setIfInBounds, Array.getElem?_setIfInBounds, Array.getElem?_setIfInBounds, Array.getElem?_setIfInBounds]
  by_cases e : i = k
  · subst e
    have hL : (l ++ [(A, V)])[i] = (A, V) := by rw [List.getElem_append_right (by omega)]; simp
    rw [hL, if_neg (by omega), if_pos rfl, if_pos (by omega), if_pos rfl, if_pos (by simp; omega)]
    exact ⟨rfl, b, rfl, hb, (hs.far (by omega) _).far (by omega) _⟩
  · have hi' : i < l.length := by simp at hi; omega
    rw [List.getElem_append_left hi', if_neg (by omega), if_neg (by omega), if_neg (by omega), if_neg (by omega)]
    obtain ⟨p, b', q, r, s⟩ := h3 i hi'
    exact ⟨p, b', q, r, (s.far (by omega) _).far (by omega) _⟩
theorem RowB.attrs {w : World} {g n : Nat} {l : List AttrV} (h : RowB w g n l) : AttrsAt w (some ⟨g, 0, none⟩) l := by
  obtain ⟨C, h1, h2, h3⟩ := h
  refine .inr ⟨g, 0, rfl, (Array.getElem?_eq_some_iff.1 h1).1, fun i hi => ?_⟩
  obtain ⟨p, b, q, r, s⟩ := h3 i hi
  refine ⟨?_, some ⟨b, 0, none⟩, l[i].2.length, ?_, s.strs, Nat.le_refl _, fun e => by cases e⟩
  · rw [cell_of_row w g _ C 81 (0, 0) h1, Nat.zero_add]; exact p
  · rw [cell_of_row w g _ C 81 (0, 0) h1, Nat.zero_add]; exact q
/-- a copy of attributes, in new blocks -/
def CopyB (w : World) (l : List AttrV) (v : Value) (w' : World) : Prop := ∃ g, v = .slice (some ⟨g, 0, none⟩) l.length l.length ∧ w.heap.size ≤ g ∧ RowB w' g l.length l ∧ Below w.heap.size w w'
set_option maxRecDepth 100000 in
set_option maxHeartbeats 1000000 in
theorem toAttrS_row (ao : Option Addr) (d : List AttrV) (cap : Nat) (w : World) (hd : AttrsAt w ao d) (hf : FitsA d) :
    Calls Try.prog 65 #[.slice ao d.length cap] w fun e w' => ∃ v, e = .returned v ∧ CopyB w d v w' := by
  have hl := hf.1
  have HD := Lib.hid hd; have HF := Lib.hid hf; clear hd hf
  obtain ⟨C, hC, hmk⟩ := make41 d.length hl w
  have HC := Lib.hid hC; clear hC
  go_enter Try.func65, Try.ntmps65
  go_wp2
  clear hmk
  go_loopw [4] (fun i wr => ∃ k : Nat, k ≤ d.length ∧ i = .int .i64 k ∧ RowB wr w.heap.size d.length (d.take k) ∧ Below w.heap.size w wr) (fun i _ => d.length - (intOf i).toNat)
  case atStart => exact ⟨0, Nat.zero_le _, rfl, ⟨C, heap_alloc_new w _, HC.out, fun i h => by simp at h⟩, (Below.refl _ _).alloc (Nat.le_refl _) _⟩
  case round =>
    obtain ⟨k, hk, rfl, hR, hbel⟩ := hrel
    have HR := Lib.hid hR; clear hR
    have hsz := hbel.size
    by_cases hlt : k < d.length
    · obtain ⟨b, off, vo, vc, rfl, hb0, hc1, hc2, hv⟩ := (HD.out.below hbel).at hlt
      have HV := Lib.hid hv.1; clear hv
      have hz := (HF.out.at hlt).2.1
      have HT : Hid (d.take (k + 1) = d.take k ++ [(d[k].1, d[k].2)]) := Lib.hid (List.take_succ_eq_append_getElem hlt)
      have HK : Hid ((d.take k).length = k) := Lib.hid (by rw [List.length_take]; omega)
      have hgw : w.heap.size < wr.heap.size := HR.out.lt
      generalize d[k].1 = A at *
      generalize d[k].2 = V at *
      go_wp2_with fail
      refine (toAttr_row A vo V vc wr HV.out hz).mono ?_
      rintro e w2 ⟨v, rfl, g, rfl, hg1, hg2, hst, hb2⟩
      have HR2 := Lib.hid (HR.out.below hb2)
      have B2 := Lib.hid (hbel.trans (hb2.mono hsz))
      have ST := Lib.hid hst
      clear hb2 hc1 hc2 hst
      obtain ⟨⟨x, y, c0, c1⟩, f0, f1⟩ := HR2.out.at hlt
      go_wp2
      go_roundw
      case rel => exact ⟨k + 1, by omega, by go_num, by rw [HT.out]; exact HR2.out.set HK.out hlt (by omega) ST.out, (B2.out.setCell (Nat.le_refl _) _).setCell (Nat.le_refl _) _⟩
      case measure => simp [intOf]; omega
    · have e : d.take k = d := List.take_of_length_le (by omega)
      rw [e] at HR
      clear e
      go_wp2
      go_ret
      exact ⟨_, rfl, w.heap.size, rfl, Nat.le_refl _, HR.out, hbel⟩
theorem RowB.far {w : World} {g n R j : Nat} {l : List AttrV} (h : RowB w g n l) (hR : R < g) (v : Value) : RowB (w.setCell ⟨R, j, none⟩ v) g n l := by
  obtain ⟨C, h1, h2, h3⟩ := h
  refine ⟨C, (Below.heap_setCell _ _ _ _ (show g ≠ R by omega)).trans h1, h2, fun i hi => ?_⟩
  obtain ⟨p, b, q, r, s⟩ := h3 i hi
  exact ⟨p, b, q, r, s.far (by omega) _⟩
end Go.Proofs.Ytjajpdghamecoaa
/- The helpers of the laws: marks laid into texts, and found there again. -/
namespace Go.Proofs.Ytjajpdghamecoaa
open Go.RowKit
attribute [local go_sem ↓] Go.wp_at_zero Go.wp_at_succ

/-- n marks, from k on -/
def marksS (k n : Nat) : List ByteArray := (List.range n).map fun i => mkT (k + i)
theorem marksS_len (k n : Nat) : (marksS k n).length = n := by simp [marksS]
theorem marksS_succ (k n : Nat) : marksS k (n + 1) = marksS k n ++ [mkT (k + n)] := by simp [marksS, List.range_succ]
theorem marksS_get (k n i : Nat) (h : i < (marksS k n).length) : (marksS k n)[i] = mkT (k + i) := by simp [marksS]
/-- a block of n texts -/
def StrSh (w : World) (b n : Nat) : Prop := ∃ C : Array Value, w.heap[b]? = some (.cells C 9 (0, 0)) ∧ C.size = n
theorem RowS.sh {w : World} {g n : Nat} {l : List ByteArray} (h : RowS w g n l) : StrSh w g n := by obtain ⟨C, h1, h2, _⟩ := h; exact ⟨C, h1, h2⟩
theorem StrSh.lt {w : World} {b n : Nat} (h : StrSh w b n) : b < w.heap.size := by obtain ⟨C, h1, _⟩ := h; exact (Array.getElem?_eq_some_iff.1 h1).1
theorem StrSh.below {w w' : World} {b n : Nat} (h : StrSh w b n) (hb : Below w.heap.size w w') : StrSh w' b n := by
  obtain ⟨C, h1, h2⟩ := h
  exact ⟨C, (hb.block b (Array.getElem?_eq_some_iff.1 h1).1).trans h1, h2⟩
set_option maxRecDepth 100000 in
set_option maxHeartbeats 2000000 in
theorem markStringS_some (g n cap k : Nat) (w : World) (hn : n ≤ cap) (hm : n ≤ 1048576) (hk1 : 0 < k) (hk2 : k ≤ 10000000) (hB : StrSh w g cap) :
    Calls Try.prog 36 #[.slice (some ⟨g, 0, none⟩) n cap, .int .i64 k] w fun e w' => e = .returned (.int .i64 ((k + n : Nat) : Int)) ∧ RowS w' g cap (marksS k n) ∧ w.grownBy w' (some g) := by
  have hg := hB.lt
  have HB := Lib.hid hB; clear hB
  go_enter Try.func36, Try.ntmps36
  go_wp2
  go_loopw [1, 5] (fun t i wr => ∃ j : Nat, j ≤ n ∧ i = .int .i64 j ∧ t = .int .i64 ((k + j : Nat) : Int) ∧ RowS wr g cap (marksS k j) ∧ w.grownBy wr (some g)) (fun _ i _ => n - (intOf i).toNat)
  case atStart =>
    obtain ⟨C, h1, h2⟩ := HB.out
    exact ⟨0, Nat.zero_le _, rfl, rfl, ⟨C, h1, h2, fun i h => by simp [marksS] at h⟩, ⟨rfl, rfl, rfl, Nat.le_refl _, fun _ _ _ => rfl⟩⟩
  case round =>
    obtain ⟨j, hj, rfl, rfl, hR, hG⟩ := hrel
    have HR := Lib.hid hR; have HG := Lib.hid hG; clear hR hG
    by_cases hlt : j < n
    · have HMk := Lib.hid (marksS_succ k j)
      have HLn := Lib.hid (marksS_len k j)
      have g1 : (0 : Int) ≤ (j : Int) := by omega
      have g2 : (j : Int) < (n : Int) := by omega
      go_wp2_with fail
      refine (markText_any (k + j) wr (by omega) (by omega)).mono ?_
      rintro e w2 ⟨rfl, hb2⟩
      have HR2 := Lib.hid (HR.out.below hb2)
      have HG2 := Lib.hid (grown_tr HG.out (grown_of hb2 _))
      clear hb2
      obtain ⟨⟨x0, c0⟩, f0⟩ := HR2.out.at (k := j) (by omega)
      generalize mkT (k + j) = A at *
      go_wp2
      go_roundw
      case rel =>
        refine ⟨j + 1, by omega, by go_num, ?_, ?_, grown_tr HG2.out (grown_set _ _ _ _)⟩
        · rw [show ((k + (j + 1) : Nat) : Int) = (k : Int) + (j : Int) + 1 by omega]
        · rw [HMk.out]; exact HR2.out.set HLn.out (by omega) A
      case measure => simp [intOf]; omega
    · have e : j = n := by omega
      subst e
      go_wp2
      go_ret
      exact ⟨ret_int' (by omega), HR.out, HG.out⟩
set_option maxHeartbeats 400000 in
theorem markStringS_none (ao : Option Addr) (cap k : Nat) (w : World) :
    Calls Try.prog 36 #[.slice ao 0 cap, .int .i64 k] w fun e w' => e = .returned (.int .i64 (k : Int)) ∧ w = w' := by
  go_enter Try.func36, Try.ntmps36
  go_wp2
  go_loop [1, 5] (fun t i => t = .int .i64 k ∧ i = .int .i64 0) (fun _ _ => 0)
  case atStart => exact ⟨rfl, rfl⟩
  case round =>
    obtain ⟨rfl, rfl⟩ := hrel
    go_wp2
    go_ret
    exact ⟨rfl, rfl⟩
/-- texts of the law's own are marked -/
theorem markStringS_any (v : Value) (V : List ByteArray) (B k : Nat) (w : World) (hown : w.ownsRow B 9 1 v V.length (ss V)) (hm : V.length ≤ 1048576) (hk1 : 0 < k) (hk2 : k ≤ 1000) :
    Calls Try.prog 36 #[v, .int .i64 k] w fun e w' => e = .returned (.int .i64 ((k + V.length : Nat) : Int)) ∧ w'.ownsRow B 9 1 v (marksS k V.length).length (ss (marksS k V.length)) ∧ w.grownBy w' v.ownBlock := by
  by_cases h0 : V.length = 0
  · obtain ⟨ao, cap, rfl⟩ := own_slice hown
    have hd0 : V = [] := List.length_eq_zero_iff.1 h0
    subst hd0
    exact (markStringS_none ao cap k w).mono fun e w' ⟨he, hw⟩ => by
      subst hw
      exact ⟨he, hown, ⟨rfl, rfl, rfl, Nat.le_refl _, fun _ _ _ => rfl⟩⟩
  · rcases hown.2 with ⟨rfl, hh⟩ | ⟨g, cap, cur, rfl, hb, hh, hc1, hc2, hc3, _⟩
    · omega
    · refine (markStringS_some g V.length cap k w hc1 hm hk1 (by omega) ⟨cur, hh, by omega⟩).mono fun e w' ⟨he, ⟨C, r1, r2, r3⟩, hg⟩ => ⟨he, ?_, hg⟩
      have hl := marksS_len k V.length
      refine ⟨by rw [ss_length]; omega, .inr ⟨g, cap, C, by rw [hl], hb, r1, by omega, hc2, by omega, ?_⟩⟩
      apply List.ext_getElem?
      intro i
      rw [Nat.mul_one]
      by_cases hi : i < (marksS k V.length).length
      · rw [List.getElem?_take_of_lt hi, Array.getElem?_toList, r3 i hi]
        unfold ss; rw [List.getElem?_map, List.getElem?_eq_getElem hi]; rfl
      · rw [List.getElem?_eq_none (by rw [List.length_take]; omega), List.getElem?_eq_none (by rw [ss_length]; omega)]
set_option maxRecDepth 100000 in
set_option maxHeartbeats 2000000 in
theorem heldStringS_any (ao : Option Addr) (n cap k : Nat) (w : World) (hd : StrsAt w ao (marksS k n)) (hm : n ≤ 1048576) (hk1 : 0 < k) (hk2 : k ≤ 1000) :
    Calls Try.prog 37 #[.slice ao n cap, .int .i64 k] w fun e w' => e = .returned (.int .i64 ((k + n : Nat) : Int)) ∧ Below w.heap.size w w' := by
  have HD := Lib.hid hd; clear hd
  go_enter Try.func37, Try.ntmps37
  go_wp2
  go_loopw [1, 5] (fun t i wr => ∃ j : Nat, j ≤ n ∧ i = .int .i64 j ∧ t = .int .i64 ((k + j : Nat) : Int) ∧ Below w.heap.size w wr) (fun _ i _ => n - (intOf i).toNat)
  case atStart => exact ⟨0, Nat.zero_le _, rfl, rfl, Below.refl _ _⟩
  case round =>
    obtain ⟨j, hj, rfl, rfl, hbel⟩ := hrel
    by_cases hlt : j < n
    · have hl := marksS_len k n
      obtain ⟨b, off, rfl, hb0, hd1⟩ := HD.out.at (k := j) (by omega)
      rw [marksS_get k n j] at hd1
      clear hl
      have HM1 := Lib.hid (fun W h => markText_from w (k + j) W (by omega) (by omega) h)
      rw [show ((k + j : Nat) : Int) = (k : Int) + (j : Int) by omega] at HM1 ⊢
      generalize mkT (k + j) = A at *
      have SK : Hid (∀ W : World, Below w.heap.size w W → (Below w.heap.size w W ∧ W.cell? ⟨b, off + j, none⟩ = some (.string A))) :=
        Lib.hid (fun W h => ⟨h, (h.cell (p := ⟨b, _, none⟩) hb0).trans hd1⟩)
      clear hd1
      have g1 : (0 : Int) ≤ (j : Int) := by omega
      have g2 : (j : Int) < (n : Int) := by omega
      have hbd := hbel.drew
      go_wp2_with fail
      go_region_held3 (fun W => Below w.heap.size w W ∧ W.cell? ⟨b, off + j, none⟩ = some (.string A))
        (exact SK.out _ (by assumption))
        (first | (go_at_call 74; refine (HM1.out _ (by assumption)).mono ?_; rintro e w2 ⟨rfl, hb2⟩) | (fail "none"))
      go_wp2
      go_roundw
      case rel => exact ⟨j + 1, by omega, by go_num, by rw [show ((k + (j + 1) : Nat) : Int) = (k : Int) + (j : Int) + 1 by omega], hb2⟩
      case measure => simp [intOf]; omega
    · have e : j = n := by omega
      subst e
      go_wp2
      go_ret
      exact ⟨ret_int' (by omega), hbel⟩
end Go.Proofs.Ytjajpdghamecoaa
/- The helpers of the laws: an entry of the law's own is marked. -/
namespace Go.Proofs.Ytjajpdghamecoaa
open Go.RowKit
attribute [local go_sem ↓] Go.wp_at_zero Go.wp_at_succ

/-- a block of n pairs -/
def DnSh (w : World) (b n : Nat) : Prop := ∃ C : Array Value, w.heap[b]? = some (.cells C 61 (0, 0)) ∧ C.size = n * 2
theorem DnSh.lt {w : World} {b n : Nat} (h : DnSh w b n) : b < w.heap.size := by obtain ⟨C, h1, _⟩ := h; exact (Array.getElem?_eq_some_iff.1 h1).1
theorem DnSh.below {w w' : World} {b n : Nat} (h : DnSh w b n) (hb : Below w.heap.size w w') : DnSh w' b n := by
  obtain ⟨C, h1, h2⟩ := h
  exact ⟨C, (hb.block b (Array.getElem?_eq_some_iff.1 h1).1).trans h1, h2⟩
theorem DnSh.far {w : World} {b n R j : Nat} (h : DnSh w b n) (hne : b ≠ R) (v : Value) : DnSh (w.setCell ⟨R, j, none⟩ v) b n := by
  obtain ⟨C, h1, h2⟩ := h
  exact ⟨C, (Below.heap_setCell _ _ _ _ hne).trans h1, h2⟩
theorem own_sh {w : World} {B g : Nat} {d : RdnL} (h : w.ownsRow B 61 2 (.slice (some ⟨g, 0, none⟩) d.length d.length) d.length (rs d)) : DnSh w g d.length := by
  rcases h.2 with ⟨h0, _⟩ | ⟨k, cap, cur, e, _, hk, _, _, hc, _⟩
  · cases h0
  · injection e with e1 e2 e3
    injection e1 with e1
    injection e1 with e1
    subst e1
    exact ⟨cur, hk, by omega⟩
/-- an entry of the law's own, in blocks from lo on -/
def EntOwn (w : World) (v : Value) (d : RdnL) (l : List AttrV) (lo : Nat) : Prop := ∃ G g, v = .agg #[.slice (some ⟨G, 0, none⟩) d.length d.length, .slice (some ⟨g, 0, none⟩) l.length l.length] ∧ lo ≤ G ∧ lo ≤ g ∧ DnAt w (some ⟨G, 0, none⟩) d ∧ DnSh w G d.length ∧ RowB w g l.length l
set_option maxRecDepth 100000 in
set_option maxHeartbeats 1000000 in
theorem toEntry_row (ao bo : Option Addr) (d : RdnL) (l : List AttrV) (ca cb : Nat) (w : World) (hd : DnAt w ao d) (hl : AttrsAt w bo l) (hfd : d.length ≤ 1048576) (hfl : FitsA l) :
    Calls Try.prog 29 #[.agg #[.slice ao d.length ca, .slice bo l.length cb]] w fun e w' => ∃ v, e = .returned v ∧ EntOwn w' v d l w.heap.size ∧ Below w.heap.size w w' := by
  have HD := Lib.hid hd; have HL := Lib.hid hl; have HF := Lib.hid hfl; clear hd hl hfl
  go_enter Try.func29, Try.ntmps29
  go_wp2_with fail
  refine calls_any' (fun W => Below w.heap.size w W ∧ Two W w.heap.size 38 (.slice ao d.length ca) (.slice bo l.length cb) ∧ Two W (w.heap.size + 1) 43 (.slice none 0 0) (.slice none 0 0) ∧ Two W (w.heap.size + 1 + 1) 43 (.slice none 0 0) (.slice none 0 0)) ⟨more (more (more (Below.refl _ _) _) _) _, ((twoNew w 38 _ _).alloc _).alloc _, ?_, ?_⟩ ?_
  · exact Two.alloc (by have := twoNew (w.alloc (Obj.cells #[.slice ao d.length ca, .slice bo l.length cb] 38)) 43 (.slice none 0 0) (.slice none 0 0); simpa using this) _
  · have := twoNew ((w.alloc (Obj.cells #[.slice ao d.length ca, .slice bo l.length cb] 38)).alloc (Obj.cells #[.slice none 0 0, .slice none 0 0] 43)) 43 (.slice none 0 0) (.slice none 0 0); simpa using this
  rintro W ⟨hbW, ht0, ht1, ht2⟩
  have hn2 : w.heap.size + 1 + 1 < W.heap.size := ht2.lt
  refine (toRdnS_any ao d ca W (HD.out.below hbW) hfd).mono ?_
  rintro e w2 ⟨rfl, ho2, hb2⟩
  have T0 := Lib.hid (ht0.below hb2); have T1 := Lib.hid (ht1.below hb2); have T2 := Lib.hid (ht2.below hb2)
  have X2 := Lib.hid (own_dn ho2); have D2 := Lib.hid (own_sh ho2)
  have B2 := Lib.hid (hbW.trans (hb2.mono hbW.size))
  have hsz2 := hb2.size; have hGw : w.heap.size ≤ W.heap.size := hbW.size
  clear ht0 ht1 ht2 ho2 hb2
  generalize W.heap.size = G at *
  clear hbW
  obtain ⟨⟨p0, p1⟩, _⟩ := T0.out.cells
  obtain ⟨⟨c0, c1⟩, f0, f1⟩ := T2.out.cells
  go_wp2_with fail
  refine calls_any' (fun W => Below w.heap.size w W ∧ DnAt W (some ⟨G, 0, none⟩) d ∧ DnSh W G d.length ∧ Two W (w.heap.size + 1) 43 (.slice none 0 0) (.slice none 0 0) ∧ Two W (w.heap.size + 1 + 1) 43 (.slice (some ⟨G, 0, none⟩) d.length d.length) (.slice none 0 0)) ⟨B2.out.setCell (p := ⟨w.heap.size + 1 + 1, 0, none⟩) (by show w.heap.size ≤ w.heap.size + 1 + 1; omega) _, X2.out.set (by omega) _, D2.out.far (by omega) _, T1.out.far (by omega) _, T2.out.set0 _⟩ ?_
  clear T0 T1 T2 X2 D2 B2 p0 p1 c0 c1 f0 f1 hsz2
  rintro V ⟨hbV, hxV, hdV, ht1, ht2⟩
  have hnV : w.heap.size + 1 + 1 < V.heap.size := ht2.lt
  refine (toAttrS_row bo l cb V (HL.out.below hbV) HF.out).mono ?_
  rintro e w3 ⟨v, rfl, g, rfl, hg1, hra, hb3⟩
  have T1 := Lib.hid (ht1.below hb3); have T2 := Lib.hid (ht2.below hb3); have X3 := Lib.hid (hxV.below hb3); have D3 := Lib.hid (hdV.below hb3); have RA := Lib.hid hra
  have B3 := Lib.hid (hbV.trans (hb3.mono hbV.size))
  clear ht1 ht2 hxV hdV hra hb3 hbV
  obtain ⟨⟨c0, c1⟩, f0, f1⟩ := T2.out.cells
  obtain ⟨⟨d0, d1⟩, g0, g1⟩ := T1.out.cells
  have TE := ((T1.out.far (R := w.heap.size + 1 + 1) (j := 1) (by omega) (.slice (some ⟨g, 0, none⟩) l.length l.length)).set0 (.slice (some ⟨G, 0, none⟩) d.length d.length)).set1 (.slice (some ⟨g, 0, none⟩) l.length l.length)
  obtain ⟨⟨k0, k1⟩, _⟩ := TE.cells
  clear TE
  go_wp2_with fail
  refine bodyPost_ret (v := .agg #[.slice (some ⟨G, 0, none⟩) d.length d.length, .slice (some ⟨g, 0, none⟩) l.length l.length]) (by simp [results, Try.results29, go_sem, k0, k1]) rfl ⟨_, rfl, ⟨G, g, rfl, by omega, by omega, ?_, ?_, ?_⟩, ?_⟩
  · exact ((X3.out.set (by omega) _).set (by omega) _).set (by omega) _
  · exact ((D3.out.far (by omega) _).far (by omega) _).far (by omega) _
  · exact ((RA.out.far (by omega) _).far (by omega) _).far (by omega) _
  · exact ((B3.out.setCell (p := ⟨w.heap.size + 1 + 1, 1, none⟩) (by show w.heap.size ≤ w.heap.size + 1 + 1; omega) _).setCell (p := ⟨w.heap.size + 1, 0, none⟩) (by show w.heap.size ≤ w.heap.size + 1; omega) _).setCell (p := ⟨w.heap.size + 1, 1, none⟩) (by show w.heap.size ≤ w.heap.size + 1; omega) _
/-- what stands outside the blocks from lo to below hi is as it was -/
def Mid (lo hi : Nat) (w w' : World) : Prop := w'.os = w.os ∧ w'.tape = w.tape ∧ w'.output = w.output ∧ w.heap.size ≤ w'.heap.size ∧ ∀ k, k < w.heap.size → (k < lo ∨ hi ≤ k) → w'.heap[k]? = w.heap[k]?
theorem Mid.refl (lo hi : Nat) (w : World) : Mid lo hi w w := ⟨rfl, rfl, rfl, Nat.le_refl _, fun _ _ _ => rfl⟩
theorem Mid.trans {lo hi : Nat} {a b c : World} (h : Mid lo hi a b) (g : Mid lo hi b c) : Mid lo hi a c :=
  ⟨g.1.trans h.1, g.2.1.trans h.2.1, g.2.2.1.trans h.2.2.1, Nat.le_trans h.2.2.2.1 g.2.2.2.1, fun k hk hx => (g.2.2.2.2 k (Nat.lt_of_lt_of_le hk h.2.2.2.1) hx).trans (h.2.2.2.2 k hk hx)⟩
theorem Mid.of_below {lo hi : Nat} {a b : World} (h : Below a.heap.size a b) : Mid lo hi a b := ⟨h.os, h.tape, h.output, h.size, fun k hk _ => h.block k hk⟩
theorem Mid.of_grown {lo hi r : Nat} {a b : World} (h : a.grownBy b (some r)) (h1 : lo ≤ r) (h2 : r < hi) : Mid lo hi a b :=
  ⟨h.os, h.tape, h.output, h.size, fun k hk hx => h.block k hk (by intro e; injection e with e; omega)⟩
theorem Mid.below {lo hi : Nat} {w a b : World} (h : Mid lo hi a b) (hb : Below w.heap.size w a) (hlo : w.heap.size ≤ lo) : Below w.heap.size w b :=
  hb.trans ⟨h.1, h.2.1, h.2.2.1, h.2.2.2.1, fun k hk => h.2.2.2.2 k (Nat.lt_of_lt_of_le hk hb.size) (.inl (by omega))⟩
/-- a block of attributes whose texts lie in blocks of their own -/
def AttrSh (w : World) (g lo hi : Nat) (l : List AttrV) : Prop := ∃ C : Array Value, w.heap[g]? = some (.cells C 81 (0, 0)) ∧ C.size = l.length * 2 ∧
  ∀ i (h : i < l.length), ∃ b, C[i * 2 + 1]? = some (.slice (some ⟨b, 0, none⟩) l[i].2.length l[i].2.length) ∧ lo ≤ b ∧ b < hi ∧ StrSh w b l[i].2.length
theorem AttrSh.below {w w' : World} {g lo hi : Nat} {l : List AttrV} (h : AttrSh w g lo hi l) (hb : Below w.heap.size w w') : AttrSh w' g lo hi l := by
  obtain ⟨C, h1, h2, h3⟩ := h
  refine ⟨C, (hb.block g (Array.getElem?_eq_some_iff.1 h1).1).trans h1, h2, fun i hi => ?_⟩
  obtain ⟨b, q1, q2, q3, q4⟩ := h3 i hi
  exact ⟨b, q1, q2, q3, q4.below hb⟩
theorem RowB.sh {w : World} {g lo : Nat} {l : List AttrV} (h : RowB w g l.length l) (hlo : lo ≤ g) : AttrSh w g lo w.heap.size l := by
  obtain ⟨C, h1, h2, h3⟩ := h
  refine ⟨C, h1, h2, fun i hi => ?_⟩
  obtain ⟨_, b, q2, q3, q4⟩ := h3 i hi
  exact ⟨b, q2, by omega, q4.sh.lt, q4.sh⟩
theorem sh_apart {w : World} {g b n : Nat} {C : Array Value} (h : w.heap[g]? = some (.cells C 81 (0, 0))) (hb : StrSh w b n) : b ≠ g := by
  rintro rfl
  obtain ⟨C', h1, _⟩ := hb
  rw [h] at h1
  injection h1 with h1
  injection h1 with _ h1
  cases h1
/-- a name is set -/
theorem AttrSh.name {w : World} {g lo hi : Nat} {l : List AttrV} (h : AttrSh w g lo hi l) (j : Nat) (v : Value) : AttrSh (w.setCell ⟨g, j * 2, none⟩ v) g lo hi l := by
  obtain ⟨C, h1, h2, h3⟩ := h
  refine ⟨_, heap_set v h1, by simp [h2], fun i hi => ?_⟩
  obtain ⟨b, q1, q2, q3, q4⟩ := h3 i hi
  refine ⟨b, by rw [Array.getElem?_setIfInBounds, if_neg (by omega)]; exact q1, q2, q3, ?_⟩
  have hne := sh_apart h1 q4
  obtain ⟨C', r1, r2⟩ := q4
  exact ⟨C', (Below.heap_setCell _ _ _ _ hne).trans r1, r2⟩
/-- the texts of one are marked -/
theorem AttrSh.texts {w w' : World} {g lo hi b n : Nat} {l : List AttrV} (h : AttrSh w g lo hi l) (hb : StrSh w b n) (hb' : StrSh w' b n) (hg : w.grownBy w' (some b)) : AttrSh w' g lo hi l := by
  obtain ⟨C, h1, h2, h3⟩ := h
  have hne := sh_apart h1 hb
  refine ⟨C, (hg.block g (Array.getElem?_eq_some_iff.1 h1).1 (by intro e; injection e with e; exact hne e.symm)).trans h1, h2, fun i hi => ?_⟩
  obtain ⟨b', q1, q2, q3, q4⟩ := h3 i hi
  refine ⟨b', q1, q2, q3, ?_⟩
  by_cases e : b' = b
  · subst e
    obtain ⟨X, x1, x2⟩ := q4
    obtain ⟨Y, y1, y2⟩ := hb
    rw [x1] at y1
    injection y1 with y1
    injection y1 with y1
    subst y1
    obtain ⟨Z, z1, z2⟩ := hb'
    exact ⟨Z, z1, by omega⟩
  · obtain ⟨X, x1, x2⟩ := q4
    exact ⟨X, (hg.block b' (Array.getElem?_eq_some_iff.1 x1).1 (by intro e'; injection e' with e'; exact e e')).trans x1, x2⟩
theorem AttrSh.pairs {w w' : World} {g lo hi G n : Nat} {l : List AttrV} (h : AttrSh w g lo hi l) (hD : DnSh w G n) (hg : w.grownBy w' (some G)) : AttrSh w' g lo hi l := by
  obtain ⟨C, h1, h2, h3⟩ := h
  obtain ⟨D, d1, _⟩ := hD
  have hne : g ≠ G := by
    rintro rfl
    rw [h1] at d1; injection d1 with d1; injection d1 with _ d1; cases d1
  refine ⟨C, (hg.block g (Array.getElem?_eq_some_iff.1 h1).1 (by intro e; injection e with e; exact hne e)).trans h1, h2, fun i hi => ?_⟩
  obtain ⟨b', q1, q2, q3, X, x1, x2⟩ := h3 i hi
  have hne' : b' ≠ G := by
    rintro rfl
    rw [x1] at d1; injection d1 with d1; injection d1 with _ d1; cases d1
  exact ⟨b', q1, q2, q3, X, (hg.block b' (Array.getElem?_eq_some_iff.1 x1).1 (by intro e'; injection e' with e'; exact hne' e')).trans x1, x2⟩
theorem AttrSh.at {w : World} {g lo hi k : Nat} {l : List AttrV} (h : AttrSh w g lo hi l) (hk : k < l.length) :
    ((∃ x, w.cell? ⟨g, k * 2, none⟩ = some x) ∧ w.frozen? ⟨g, k * 2, none⟩ = false) ∧ ∃ b, w.cell? ⟨g, k * 2 + 1, none⟩ = some (.slice (some ⟨b, 0, none⟩) l[k].2.length l[k].2.length) ∧ lo ≤ b ∧ b < hi ∧ StrSh w b l[k].2.length ∧ b ≠ g := by
  obtain ⟨C, h1, h2, h3⟩ := h
  obtain ⟨b, q1, q2, q3, q4⟩ := h3 k hk
  refine ⟨⟨⟨C[k * 2]'(by omega), ?_⟩, ?_⟩, b, ?_, q2, q3, q4, sh_apart h1 q4⟩
  · rw [cell_of_row w g _ C 81 (0, 0) h1]; exact Array.getElem?_eq_getElem (by omega)
  · simp [World.frozen?, h1]
  · rw [cell_of_row w g _ C 81 (0, 0) h1]; exact q1
/-- how many marks the first j take -/
def cntA (l : List AttrV) (j : Nat) : Nat := ((l.take j).map fun a => 1 + a.2.length).sum
theorem cntA_succ (l : List AttrV) (j : Nat) (h : j < l.length) : cntA l (j + 1) = cntA l j + (1 + l[j].2.length) := by
  unfold cntA; rw [List.take_succ_eq_append_getElem h, List.map_append, List.sum_append]; simp
theorem cntA_le (l : List AttrV) (j : Nat) : cntA l j ≤ cntA l l.length := by
  unfold cntA
  rw [List.take_length]
  have h := List.take_append_drop j l
  have : (l.map fun a => 1 + a.2.length).sum = ((l.take j).map fun a => 1 + a.2.length).sum + ((l.drop j).map fun a => 1 + a.2.length).sum := by
    rw [← List.sum_append, ← List.map_append, h]
  omega
theorem cntA_size (l : List AttrV) : cntA l l.length ≤ l.length + sizeAs l := by
  unfold cntA sizeAs
  rw [List.take_length]
  induction l with
  | nil => simp
  | cons a l ih =>
    simp only [List.map_cons, List.sum_cons, List.length_cons]
    unfold sizeA at *
    omega
set_option maxRecDepth 100000 in
set_option maxHeartbeats 2000000 in
theorem markAttrS_any (g lo hi k : Nat) (l : List AttrV) (w : World) (hS : AttrSh w g lo hi l) (hg1 : lo ≤ g) (hg2 : g < hi) (hz : l.length + sizeAs l ≤ 1048576) (hk1 : 0 < k) (hk2 : k ≤ 3000000) :
    Calls Try.prog 73 #[.slice (some ⟨g, 0, none⟩) l.length l.length, .int .i64 k] w fun e w' => e = .returned (.int .i64 ((k + cntA l l.length : Nat) : Int)) ∧ Mid lo hi w w' := by
  have HS := Lib.hid hS; clear hS
  have hcz := cntA_size l
  go_enter Try.func73, Try.ntmps73
  go_wp2
  go_loopw [1, 5] (fun t i wr => ∃ j : Nat, j ≤ l.length ∧ i = .int .i64 j ∧ t = .int .i64 ((k + cntA l j : Nat) : Int) ∧ AttrSh wr g lo hi l ∧ Mid lo hi w wr) (fun _ i _ => l.length - (intOf i).toNat)
  case atStart => exact ⟨0, Nat.zero_le _, rfl, by simp [cntA], HS.out, Mid.refl _ _ _⟩
  case round =>
    obtain ⟨j, hj, rfl, rfl, hA, hM⟩ := hrel
    have HA := Lib.hid hA; have HM := Lib.hid hM; clear hA hM
    have hcj := cntA_le l j
    by_cases hlt : j < l.length
    · have HCs := Lib.hid (cntA_succ l j hlt)
      have hcs : cntA l j + (1 + l[j].2.length) ≤ cntA l l.length := by have := cntA_le l (j + 1); rw [HCs.out] at this; exact this
      have g1 : (0 : Int) ≤ (j : Int) := by omega
      have g2 : (j : Int) < (l.length : Int) := by omega
      generalize cntA l j = c at *
      go_wp2_with fail
      refine (markText_any (k + c) wr (by omega) (by omega)).mono ?_
      rintro e w2 ⟨rfl, hb2⟩
      have HA2 := Lib.hid (HA.out.below hb2)
      have HM2 := Lib.hid (HM.out.trans (Mid.of_below hb2))
      clear hb2
      obtain ⟨⟨⟨x0, c0⟩, f0⟩, _⟩ := HA2.out.at hlt
      generalize mkT (k + c) = A at *
      have HA3 := Lib.hid (HA2.out.name j (.string A))
      have HM3 := Lib.hid (HM2.out.trans (Mid.of_grown (grown_set w2 g (j * 2) (.string A)) hg1 hg2))
      obtain ⟨_, b, c1, b1, b2, hSh, hbg⟩ := HA3.out.at hlt
      have HSh := Lib.hid hSh
      have HMS : Hid (∀ W, StrSh W b l[j].2.length → Calls Try.prog 36 #[.slice (some ⟨b, 0, none⟩) l[j].2.length l[j].2.length, .int .i64 (((k + c + 1 : Nat)) : Int)] W fun e w' => e = .returned (.int .i64 ((k + c + 1 + l[j].2.length : Nat) : Int)) ∧ RowS w' b l[j].2.length (marksS (k + c + 1) l[j].2.length) ∧ W.grownBy w' (some b)) :=
        Lib.hid (fun W h => markStringS_some b _ _ (k + c + 1) W (Nat.le_refl _) (by omega) (by omega) (by omega) h)
      rw [show ((k + c + 1 : Nat) : Int) = (k : Int) + (c : Int) + 1 by omega] at HMS
      clear hSh
      generalize hnn : l[j].2.length = n at *
      have Hnn := Lib.hid hnn; clear hnn
      go_wp2_with fail
      refine (HMS.out _ HSh.out).mono ?_
      rintro e w3 ⟨rfl, hr3, hg3⟩
      have HA4 := Lib.hid (HA3.out.texts HSh.out hr3.sh hg3)
      have HM4 := Lib.hid (HM3.out.trans (Mid.of_grown hg3 b1 b2))
      clear hr3 hg3 c0 f0 c1
      go_wp2
      go_roundw
      case rel => exact ⟨j + 1, by omega, by go_num, by rw [HCs.out]; exact congrArg (Value.int .i64) (by omega), HA4.out, HM4.out⟩
      case measure => simp [intOf]; omega
    · have e : j = l.length := by omega
      subst e
      go_wp2
      go_ret
      exact ⟨ret_int' (by omega), HM.out⟩
set_option maxRecDepth 100000 in
set_option maxHeartbeats 2000000 in
theorem markEntry_any (v : Value) (d : RdnL) (l : List AttrV) (lo hi : Nat) (w w1 : World) (hE : EntOwn w1 v d l lo) (hi1 : hi = w1.heap.size) (hb : Below w1.heap.size w1 w) (hz : sizeE d l ≤ 1048576) :
    Calls Try.prog 35 #[v, .int .i64 1] w fun e w' => (∃ n : Nat, n ≤ 10000000 ∧ e = .returned (.int .i64 (n : Int))) ∧ Mid lo hi w w' := by
  obtain ⟨G, g, rfl, h1, h2, h3, h4, h5⟩ := hE
  unfold sizeE at hz
  have D0 := Lib.hid (h4.below hb)
  have A0 : Hid (AttrSh w g lo hi l) := Lib.hid (by subst hi1; exact (h5.sh h2).below hb)
  have hG : G < hi := by subst hi1; exact h4.lt
  have hg : g < hi := by subst hi1; exact h5.lt
  have hcz := cntA_size l
  have hiw : hi ≤ w.heap.size := by subst hi1; exact hb.size
  clear h3 h4 h5 hb hi1
  go_enter Try.func35, Try.ntmps35
  go_wp2_with fail
  have hal := more (Below.refl w.heap.size w) (.cells #[.slice (some ⟨G, 0, none⟩) d.length d.length, .slice (some ⟨g, 0, none⟩) l.length l.length] 43)
  refine calls_any' (fun W => Below w.heap.size w W ∧ w.heap.size < W.heap.size ∧ Two W w.heap.size 43 (.slice (some ⟨G, 0, none⟩) d.length d.length) (.slice (some ⟨g, 0, none⟩) l.length l.length)) ⟨hal, by simp, twoNew w 43 _ _⟩ ?_
  clear hal
  rintro W ⟨hbW, hlW, t0⟩
  have D1 := Lib.hid (D0.out.below hbW); have A1 := Lib.hid (A0.out.below hbW)
  refine (markRdnS_some G d.length d.length 1 W (Nat.le_refl _) (by omega) (by omega) (by omega) D1.out).mono ?_
  rintro e w2 ⟨rfl, _, hg2⟩
  have A2 := Lib.hid (A1.out.pairs D1.out hg2)
  have M2 := Lib.hid ((Mid.of_below (lo := lo) (hi := hi) hbW).trans (Mid.of_grown hg2 h1 hG))
  have T2 : Hid (Two w2 w.heap.size 43 (.slice (some ⟨G, 0, none⟩) d.length d.length) (.slice (some ⟨g, 0, none⟩) l.length l.length)) := Lib.hid ((hg2.block w.heap.size hlW (by intro e; injection e with e; omega)).trans t0)
  obtain ⟨⟨c0, c1⟩, _⟩ := T2.out.cells
  clear hbW hlW t0 hg2 D0 D1 A0 A1
  have HA : Hid (∀ X, AttrSh X g lo hi l → Calls Try.prog 73 #[.slice (some ⟨g, 0, none⟩) l.length l.length, .int .i64 ((1 + 2 * d.length : Nat) : Int)] X fun e w' => e = .returned (.int .i64 ((1 + 2 * d.length + cntA l l.length : Nat) : Int)) ∧ Mid lo hi X w') :=
    Lib.hid (fun X h => markAttrS_any g lo hi (1 + 2 * d.length) l X h h2 hg (by omega) (by omega) (by omega))
  have hbd : 1 + 2 * d.length + cntA l l.length ≤ 10000000 := by omega
  go_wp2_with fail
  refine (HA.out w2 A2.out).mono ?_
  rintro e w3 ⟨rfl, hm3⟩
  have M3 := Lib.hid (M2.out.trans hm3)
  clear hm3
  generalize 1 + 2 * d.length + cntA l l.length = q at *
  go_wp2
  go_ret
  exact ⟨⟨q, hbd, rfl⟩, M3.out⟩
end Go.Proofs.Ytjajpdghamecoaa
