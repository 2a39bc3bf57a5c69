/- Merged texts: OutR, EntH2, SpAdd2. -/
import Derived.Test.YtjajpdghamecoaaGreatM12
import Derived.Test.YtjajpdghamecoaaGreatM11
import Derived.Test.YtjajpdghamecoaaGreatM6
import Derived.Test.YtjajpdghamecoaaGreatM10
/- Results of ValueAdd and its like: what they are, and that two that are alike compare true. -/
namespace Go.Proofs.YtjajpdghamecoaaGreat
open Go.RowKit
attribute [local go_sem ↓] Go.wp_at_zero Go.wp_at_succ

abbrev OutR := Int × RdnL × List AttrV
/-- a result of the program -/
def ImplOut (w : World) (r : OutR) (e : Ending) (w' : World) : Prop :=
  (∃ vo vc uo uc, e = .returned (.agg #[.slice vo r.2.1.length vc, .slice uo r.2.2.length uc, .int .i64 r.1]) ∧ w'.ownsRow w.heap.size 97 2 (.slice vo r.2.1.length vc) r.2.1.length (rs r.2.1) ∧ AttrsOwn w' w.heap.size (.slice uo r.2.2.length uc) r.2.2) ∧ Below w.heap.size w w'
/-- a result of the specification -/
def SpecOut (w : World) (r : OutR) (e : Ending) (w' : World) : Prop :=
  (∃ vo vc uo uc, e = .returned (.agg #[.slice vo r.2.1.length vc, .slice uo r.2.2.length uc, .int .i64 r.1]) ∧ w'.ownsRow w.heap.size 97 2 (.slice vo r.2.1.length vc) r.2.1.length (rs r.2.1) ∧ AttrsRow w' w.heap.size (.slice uo r.2.2.length uc) r.2.2) ∧ Below w.heap.size w w'
/-- it is no greater than an entry may be, and a little -/
def Small (r : OutR) : Prop := r.2.1.length ≤ 6 ∧ cntA r.2.2 r.2.2.length ≤ 800 ∧ FitsA r.2.2
noncomputable def addR (d : RdnL) (l : List AttrV) (nm val : ByteArray) : OutR :=
  if vcode (rightB d l) nm val ≠ 0 then (vcode (rightB d l) nm val, [], [])
  else if 0 ≤ findI (likeV val) (attrOfL d l nm) then (7, [], [])
  else if (attrOfL d l nm).length = 4 ∨ lackB d l nm = true then (9, [], [])
  else (0, d, setL l nm (sortN (attrOfL d l nm ++ [val])))
theorem small_fail (c : Int) : Small (c, [], []) := ⟨by simp, by simp [cntA], by simp [FitsA]⟩
theorem attrsOwn_nil (w : World) (B : Nat) : AttrsOwn w B (.slice none 0 0) [] := ⟨[], rfl, ⟨rfl, .inl ⟨rfl, rfl⟩⟩, fun i h => by simp at h, List.Pairwise.nil⟩
theorem implOut_fail {w w' : World} {c : Int} (hb : Below w.heap.size w w') : ImplOut w (c, [], []) (.returned (failV c)) w' :=
  ⟨⟨none, 0, none, 0, rfl, ⟨rfl, .inl ⟨rfl, rfl⟩⟩, attrsOwn_nil _ _⟩, hb⟩
theorem specOut_fail {w w' : World} {c : Int} (hb : Below w.heap.size w w') : SpecOut w (c, [], []) (.returned (failV c)) w' :=
  ⟨⟨none, 0, none, 0, rfl, ⟨rfl, .inl ⟨rfl, rfl⟩⟩, [], ⟨rfl, .inl ⟨rfl, rfl⟩⟩, rfl, fun i h => by simp at h⟩, hb⟩
theorem cntA_small (T : List AttrV) (n m : Nat) (h1 : T.length ≤ n) (h2 : ∀ a ∈ T, a.2.length ≤ m) : cntA T T.length ≤ n * (1 + m) := by
  unfold cntA
  rw [List.take_length]
  have : ∀ L : List AttrV, (∀ a ∈ L, a.2.length ≤ m) → (L.map fun a => 1 + a.2.length).sum ≤ L.length * (1 + m) := fun L hL => by
    induction L with
    | nil => simp
    | cons a L ih =>
      have h1 := hL a (by simp)
      have h2 := ih (fun b hb => hL b (List.mem_cons_of_mem _ hb))
      simp only [List.map_cons, List.sum_cons, List.length_cons, Nat.add_mul, Nat.one_mul]
      omega
  exact Nat.le_trans (this T h2) (Nat.mul_le_mul_right _ h1)
theorem right_dn {d : RdnL} {l : List AttrV} (h : rightB d l = true) : d.length ≤ 6 := by
  unfold rightB dnB at h
  simp only [Bool.and_eq_true, decide_eq_true_eq] at h
  exact h.1.1.1
theorem small_set {d : RdnL} {l : List AttrV} {nm : ByteArray} {V : List ByteArray} (hr : rightB d l = true) (hf : FitsA l) (hn : nm.size ≤ 1048576) (hV : FitsV V) (h5 : V.length ≤ 12) : Small (0, d, setL l nm V) := by
  have h8 := right_eight hr
  refine ⟨right_dn hr, ?_, setL_fits hf (by omega) hn hV⟩
  have := cntA_small (setL l nm V) 9 12 (by have := setL_len l nm V; omega) (fun a ha => by
    rcases mem_setL.1 ha with ⟨h1, _⟩ | ⟨_, rfl⟩
    · have := h8.2 a h1; omega
    · exact h5)
  exact Nat.le_trans this (by omega)
theorem sortN_fits {V : List ByteArray} (h : FitsV V) : FitsV (sortN V) := ⟨by rw [sortN_len]; exact h.1, fun s hs => h.2 s ((sortN_perm V).mem_iff.1 hs)⟩
theorem addR_small {d : RdnL} {l : List AttrV} {nm val : ByteArray} (hf : FitsA l) : Small (addR d l nm val) := by
  unfold addR
  split
  · exact small_fail _
  · rename_i hc
    obtain ⟨z1, z2, z3, _, _⟩ := vcode_zero (by simpa using hc)
    split
    · exact small_fail _
    · split
      · exact small_fail _
      · have h4 := attrOf_four (d := d) (l := l) nm
        exact small_set z1 hf (by omega) (sortN_fits (fits_snoc (attrOf_fits hf nm) (by omega) (by omega))) (by rw [sortN_len]; simp; omega)
theorem ValueAdd_out (ao bo : Option Addr) (d : RdnL) (l : List AttrV) (ca cb : Nat) (nm val : ByteArray) (w : World) (hd : DnAt w ao d) (hl : AttrsAt w bo l) (hfd : Fits d) (hfl : FitsA l) (hn : nm.size ≤ maxLen) (hv : val.size ≤ maxLen) :
    Calls Tryz.prog 9 #[.agg #[.slice ao d.length ca, .slice bo l.length cb], .string nm, .string val] w (ImplOut w (addR d l nm val)) := by
  refine (ValueAdd_any ao bo d l ca cb nm val w hd hl hfd hfl hn hv).mono ?_
  rintro e w' ⟨h, hb⟩
  unfold addR
  rcases h with ⟨h1, rfl⟩ | ⟨h1, h2, rfl⟩ | ⟨h1, h2, h3, rfl⟩ | ⟨h1, h2, h3, h4, L, hp, ha, v, u, rfl, ho, hA⟩
  · rw [if_pos h1]; exact implOut_fail hb
  · rw [if_neg (by simpa using h1), if_pos h2]; exact implOut_fail hb
  · rw [if_neg (by simpa using h1), if_neg (by omega), if_pos h3]; exact implOut_fail hb
  · rw [if_neg (by simpa using h1), if_neg (by omega), if_neg (by simp [h3, h4])]
    obtain rfl := sorted_is hp ha (add_diff (vcode_zero h1).1 h2)
    obtain ⟨vo, vc, rfl⟩ := own_slice ho
    obtain ⟨uo, uc, rfl⟩ : ∃ uo uc, u = .slice uo (setL l nm (sortN (attrOfL d l nm ++ [val]))).length uc := by obtain ⟨P, _, q, _⟩ := hA; exact own_slice q
    exact ⟨⟨vo, vc, uo, uc, rfl, ho, hA⟩, hb⟩
set_option maxRecDepth 100000 in
set_option maxHeartbeats 1000000 in
theorem eqEntryOut_same (vo uo xo yo : Option Addr) (cv cu cx cy : Nat) (c : Int) (D : RdnL) (T : List AttrV) (w : World) (h1 : DnAt w vo D) (h2 : AttrsAt w uo T) (h3 : DnAt w xo D) (h4 : AttrsAt w yo T) (hD : D.length ≤ 1048576) (hT : FitsA T) :
    Calls Tryz.prog 32 #[.agg #[.slice vo D.length cv, .slice uo T.length cu, .int .i64 c], .agg #[.slice xo D.length cx, .slice yo T.length cy, .int .i64 c]] w fun e w' => e = .returned (.bool true) ∧ Below w.heap.size w w' := by
  have H1 := Lib.hid h1; have H2 := Lib.hid h2; have H3 := Lib.hid h3; have H4 := Lib.hid h4; have HT := Lib.hid hT; clear h1 h2 h3 h4 hT
  go_enter Tryz.func32, Tryz.ntmps32
  go_wp2_with fail
  refine calls_any' (fun W => Below w.heap.size w W ∧ Three W w.heap.size 30 (.slice vo D.length cv) (.slice uo T.length cu) (.int .i64 c) ∧ Three W (w.heap.size + 1) 30 (.slice xo D.length cx) (.slice yo T.length cy) (.int .i64 c)) ⟨more (more (Below.refl _ _) _) _, (heap_alloc_old _ _ (by simp)).trans (heap_alloc_new w _), threeNext w _ 30 _ _ _⟩ ?_
  rintro W ⟨hbW, t0, t1⟩
  refine (eqEntry_any vo uo xo yo D T cv cu cx cy W (H1.out.below hbW) (H2.out.below hbW) (H3.out.below hbW) (H4.out.below hbW) hD HT.out).mono ?_
  rintro e w1 ⟨rfl, hb1⟩
  have B1 := Lib.hid (hbW.trans (hb1.mono hbW.size)); have T0 := Lib.hid (t0.below hb1); have T1 := Lib.hid (t1.below hb1)
  clear hbW t0 t1 hb1
  obtain ⟨⟨_, _, k2⟩, _⟩ := T0.out.cells
  obtain ⟨⟨_, _, q2⟩, _⟩ := T1.out.cells
  have hc : (c != c) = false := by simp
  go_wp2
  go_ret
  exact ⟨rfl, B1.out⟩
end Go.Proofs.YtjajpdghamecoaaGreat
/- HasValue: what the specification returns. -/
namespace Go.Proofs.YtjajpdghamecoaaGreat
open Go.RowKit
attribute [local go_sem ↓] Go.wp_at_zero Go.wp_at_succ

theorem likeV_eq (val v : ByteArray) : likeV val v = ((normS v).toList == (normS val).toList) := rfl
set_option maxRecDepth 100000 in
set_option maxHeartbeats 1000000 in
theorem l03In_any (vo : Option Addr) (V : List ByteArray) (vc : Nat) (val : ByteArray) (w : World) (hd : StrsAt w vo V) (hf : FitsV V) :
    Calls Tryz.prog 100 #[.slice vo V.length vc, .string (normS val)] w fun e w' => e = .returned (.int .i64 (findI (likeV val) V)) ∧ Below w.heap.size w w' := by
  have hl := hf.1
  have HD := Lib.hid hd; have HF := Lib.hid hf; clear hd hf
  go_enter Tryz.func100, Tryz.ntmps100
  go_wp2_with fail
  go_loopw [5] (fun i wr => ∃ k : Nat, k ≤ V.length ∧ i = .int .i64 k ∧ (∀ j (h : j < V.length), j < k → likeV val V[j] = false) ∧ Below w.heap.size w wr) (fun i _ => V.length - (intOf i).toNat)
  case atStart => exact ⟨0, Nat.zero_le _, rfl, fun j _ h => absurd h (Nat.not_lt_zero _), Below.refl _ _⟩
  case round =>
    obtain ⟨k, hk, rfl, hj, hbel⟩ := hrel
    have Hj := Lib.hid hj; clear hj
    by_cases hlt : k < V.length
    · obtain ⟨p, off, rfl, hp0, hd1⟩ := HD.out.at hlt
      have c1 := (hbel.cell (p := ⟨p, off + k, none⟩) hp0).trans hd1
      have hz := HF.out.max hlt
      have g1 : (0 : Int) ≤ (k : Int) := by omega
      have g2 : (k : Int) < (V.length : Int) := by omega
      have HX : Hid (likeV val V[k] = true → findI (likeV val) V = (k : Int)) := Lib.hid (fun h => findI_some hlt h Hj.out)
      have HN : Hid (likeV val V[k] = false → ∀ j (h : j < V.length), j < k + 1 → likeV val V[j] = false) := Lib.hid (fun hn j h hjk => by
        by_cases e : j = k
        · subst e; exact hn
        · exact Hj.out j h (by omega))
      have HQ := Lib.hid (likeV_eq val V[k])
      have H93 : Hid (Calls Tryz.prog 99 #[.string V[k]] wr fun e w' => e = .returned (.string (normS V[k])) ∧ Below w.heap.size w w') := Lib.hid (SpecNorm_from w V[k] wr hz hbel)
      clear hd1
      generalize V[k] = x at *
      generalize normS x = nx at *
      generalize normS val = nv at *
      cases hq : (nx.toList == nv.toList)
      · have HN' := Lib.hid (HN.out (HQ.out.trans hq))
        go_wp2_with fail
        refine H93.out.mono ?_
        rintro e w1 ⟨rfl, hb1⟩
        go_wp2
        go_roundw
        case rel => exact ⟨k + 1, by omega, by go_num, HN'.out, hb1⟩
        case measure => simp [intOf]; omega
      · have HX' := Lib.hid (HX.out (HQ.out.trans hq))
        go_wp2_with fail
        refine H93.out.mono ?_
        rintro e w1 ⟨rfl, hb1⟩
        go_wp2
        go_ret
        exact ⟨ret_int' HX'.out.symm, hb1⟩
    · have HT := Lib.hid (findI_none (p := likeV val) (l := V) (fun i hi => Hj.out i hi (by omega)))
      go_wp2
      go_ret
      exact ⟨ret_int' HT.out.symm, hbel⟩
theorem vals_proper {d : RdnL} {l : List AttrV} (h : rightB d l = true) {nm v : ByteArray} (hv : v ∈ valsOf l nm) : valB v = true := by
  cases ha : atN l nm with
  | none => rw [(atN_none ha).2] at hv; simp at hv
  | some i =>
    obtain ⟨hi, _, h2, _⟩ := atN_some ha
    rw [h2] at hv
    unfold rightB attrsB at h
    simp only [Bool.and_eq_true, List.all_eq_true] at h
    have := h.2.1.2 _ (List.getElem_mem hi)
    unfold attrB valsB at this
    simp only [Bool.and_eq_true, List.all_eq_true] at this
    exact this.2.1.2 v hv
/-- an empty normalized form is that of no value of an entry -/
theorem has_empty {d : RdnL} {l : List AttrV} {nm val : ByteArray} (h : (normS val).toList = []) : findI (likeV val) (attrOfL d l nm) = -1 := by
  refine findI_none fun i hi => ?_
  have hm := List.getElem_mem hi
  cases hr : rightB d l
  · rw [attrOf_no hr] at hi; simp at hi
  · rw [likeV_eq, h]
    have : valB (attrOfL d l nm)[i] = true := by
      refine vals_proper hr (nm := nm) ?_
      have e := attrOf_yes hr nm
      rw [← e]; exact hm
    unfold valB at this
    simp only [Bool.and_eq_true] at this
    have h2 := this.2
    cases hq : (normS (attrOfL d l nm)[i]).toList with
    | nil => rw [hq] at h2; simp at h2
    | cons a b => rfl
theorem norm_long {val : ByteArray} (h : 100 < val.size) : (normS val).toList = [] := by
  rw [Lib.toList_data]
  unfold normS normL
  have : ¬ (val.data.toList.length ≤ 100 ∧ plainB val.data.toList = true) := by rw [size_len]; omega
  rw [if_neg this]
theorem hasB_long {d : RdnL} {l : List AttrV} {nm val : ByteArray} (h : 8000 < nm.size ∨ 8000 < val.size) : hasB d l nm val = false := by
  unfold hasB
  rcases h with h | h
  · rw [attrOf_long (by omega), findI_none (fun i hi => by simp at hi)]; rfl
  · rw [has_empty (norm_long (by omega))]; rfl
theorem hasB_no {d : RdnL} {l : List AttrV} {nm val : ByteArray} (h : rightB d l = false) : hasB d l nm val = false := by
  unfold hasB
  rw [attrOf_no h, findI_none (fun i hi => by simp at hi)]; rfl
theorem hasB_empty {d : RdnL} {l : List AttrV} {nm val : ByteArray} (h : (normS val).toList = []) : hasB d l nm val = false := by
  unfold hasB; rw [has_empty h]; rfl
theorem hasB_yes {d : RdnL} {l : List AttrV} {nm val : ByteArray} (h : rightB d l = true) : hasB d l nm val = decide (0 ≤ findI (likeV val) (valsOf l nm)) := by
  unfold hasB; rw [attrOf_yes h]
set_option maxRecDepth 100000 in
set_option maxHeartbeats 1000000 in
theorem l03Has_any (ao bo : Option Addr) (d : RdnL) (l : List AttrV) (ca cb : Nat) (nm val : ByteArray) (w : World) (hl : AttrsAt w bo l) (hfl : FitsA l) (hv : val.size ≤ maxLen) (hr : rightB d l = true) :
    Calls Tryz.prog 59 #[.agg #[.slice ao d.length ca, .slice bo l.length cb], .string nm, .string val] w fun e w' => e = .returned (.bool (hasB d l nm val)) ∧ Below w.heap.size w w' := by
  have HL := Lib.hid hl; have FL := Lib.hid hfl; clear hl hfl
  have HY := Lib.hid (hasB_yes (nm := nm) (val := val) hr)
  clear hr
  go_enter Tryz.func59, Tryz.ntmps59
  go_wp2_with fail
  refine calls_any' (fun W => Below w.heap.size w W ∧ Two W w.heap.size 26 (.slice ao d.length ca) (.slice bo l.length cb)) ⟨more (Below.refl _ _) _, twoNew w 26 _ _⟩ ?_
  rintro W ⟨hbW, t0⟩
  refine (SpecNorm_from W val W hv (Below.refl _ _)).mono ?_
  rintro e w1 ⟨rfl, hb1⟩
  have B1 := Lib.hid (hbW.trans (hb1.mono hbW.size)); have T1 := Lib.hid (t0.below hb1)
  clear hbW t0 hb1
  obtain ⟨⟨c0, c1⟩, _⟩ := T1.out.cells
  by_cases he : (normS val).toList = []
  · have HE := Lib.hid (hasB_empty (d := d) (l := l) (nm := nm) he)
    have h1 : ((normS val).toList == []) = true := by rw [he]; rfl
    generalize normS val = nv at *
    go_wp2
    go_ret
    exact ⟨ret_bool HE.out.symm, B1.out⟩
  · have h1 : ((normS val).toList == []) = false := by simpa using he
    have h2 : (normS val).toList.isEmpty = false := by simpa using he
    have HI := Lib.hid (fun vo V vc W h f => l03In_any vo V vc val W h f)
    generalize normS val = nv at *
    have HEq := Lib.hid he; clear he
    go_wp2_with fail
    refine (l03Of_any ao bo d l ca cb nm w1 (HL.out.below B1.out) FL.out).mono ?_
    rintro e w2 ⟨⟨vo, vc, rfl, hv2⟩, hb2⟩
    have HV := Lib.hid hv2.1
    have FV := Lib.hid (valsOf_fits FL.out nm)
    have B2 := Lib.hid (B1.out.trans (hb2.mono B1.out.size))
    clear hv2 hb2 c0 c1
    generalize valsOf l nm = V at *
    go_wp2_with fail
    refine (HI.out vo V vc w2 HV.out FV.out).mono ?_
    rintro e w3 ⟨rfl, hb3⟩
    have B3 := Lib.hid (B2.out.trans (hb3.mono B2.out.size))
    clear hb3 HI
    generalize findI (likeV val) V = r at *
    by_cases h0 : 0 ≤ r
    · go_wp2
      go_ret
      exact ⟨ret_bool (by rw [HY.out]; first | done | simpa using h0), B3.out⟩
    · have h0' : r < 0 := by omega
      go_wp2
      go_ret
      exact ⟨ret_bool (by rw [HY.out]; first | done | simpa using h0'), B3.out⟩
set_option maxRecDepth 100000 in
set_option maxHeartbeats 1000000 in
theorem SpecHasValue_any (ao bo : Option Addr) (d : RdnL) (l : List AttrV) (ca cb : Nat) (nm val : ByteArray) (w : World) (hd : DnAt w ao d) (hl : AttrsAt w bo l) (hfd : Fits d) (hfl : FitsA l) (hn : nm.size ≤ maxLen) (hv : val.size ≤ maxLen) :
    Calls Tryz.prog 17 #[.agg #[.slice ao d.length ca, .slice bo l.length cb], .string nm, .string val] w fun e w' => e = .returned (.bool (hasB d l nm val)) ∧ Below w.heap.size w w' := by
  have HD := Lib.hid hd; have HL := Lib.hid hl; have FD := Lib.hid hfd; have FL := Lib.hid hfl; have Hv := Lib.hid hv; clear hd hl hfd hfl
  unfold maxLen at hn hv
  have B0 := Lib.hid (more (Below.refl w.heap.size w) (.cells #[.slice ao d.length ca, .slice bo l.length cb] 26))
  by_cases h1 : 8000 < nm.size
  · have HE := Lib.hid (hasB_long (d := d) (l := l) (nm := nm) (val := val) (.inl h1))
    have g : ¬ (nm.size : Int) ≤ 8000 := by omega
    go_enter Tryz.func17, Tryz.ntmps17
    go_wp2
    go_ret
    exact ⟨ret_bool HE.out.symm, B0.out⟩
  · have g : (nm.size : Int) ≤ 8000 := by omega
    by_cases h2 : 8000 < val.size
    · have HE := Lib.hid (hasB_long (d := d) (l := l) (nm := nm) (val := val) (.inr h2))
      have g' : ¬ (val.size : Int) ≤ 8000 := by omega
      go_enter Tryz.func17, Tryz.ntmps17
      go_wp2
      go_ret
      exact ⟨ret_bool HE.out.symm, B0.out⟩
    · have g' : (val.size : Int) ≤ 8000 := by omega
      go_enter Tryz.func17, Tryz.ntmps17
      go_wp2_with fail
      refine calls_any' (fun W => Below w.heap.size w W ∧ Two W w.heap.size 26 (.slice ao d.length ca) (.slice bo l.length cb)) ⟨B0.out, twoNew w 26 _ _⟩ ?_
      rintro W ⟨hbW, t0⟩
      refine (SpecEntryRight_any ao bo d l ca cb W (HD.out.below hbW) (HL.out.below hbW) FD.out FL.out).mono ?_
      rintro e w1 ⟨rfl, hb1⟩
      have B1 := Lib.hid (hbW.trans (hb1.mono hbW.size)); have T1 := Lib.hid (t0.below hb1)
      clear hbW t0 hb1
      obtain ⟨⟨c0, c1⟩, _⟩ := T1.out.cells
      cases hr : rightB d l
      · have HE := Lib.hid (hasB_no (nm := nm) (val := val) hr)
        go_wp2
        go_ret
        exact ⟨ret_bool HE.out.symm, B1.out⟩
      · have HR := Lib.hid hr; clear hr
        go_wp2_with fail
        refine (l03Has_any ao bo d l ca cb nm val w1 (HL.out.below B1.out) FL.out Hv.out HR.out).mono ?_
        rintro e w2 ⟨rfl, hb2⟩
        generalize hq : hasB d l nm val = r at *
        have HQ := Lib.hid hq; clear hq
        go_wp2
        go_ret
        exact ⟨ret_bool HQ.out.symm, B1.out.trans (hb2.mono B1.out.size)⟩
theorem SpecHas_ent (v : Value) (d : RdnL) (l : List AttrV) (nm val : ByteArray) (w : World) (h : EntAt w v d l) (hfd : Fits d) (hfl : FitsA l) (hn : nm.size ≤ maxLen) (hv : val.size ≤ maxLen) :
    Calls Tryz.prog 17 #[v, .string nm, .string val] w fun e w' => e = .returned (.bool (hasB d l nm val)) ∧ Below w.heap.size w w' := by
  obtain ⟨ao, ca, bo, cb, rfl, h2, h3, _, _⟩ := h
  exact SpecHasValue_any ao bo d l ca cb nm val w h2 h3 hfd hfl hn hv
end Go.Proofs.YtjajpdghamecoaaGreat
/- l03Add, ValueAdd: what the specification's text returns. -/
namespace Go.Proofs.YtjajpdghamecoaaGreat
open Go.RowKit
attribute [local go_sem ↓] Go.wp_at_zero Go.wp_at_succ

theorem strs_one (w : World) (s : ByteArray) : StrsAt (w.alloc (.cells #[.string s] 9)) (some ⟨w.heap.size, 0, none⟩) [s] :=
  .inr ⟨w.heap.size, 0, rfl, by simp, fun i hi => by
    simp at hi; subst hi
    rw [cell_of_row _ w.heap.size _ #[.string s] 9 (0, 0) (heap_alloc_new w _)]; rfl⟩
theorem strs_grown {w w' : World} {b off r : Nat} {V : List ByteArray} (h : StrsAt w (some ⟨b, off, none⟩) V) (hg : w.grownBy w' (some r)) (hne : b ≠ r) : StrsAt w' (some ⟨b, off, none⟩) V := by
  rcases h with h | ⟨b', off', e, h2, h3⟩
  · exact .inl h
  · cases e
    exact .inr ⟨b, off, rfl, Nat.lt_of_lt_of_le h2 hg.size, fun i hi => (World.cell?_of_block (w := w) (a := ⟨b, off + i, none⟩) (hg.block b h2 (by intro e; injection e with e; exact hne e))).trans (h3 i hi)⟩
theorem below_three' {w w3 W : World} (h : Below w3.heap.size w3 W) (hw : w.heap.size + 1 ≤ w3.heap.size) (a b c : Value) : Below (w.heap.size + 1) w3 (((W.setCell ⟨w.heap.size + 1, 0, none⟩ a).setCell ⟨w.heap.size + 1, 1, none⟩ b).setCell ⟨w.heap.size + 1, 2, none⟩ c) :=
  (((h.mono hw).setCell (p := ⟨w.heap.size + 1, 0, none⟩) (Nat.le_refl _) _).setCell (p := ⟨w.heap.size + 1, 1, none⟩) (Nat.le_refl _) _).setCell (p := ⟨w.heap.size + 1, 2, none⟩) (Nat.le_refl _) _
theorem fin_out {w w3 w8 : World} {d : RdnL} {T : List AttrV} {po qo : Option Addr} {pc qc : Nat} (h3 : Below w.heap.size w w3) (h8 : Below w3.heap.size w3 w8) (hw : w.heap.size + 1 < w3.heap.size) (h1 : w8.ownsRow w3.heap.size 97 2 (.slice po d.length pc) d.length (rs d)) (h2 : AttrsRow w8 w3.heap.size (.slice qo T.length qc) T) (a b c : Value) :
    SpecOut w (0, d, T) (.returned (.agg #[.slice po d.length pc, .slice qo T.length qc, .int .i64 0])) (((w8.setCell ⟨w.heap.size + 1, 0, none⟩ a).setCell ⟨w.heap.size + 1, 1, none⟩ b).setCell ⟨w.heap.size + 1, 2, none⟩ c) :=
  ⟨⟨po, pc, qo, qc, rfl, own_mono (own_cellOut (own_cellOut (own_cellOut h1 hw) hw) hw) h3.size, (((h2.cellOut hw).cellOut hw).cellOut hw).mono h3.size⟩, h3.trans ((below_three' h8 (Nat.le_of_lt hw) a b c).mono (Nat.le_succ _))⟩
set_option maxRecDepth 100000 in
set_option maxHeartbeats 1000000 in
theorem l03Add_any (ao bo : Option Addr) (d : RdnL) (l : List AttrV) (ca cb : Nat) (nm val : ByteArray) (w : World) (hd : DnAt w ao d) (hl : AttrsAt w bo l) (hfd : Fits d) (hfl : FitsA l) (hn : nm.size ≤ 8000) (hv : val.size ≤ 8000) (hc : vcode (rightB d l) nm val = 0) :
    Calls Tryz.prog 57 #[.agg #[.slice ao d.length ca, .slice bo l.length cb], .string nm, .string val] w (SpecOut w (addR d l nm val)) := by
  obtain ⟨z1, _, _, _, _⟩ := vcode_zero hc
  have h8 := right_eight z1
  have hin := right_inc z1
  have hdp : 0 < d.length := by unfold rightB at z1; simp only [Bool.and_eq_true, decide_eq_true_eq] at z1; exact z1.1.2
  have hac : ao = none → ca = 0 := fun e => by
    subst e
    rcases hd with h | ⟨b, off, e, _⟩
    · rw [h] at hdp; simp at hdp
    · cases e
  have HA : Hid (attrOfL d l nm = valsOf l nm) := Lib.hid (attrOf_yes z1 nm)
  have h4 : (valsOf l nm).length ≤ 4 := by rw [← HA.out]; exact attrOf_four nm
  have HO7 : Hid (0 ≤ findI (likeV val) (valsOf l nm) → addR d l nm val = (7, [], [])) := Lib.hid (fun h => by unfold addR; rw [if_neg (by simpa using hc), if_pos (by rw [HA.out]; exact h)])
  have HO9 : Hid (¬ 0 ≤ findI (likeV val) (valsOf l nm) → ((valsOf l nm).length = 4 ∨ (l.length = 8 ∧ (valsOf l nm).length = 0)) → addR d l nm val = (9, [], [])) := Lib.hid (fun h h' => by
    unfold addR; rw [if_neg (by simpa using hc), if_neg (by rw [HA.out]; exact h), if_pos ?_]
    rw [HA.out]
    rcases h' with h' | h'
    · exact .inl h'
    · right; unfold lackB; rw [HA.out]; simp [h'.1, h'.2])
  have HO0 : Hid (¬ 0 ≤ findI (likeV val) (valsOf l nm) → ¬ ((valsOf l nm).length = 4 ∨ (l.length = 8 ∧ (valsOf l nm).length = 0)) → addR d l nm val = (0, d, setL l nm (sortN (valsOf l nm ++ [val])))) := Lib.hid (fun h h' => by
    unfold addR; rw [if_neg (by simpa using hc), if_neg (by rw [HA.out]; exact h), if_neg ?_, HA.out]
    rw [HA.out]
    rintro (h'' | h'')
    · exact h' (.inl h'')
    · unfold lackB at h''; rw [HA.out] at h''; simp only [Bool.and_eq_true, decide_eq_true_eq] at h''; exact h' (.inr h''))
  have HV1 := Lib.hid (valsOf_fits hfl nm)
  have HD := Lib.hid hd; have HL := Lib.hid hl; have FD := Lib.hid hfd; have FL := Lib.hid hfl; have HI := Lib.hid hin; clear hd hl hfd hfl hc z1 hin HA
  go_enter Tryz.func57, Tryz.ntmps57
  go_wp2_with fail
  refine calls_any' (fun W => Below w.heap.size w W ∧ Two W w.heap.size 26 (.slice ao d.length ca) (.slice bo l.length cb) ∧ Three W (w.heap.size + 1) 30 (.slice none 0 0) (.slice none 0 0) (.int .i64 0)) ⟨more (more (Below.refl _ _) _) _, (twoNew w 26 _ _).alloc _, threeNext w _ 30 _ _ _⟩ ?_
  rintro W ⟨hbW, t0, t1⟩
  refine (l03Of_any ao bo d l ca cb nm W (HL.out.below hbW) FL.out).mono ?_
  rintro e w1 ⟨⟨lo, lc, rfl, hva⟩, hb1⟩
  have B1 := Lib.hid (hbW.trans (hb1.mono hbW.size)); have T1 := Lib.hid (t0.below hb1); have U1 := Lib.hid (t1.below hb1); have VA := Lib.hid hva
  clear hbW t0 t1 hb1 hva
  generalize valsOf l nm = L at *
  go_wp2_with fail
  refine (SpecNorm_any val w1 (by unfold maxLen; omega)).mono ?_
  rintro e w2 ⟨rfl, hb2⟩
  have B2 := Lib.hid (B1.out.trans (hb2.mono B1.out.size)); have T2 := Lib.hid (T1.out.below hb2); have U2 := Lib.hid (U1.out.below hb2); have VA2 := Lib.hid (VA.out.below hb2)
  clear hb2 B1 T1 U1 VA
  go_wp2_with fail
  refine (l03In_any lo L lc val w2 VA2.out.1 HV1.out).mono ?_
  rintro e w3 ⟨rfl, hb3⟩
  have B3 := Lib.hid (B2.out.trans (hb3.mono B2.out.size)); have T3 := Lib.hid (T2.out.below hb3); have U3 := Lib.hid (U2.out.below hb3); have VA3 := Lib.hid (VA2.out.below hb3)
  clear hb3 B2 T2 U2 VA2
  have hw1 : w.heap.size + 1 < w3.heap.size := U3.out.lt
  by_cases hi : 0 ≤ findI (likeV val) L
  · have HO := Lib.hid (HO7.out hi)
    clear HO7 HO9 HO0
    generalize findI (likeV val) L = q at *
    go_wp2_with fail
    refine (l03Ill_any 7 w3).mono ?_
    rintro e w4 ⟨rfl, hb4⟩
    have U4 := Lib.hid (U3.out.below hb4); have B4 := Lib.hid (B3.out.trans (hb4.mono B3.out.size))
    clear hb4
    obtain ⟨⟨k0, k1, k2⟩, f0, f1, f2⟩ := U4.out.cells
    obtain ⟨⟨q0, q1, q2⟩, _⟩ := (((U4.out.set0 (.slice none 0 0)).set1 (.slice none 0 0)).set2 (.int .i64 7)).cells
    unfold failV
    go_wp2_with fail
    refine bodyPost_ret (v := failV 7) (by simp [results, Tryz.results57, go_sem, q0, q1, q2, failV]) rfl ?_
    rw [HO.out]
    exact specOut_fail (below_three B4.out _ _ _)
  · have HO9' := Lib.hid (HO9.out (by omega)); have HO0' := Lib.hid (HO0.out (by omega))
    clear HO7 HO9 HO0
    generalize findI (likeV val) L = q at *
    obtain ⟨⟨p0, p1⟩, _⟩ := T3.out.cells
    by_cases hf : L.length = 4 ∨ (l.length = 8 ∧ L.length = 0)
    · have HO := Lib.hid (HO9'.out hf)
      clear HO9' HO0'
      rcases hf with hf | ⟨hf, hf'⟩
      · have HF := Lib.hid hf
        rw [hf]
        clear hf
        go_wp2_with fail
        refine (l03Ill_any 9 w3).mono ?_
        rintro e w4 ⟨rfl, hb4⟩
        have U4 := Lib.hid (U3.out.below hb4); have B4 := Lib.hid (B3.out.trans (hb4.mono B3.out.size))
        clear hb4
        obtain ⟨⟨k0, k1, k2⟩, f0, f1, f2⟩ := U4.out.cells
        obtain ⟨⟨q0, q1, q2⟩, _⟩ := (((U4.out.set0 (.slice none 0 0)).set1 (.slice none 0 0)).set2 (.int .i64 9)).cells
        unfold failV
        go_wp2_with fail
        refine bodyPost_ret (v := failV 9) (by simp [results, Tryz.results57, go_sem, q0, q1, q2, failV]) rfl ?_
        rw [HO.out]
        exact specOut_fail (below_three B4.out _ _ _)
      · have HF := Lib.hid hf'
        rw [hf'] at *
        rw [hf] at p1 ⊢
        go_wp2_with fail
        refine (l03Ill_any 9 w3).mono ?_
        rintro e w4 ⟨rfl, hb4⟩
        have U4 := Lib.hid (U3.out.below hb4); have B4 := Lib.hid (B3.out.trans (hb4.mono B3.out.size))
        clear hb4
        obtain ⟨⟨k0, k1, k2⟩, f0, f1, f2⟩ := U4.out.cells
        obtain ⟨⟨q0, q1, q2⟩, _⟩ := (((U4.out.set0 (.slice none 0 0)).set1 (.slice none 0 0)).set2 (.int .i64 9)).cells
        unfold failV
        go_wp2_with fail
        refine bodyPost_ret (v := failV 9) (by simp [results, Tryz.results57, go_sem, q0, q1, q2, failV]) rfl ?_
        rw [HO.out]
        exact specOut_fail (below_three B4.out _ _ _)
    · have HOut := Lib.hid (HO0'.out hf)
      clear HO9' HO0'
      have hl4 : ¬ 4 ≤ (L.length : Int) := by omega
      have hl0 : ((L.length : Int) == 0) = decide (L.length = 0) := by rw [Bool.eq_iff_iff]; simp
      have hl8 : L.length = 0 → ¬ 8 ≤ (l.length : Int) := fun h => by have := h8.1; omega
      have hlc := VA3.out.2.2
      have hlenL : ([] : List ByteArray).length + L.length ≤ 1000000000 := by simp; omega
      have hlen1 : L.length + [val].length ≤ 1000000000 := by simp; omega
      have FV' := Lib.hid (fits_snoc HV1.out (by omega) (s := val) (by omega))
      have HLs : (L ++ [val]).length = L.length + 1 := by simp
      have hL5 : (L ++ [val]).length ≤ 400 := by omega
      have HSet0 : Hid (∀ (X : World) (yo : Option Addr) (yc : Nat), Below w3.heap.size w3 X → StrsAt X yo (L ++ [val]) → Calls Tryz.prog 101 #[.agg #[.slice ao d.length ca, .slice bo l.length cb], .string nm, .slice yo (L.length + 1) yc] X fun e w' => (∃ po pc qo qc, e = .returned (.agg #[.slice po d.length pc, .slice qo (setL l nm (sortN (L ++ [val]))).length qc]) ∧ w'.ownsRow w3.heap.size 97 2 (.slice po d.length pc) d.length (rs d) ∧ AttrsRow w' w3.heap.size (.slice qo (setL l nm (sortN (L ++ [val]))).length qc) (setL l nm (sortN (L ++ [val])))) ∧ Below w3.heap.size w3 w') :=
        Lib.hid (fun X yo yc hX hy => by
          have := l03Set_any ao bo yo d l (L ++ [val]) ca cb yc nm X (HD.out.below (B3.out.trans (hX.mono B3.out.size))) (HL.out.below (B3.out.trans (hX.mono B3.out.size))) hy FD.out FL.out FV'.out (by omega) hL5 hac HI.out
          rw [HLs] at this
          exact this.mono fun e w' ⟨⟨po, pc, qo, qc, e1, e2, e3⟩, e4⟩ => ⟨⟨po, pc, qo, qc, e1, own_mono e2 hX.size, e3.mono hX.size⟩, hX.trans (e4.mono hX.size)⟩)
      have HSet := Lib.hid HSet0.out
      clear HSet0 hL5
      generalize setL l nm (sortN (L ++ [val])) = T at *
      have SK : Hid (∀ Z : World, Below (w.heap.size + 1) w3 Z → (Z.cell? ⟨w.heap.size, 0, none⟩ = some (.slice ao d.length ca) ∧ Z.cell? ⟨w.heap.size, 1, none⟩ = some (.slice bo l.length cb))) :=
        Lib.hid (fun Z h => ⟨(h.cell (p := ⟨w.heap.size, 0, none⟩) (Nat.lt_succ_self _)).trans T3.out.cells.1.1, (h.cell (p := ⟨w.heap.size, 1, none⟩) (Nat.lt_succ_self _)).trans T3.out.cells.1.2⟩)
      have hw1' : w.heap.size + 1 ≤ w3.heap.size := Nat.le_of_lt hw1
      have hbd0 : Below w3.heap.size w3 w3.drew := (Below.refl _ _).drew
      have hbz1 : Below w3.heap.size w3 (w3.drew.alloc (.cells #[] 9)) := more hbd0 _
      have hbz2 : Below w3.heap.size w3 (w3.drew.alloc (.cells #[.string val] 9)) := more hbd0 _
      have hbz12 : Below w3.heap.size w3 ((w3.drew.alloc (.cells #[] 9)).alloc (.cells #[.string val] 9)) := more hbz1 _
      have hbz21 : Below w3.heap.size w3 ((w3.drew.alloc (.cells #[.string val] 9)).alloc (.cells #[] 9)) := more hbz2 _
      have OZ1 : Hid ((w3.drew.alloc (.cells #[] 9)).ownsRow w3.heap.size 9 1 (.slice (some ⟨w3.heap.size, 0, none⟩) 0 0) ([] : List ByteArray).length (ss [])) := Lib.hid (own_zero w3.drew rfl (Nat.le_refl _))
      have OZ12 : Hid (((w3.drew.alloc (.cells #[] 9)).alloc (.cells #[.string val] 9)).ownsRow w3.heap.size 9 1 (.slice (some ⟨w3.heap.size, 0, none⟩) 0 0) ([] : List ByteArray).length (ss [])) := Lib.hid (OZ1.out.alloc _)
      have OZ21 : Hid (((w3.drew.alloc (.cells #[.string val] 9)).alloc (.cells #[] 9)).ownsRow w3.heap.size 9 1 (.slice (some ⟨w3.heap.size + 1, 0, none⟩) 0 0) ([] : List ByteArray).length (ss [])) := Lib.hid (own_zero (w3.drew.alloc (.cells #[.string val] 9)) (by simp) (Nat.le_succ _))
      have HVa : Hid (StrsAt (w3.drew.alloc (.cells #[] 9)) lo L) := Lib.hid (VA3.out.1.below hbz1)
      have HVb : Hid (StrsAt ((w3.drew.alloc (.cells #[] 9)).alloc (.cells #[.string val] 9)) lo L) := Lib.hid (VA3.out.1.below hbz12)
      have HVc : Hid (StrsAt ((w3.drew.alloc (.cells #[.string val] 9)).alloc (.cells #[] 9)) lo L) := Lib.hid (VA3.out.1.below hbz21)
      have HX12 : Hid (StrsAt ((w3.drew.alloc (.cells #[] 9)).alloc (.cells #[.string val] 9)) (some ⟨w3.heap.size + 1, 0, none⟩) [val]) := Lib.hid (by have := strs_one (w3.drew.alloc (.cells #[] 9)) val; simpa using this)
      have HX21 : Hid (StrsAt ((w3.drew.alloc (.cells #[.string val] 9)).alloc (.cells #[] 9)) (some ⟨w3.heap.size, 0, none⟩) [val]) := Lib.hid ((strs_one w3.drew val).below (more (Below.refl _ _) _))
      have hs1 : w3.heap.size ≤ (w3.drew.alloc (.cells #[] 9)).heap.size := hbz1.size
      have hs12 : w3.heap.size ≤ ((w3.drew.alloc (.cells #[] 9)).alloc (.cells #[.string val] 9)).heap.size := hbz12.size
      have hs21 : w3.heap.size ≤ ((w3.drew.alloc (.cells #[.string val] 9)).alloc (.cells #[] 9)).heap.size := hbz21.size
      clear p0 p1
      by_cases hL0 : L.length = 0
      · have hl8' := hl8 hL0
        have HL0 := Lib.hid hL0
        have hl0' : ((L.length : Int) == 0) = true := by rw [hl0]; simpa using hL0
        obtain ⟨⟨p0, p1⟩, _⟩ := T3.out.cells
        clear hl0 hl8 hL0 hf
        go_wp2_with fail
        clear p0 p1
        refine wp_region_held_drew (S := (fun Z => Z.cell? ⟨w.heap.size, 0, none⟩ = some (.slice ao d.length ca) ∧ Z.cell? ⟨w.heap.size, 1, none⟩ = some (.slice bo l.length cb))) (by kernel_rfl) ?_ (fun hHeld => ?_)
        · (try dsimp only)
          first | exact SK.out _ (Below.mono (by assumption) hw1') | exact SK.out _ (hbz1.mono hw1') | exact SK.out _ (hbz2.mono hw1') | exact SK.out _ (hbz12.mono hw1') | exact SK.out _ (hbz21.mono hw1') | exact SK.out _ (below_three' hb8 hw1' _ _ _)
        refine wpAnyH_take (i := 0) (oi := { dst := some 34, op := Op.load 26 (Operand.tmp 3), type := 26, pos := "l03_entry.go:148", after := #[], guard := none }) (v := ?_) rfl (by kernel_rfl) (by kernel_rfl) (by kernel_rfl) (fun _ _ _ h => h) (Or.inl ⟨by rfl, ?_⟩) (by assumption) ?_
        rotate_left
        · intro w hSw; (try dsimp only at hSw); go_simp; (try with_reducible rfl)
        (try simp only [Act.put, List.setIfInBounds_toArray, List.set_cons_zero, List.set_cons_succ])
        refine wpAnyH_take (i := 1) (oi := { dst := some 35, op := Op.move (Operand.tmp 1), type := 9, pos := "l03_entry.go:148", after := #[], guard := none }) (v := ?_) rfl (by kernel_rfl) (by kernel_rfl) (by kernel_rfl) (fun _ _ _ h => h) (Or.inl ⟨by rfl, ?_⟩) (by assumption) ?_
        rotate_left
        · intro w hSw; (try dsimp only at hSw); go_simp; (try with_reducible rfl)
        (try simp only [Act.put, List.setIfInBounds_toArray, List.set_cons_zero, List.set_cons_succ])
        refine wpAnyH_take (i := 3) (oi := { dst := some 37, op := Op.move (Operand.tmp 7), type := 36, pos := "l03_entry.go:148", after := #[], guard := none }) (v := ?_) rfl (by kernel_rfl) (by kernel_rfl) (by kernel_rfl) (fun _ _ _ h => h) (Or.inl ⟨by rfl, ?_⟩) (by assumption) ?_
        rotate_left
        · intro w hSw; (try dsimp only at hSw); go_simp; (try with_reducible rfl)
        (try simp only [Act.put, List.setIfInBounds_toArray, List.set_cons_zero, List.set_cons_succ])
        refine wpAnyH_take (i := 5) (oi := { dst := some 39, op := Op.move (Operand.tmp 2), type := 9, pos := "l03_entry.go:148", after := #[], guard := none }) (v := ?_) rfl (by kernel_rfl) (by kernel_rfl) (by kernel_rfl) (fun _ _ _ h => h) (Or.inl ⟨by rfl, ?_⟩) (by assumption) ?_
        rotate_left
        · intro w hSw; (try dsimp only at hSw); go_simp; (try with_reducible rfl)
        (try simp only [Act.put, List.setIfInBounds_toArray, List.set_cons_zero, List.set_cons_succ])
        refine wpAnyH_ready (rs := [2, 6]) (by kernel_rfl) (by simp) ?_
        refine AllReadyH.cons (o := { dst := some 36, op := Op.buildSlice 36 0 #[], type := 36, pos := "l03_entry.go:148", after := #[], guard := none }) rfl (fun K hK => ?_) (AllReadyH.cons (o := { dst := some 40, op := Op.buildSlice 36 1 #[(0, Operand.tmp 39)], type := 36, pos := "l03_entry.go:148", after := #[{ on := 5, ground := Ground.data }], guard := none }) rfl (fun K hK => ?_) (AllReadyH.nil))
        · go_simp
          clear hHeld
          refine hK.out _ _ ?_ (fun hHeld => ?_)
          · (try dsimp only)
            first | exact SK.out _ (Below.mono (by assumption) hw1') | exact SK.out _ (hbz1.mono hw1') | exact SK.out _ (hbz2.mono hw1') | exact SK.out _ (hbz12.mono hw1') | exact SK.out _ (hbz21.mono hw1') | exact SK.out _ (below_three' hb8 hw1' _ _ _)
          clear hK K
          (try simp only [Act.put, List.setIfInBounds_toArray, List.set_cons_zero, List.set_cons_succ])
          refine wpAnyH_ready (rs := [4, 6]) (by kernel_rfl) (by simp) ?_
          refine AllReadyH.cons (o := { dst := some 38, op := Op.call { callee := Callee.builtin Builtin.append, args := #[Operand.tmp 36, Operand.tmp 37], argTypes := #[36, 36] }, type := 36, pos := "l03_entry.go:148", after := #[{ on := 2, ground := Ground.data }, { on := 3, ground := Ground.data }], guard := none }) rfl (fun K hK => ?_) (AllReadyH.cons (o := { dst := some 40, op := Op.buildSlice 36 1 #[(0, Operand.tmp 39)], type := 36, pos := "l03_entry.go:148", after := #[{ on := 5, ground := Ground.data }], guard := none }) rfl (fun K hK => ?_) (AllReadyH.nil))
          · refine step_strs w3.heap.size rfl _ _ rfl (.slice (some ⟨w3.heap.size, 0, none⟩) 0 0) [] rfl OZ1.out lo L lc _ rfl rfl HVa.out hlc hlenL hs1 hbz1 ?_
            intro v4 w4 hown4 hbel4 hgr4
            obtain ⟨xo, xc, rfl⟩ := own_slice hown4
            simp only [List.nil_append] at hown4 ⊢
            have hz4 : Below w3.heap.size w3 (w4.alloc (.cells #[.string val] 9)) := more hbel4 _
            clear hHeld
            refine hK.out _ _ ?_ (fun hHeld => ?_)
            · (try dsimp only)
              first | exact SK.out _ (Below.mono (by assumption) hw1') | exact SK.out _ (hbz1.mono hw1') | exact SK.out _ (hbz2.mono hw1') | exact SK.out _ (hbz12.mono hw1') | exact SK.out _ (hbz21.mono hw1') | exact SK.out _ (below_three' hb8 hw1' _ _ _)
            clear hK K
            (try simp only [Act.put, List.setIfInBounds_toArray, List.set_cons_zero, List.set_cons_succ])
            refine wpAnyH_ready (rs := [6]) (by kernel_rfl) (by simp) ?_
            refine AllReadyH.cons (o := { dst := some 40, op := Op.buildSlice 36 1 #[(0, Operand.tmp 39)], type := 36, pos := "l03_entry.go:148", after := #[{ on := 5, ground := Ground.data }], guard := none }) rfl (fun K hK => ?_) (AllReadyH.nil)
            go_simp
            clear hHeld
            refine hK.out _ _ ?_ (fun hHeld => ?_)
            · (try dsimp only)
              first | exact SK.out _ (Below.mono (by assumption) hw1') | exact SK.out _ (hbz1.mono hw1') | exact SK.out _ (hbz2.mono hw1') | exact SK.out _ (hbz12.mono hw1') | exact SK.out _ (hbz21.mono hw1') | exact SK.out _ (below_three' hb8 hw1' _ _ _)
            clear hK K
            (try simp only [Act.put, List.setIfInBounds_toArray, List.set_cons_zero, List.set_cons_succ])
            refine wpAnyH_ready (rs := [7]) (by kernel_rfl) (by simp) ?_
            refine AllReadyH.cons (o := { dst := some 41, op := Op.call { callee := Callee.builtin Builtin.append, args := #[Operand.tmp 38, Operand.tmp 40], argTypes := #[36, 36] }, type := 36, pos := "l03_entry.go:148", after := #[{ on := 4, ground := Ground.data }, { on := 6, ground := Ground.data }, { on := 4, ground := Ground.chain }], guard := none }) rfl (fun K hK => ?_) (AllReadyH.nil)
            refine step_strs w3.heap.size rfl _ _ rfl (.slice xo L.length xc) L rfl (hown4.alloc _) (some ⟨w4.heap.size, 0, none⟩) [val] 1 _ rfl rfl (strs_one w4 val) (fun e => by cases e) hlen1 (Nat.le_trans hbel4.size (by simp)) hz4 ?_
            intro v7 w7 hown7 hbel7 hgr7
            obtain ⟨yo, yc, rfl⟩ := own_slice hown7
            have ST7 := Lib.hid (own_strs hown7)
            clear hown7
            rw [HLs]
            clear hHeld
            refine hK.out _ _ ?_ (fun hHeld => ?_)
            · (try dsimp only)
              first | exact SK.out _ (Below.mono (by assumption) hw1') | exact SK.out _ (hbz1.mono hw1') | exact SK.out _ (hbz2.mono hw1') | exact SK.out _ (hbz12.mono hw1') | exact SK.out _ (hbz21.mono hw1') | exact SK.out _ (below_three' hb8 hw1' _ _ _)
            clear hK K
            (try simp only [Act.put, List.setIfInBounds_toArray, List.set_cons_zero, List.set_cons_succ])
            refine wpAnyH_ready (rs := [8]) (by kernel_rfl) (by simp) ?_
            refine AllReadyH.cons (o := { dst := some 42, op := Op.call { callee := Callee.value (Operand.func 101), args := #[Operand.tmp 34, Operand.tmp 35, Operand.tmp 41], argTypes := #[26, 9, 36] }, type := 26, pos := "l03_entry.go:148", after := #[{ on := 0, ground := Ground.data }, { on := 1, ground := Ground.data }, { on := 7, ground := Ground.data }, { on := 7, ground := Ground.chain }], guard := none }) rfl (fun K hK => ?_) (AllReadyH.nil)
            go_simp
            refine (HSet.out w7 yo yc hbel7 ST7.out).mono ?_
            rintro e w8 ⟨⟨po, pc, qo, qc, rfl, e1, e2⟩, hb8⟩
            have E1 := Lib.hid e1; have E2 := Lib.hid e2; clear e1 e2
            have U8 := Lib.hid (U3.out.below hb8)
            obtain ⟨⟨k0, k1, k2⟩, f0, f1, f2⟩ := U8.out.cells
            clear hHeld
            refine hK.out _ _ ?_ (fun hHeld => ?_)
            · (try dsimp only)
              first | exact SK.out _ (Below.mono (by assumption) hw1') | exact SK.out _ (hbz1.mono hw1') | exact SK.out _ (hbz2.mono hw1') | exact SK.out _ (hbz12.mono hw1') | exact SK.out _ (hbz21.mono hw1') | exact SK.out _ (below_three' hb8 hw1' _ _ _)
            clear hK K
            (try simp only [Act.put, List.setIfInBounds_toArray, List.set_cons_zero, List.set_cons_succ])
            refine wpAnyH_take (i := 9) (oi := { dst := some 43, op := Op.build 30 #[(0, Operand.tmp 42)], type := 30, pos := "l03_entry.go:148", after := #[{ on := 8, ground := Ground.data }], guard := none }) (v := ?_) rfl (by kernel_rfl) (by kernel_rfl) (by kernel_rfl) (fun _ _ _ h => h) (Or.inl ⟨by rfl, ?_⟩) (by assumption) ?_
            rotate_left
            · intro w hSw; (try dsimp only at hSw); go_simp; (try with_reducible rfl)
            (try simp only [Act.put, List.setIfInBounds_toArray, List.set_cons_zero, List.set_cons_succ])
            refine wpAnyH_ready (rs := [10]) (by kernel_rfl) (by simp) ?_
            refine AllReadyH.cons (o := { dst := none, op := Op.store 30 (Operand.tmp 6) (Operand.tmp 43), type := 0, pos := "l03_entry.go:148", after := #[{ on := 9, ground := Ground.data }, { on := 8, ground := Ground.chain }, { on := 0, ground := Ground.phase }, { on := 1, ground := Ground.phase }, { on := 2, ground := Ground.phase }, { on := 3, ground := Ground.phase }, { on := 4, ground := Ground.phase }, { on := 5, ground := Ground.phase }, { on := 6, ground := Ground.phase }, { on := 7, ground := Ground.phase }, { on := 8, ground := Ground.phase }, { on := 9, ground := Ground.phase }], guard := none }) rfl (fun K hK => ?_) (AllReadyH.nil)
            go_simp
            clear hHeld
            refine hK.out _ _ ?_ (fun hHeld => ?_)
            · (try dsimp only)
              first | exact SK.out _ (Below.mono (by assumption) hw1') | exact SK.out _ (hbz1.mono hw1') | exact SK.out _ (hbz2.mono hw1') | exact SK.out _ (hbz12.mono hw1') | exact SK.out _ (hbz21.mono hw1') | exact SK.out _ (below_three' hb8 hw1' _ _ _)
            clear hK K
            (try simp only [Act.put, List.setIfInBounds_toArray, List.set_cons_zero, List.set_cons_succ])
            refine wpAnyH_done (by kernel_rfl) ?_ _
            clear hHeld
            obtain ⟨⟨q0, q1, q2⟩, _⟩ := (((U8.out.set0 (.slice po d.length pc)).set1 (.slice qo T.length qc)).set2 (.int .i64 0)).cells
            clear k0 k1 k2 f0 f1 f2
            go_wp2_with fail
            refine bodyPost_ret (v := .agg #[.slice po d.length pc, .slice qo T.length qc, .int .i64 0]) (by simp [results, Tryz.results57, go_sem, q0, q1, q2]) rfl ?_
            rw [HOut.out]
            exact fin_out B3.out hb8 hw1 E1.out E2.out _ _ _
          · go_simp
            clear hHeld
            refine hK.out _ _ ?_ (fun hHeld => ?_)
            · (try dsimp only)
              first | exact SK.out _ (Below.mono (by assumption) hw1') | exact SK.out _ (hbz1.mono hw1') | exact SK.out _ (hbz2.mono hw1') | exact SK.out _ (hbz12.mono hw1') | exact SK.out _ (hbz21.mono hw1') | exact SK.out _ (below_three' hb8 hw1' _ _ _)
            clear hK K
            (try simp only [Act.put, List.setIfInBounds_toArray, List.set_cons_zero, List.set_cons_succ])
            refine wpAnyH_ready (rs := [4]) (by kernel_rfl) (by simp) ?_
            refine AllReadyH.cons (o := { dst := some 38, op := Op.call { callee := Callee.builtin Builtin.append, args := #[Operand.tmp 36, Operand.tmp 37], argTypes := #[36, 36] }, type := 36, pos := "l03_entry.go:148", after := #[{ on := 2, ground := Ground.data }, { on := 3, ground := Ground.data }], guard := none }) rfl (fun K hK => ?_) (AllReadyH.nil)
            refine step_strs w3.heap.size rfl _ _ rfl (.slice (some ⟨w3.heap.size, 0, none⟩) 0 0) [] rfl OZ12.out lo L lc _ rfl rfl HVb.out hlc hlenL hs12 hbz12 ?_
            intro v4 w4 hown4 hbel4 hgr4
            obtain ⟨xo, xc, rfl⟩ := own_slice hown4
            simp only [List.nil_append] at hown4 ⊢
            have SV := strs_grown HX12.out hgr4 (Nat.succ_ne_self _)
            clear hHeld
            refine hK.out _ _ ?_ (fun hHeld => ?_)
            · (try dsimp only)
              first | exact SK.out _ (Below.mono (by assumption) hw1') | exact SK.out _ (hbz1.mono hw1') | exact SK.out _ (hbz2.mono hw1') | exact SK.out _ (hbz12.mono hw1') | exact SK.out _ (hbz21.mono hw1') | exact SK.out _ (below_three' hb8 hw1' _ _ _)
            clear hK K
            (try simp only [Act.put, List.setIfInBounds_toArray, List.set_cons_zero, List.set_cons_succ])
            refine wpAnyH_ready (rs := [7]) (by kernel_rfl) (by simp) ?_
            refine AllReadyH.cons (o := { dst := some 41, op := Op.call { callee := Callee.builtin Builtin.append, args := #[Operand.tmp 38, Operand.tmp 40], argTypes := #[36, 36] }, type := 36, pos := "l03_entry.go:148", after := #[{ on := 4, ground := Ground.data }, { on := 6, ground := Ground.data }, { on := 4, ground := Ground.chain }], guard := none }) rfl (fun K hK => ?_) (AllReadyH.nil)
            refine step_strs w3.heap.size rfl _ _ rfl (.slice xo L.length xc) L rfl hown4 (some ⟨w3.heap.size + 1, 0, none⟩) [val] 1 _ rfl rfl SV (fun e => by cases e) hlen1 hbel4.size hbel4 ?_
            intro v7 w7 hown7 hbel7 hgr7
            obtain ⟨yo, yc, rfl⟩ := own_slice hown7
            have ST7 := Lib.hid (own_strs hown7)
            clear hown7
            rw [HLs]
            clear hHeld
            refine hK.out _ _ ?_ (fun hHeld => ?_)
            · (try dsimp only)
              first | exact SK.out _ (Below.mono (by assumption) hw1') | exact SK.out _ (hbz1.mono hw1') | exact SK.out _ (hbz2.mono hw1') | exact SK.out _ (hbz12.mono hw1') | exact SK.out _ (hbz21.mono hw1') | exact SK.out _ (below_three' hb8 hw1' _ _ _)
            clear hK K
            (try simp only [Act.put, List.setIfInBounds_toArray, List.set_cons_zero, List.set_cons_succ])
            refine wpAnyH_ready (rs := [8]) (by kernel_rfl) (by simp) ?_
            refine AllReadyH.cons (o := { dst := some 42, op := Op.call { callee := Callee.value (Operand.func 101), args := #[Operand.tmp 34, Operand.tmp 35, Operand.tmp 41], argTypes := #[26, 9, 36] }, type := 26, pos := "l03_entry.go:148", after := #[{ on := 0, ground := Ground.data }, { on := 1, ground := Ground.data }, { on := 7, ground := Ground.data }, { on := 7, ground := Ground.chain }], guard := none }) rfl (fun K hK => ?_) (AllReadyH.nil)
            go_simp
            refine (HSet.out w7 yo yc hbel7 ST7.out).mono ?_
            rintro e w8 ⟨⟨po, pc, qo, qc, rfl, e1, e2⟩, hb8⟩
            have E1 := Lib.hid e1; have E2 := Lib.hid e2; clear e1 e2
            have U8 := Lib.hid (U3.out.below hb8)
            obtain ⟨⟨k0, k1, k2⟩, f0, f1, f2⟩ := U8.out.cells
            clear hHeld
            refine hK.out _ _ ?_ (fun hHeld => ?_)
            · (try dsimp only)
              first | exact SK.out _ (Below.mono (by assumption) hw1') | exact SK.out _ (hbz1.mono hw1') | exact SK.out _ (hbz2.mono hw1') | exact SK.out _ (hbz12.mono hw1') | exact SK.out _ (hbz21.mono hw1') | exact SK.out _ (below_three' hb8 hw1' _ _ _)
            clear hK K
            (try simp only [Act.put, List.setIfInBounds_toArray, List.set_cons_zero, List.set_cons_succ])
            refine wpAnyH_take (i := 9) (oi := { dst := some 43, op := Op.build 30 #[(0, Operand.tmp 42)], type := 30, pos := "l03_entry.go:148", after := #[{ on := 8, ground := Ground.data }], guard := none }) (v := ?_) rfl (by kernel_rfl) (by kernel_rfl) (by kernel_rfl) (fun _ _ _ h => h) (Or.inl ⟨by rfl, ?_⟩) (by assumption) ?_
            rotate_left
            · intro w hSw; (try dsimp only at hSw); go_simp; (try with_reducible rfl)
            (try simp only [Act.put, List.setIfInBounds_toArray, List.set_cons_zero, List.set_cons_succ])
            refine wpAnyH_ready (rs := [10]) (by kernel_rfl) (by simp) ?_
            refine AllReadyH.cons (o := { dst := none, op := Op.store 30 (Operand.tmp 6) (Operand.tmp 43), type := 0, pos := "l03_entry.go:148", after := #[{ on := 9, ground := Ground.data }, { on := 8, ground := Ground.chain }, { on := 0, ground := Ground.phase }, { on := 1, ground := Ground.phase }, { on := 2, ground := Ground.phase }, { on := 3, ground := Ground.phase }, { on := 4, ground := Ground.phase }, { on := 5, ground := Ground.phase }, { on := 6, ground := Ground.phase }, { on := 7, ground := Ground.phase }, { on := 8, ground := Ground.phase }, { on := 9, ground := Ground.phase }], guard := none }) rfl (fun K hK => ?_) (AllReadyH.nil)
            go_simp
            clear hHeld
            refine hK.out _ _ ?_ (fun hHeld => ?_)
            · (try dsimp only)
              first | exact SK.out _ (Below.mono (by assumption) hw1') | exact SK.out _ (hbz1.mono hw1') | exact SK.out _ (hbz2.mono hw1') | exact SK.out _ (hbz12.mono hw1') | exact SK.out _ (hbz21.mono hw1') | exact SK.out _ (below_three' hb8 hw1' _ _ _)
            clear hK K
            (try simp only [Act.put, List.setIfInBounds_toArray, List.set_cons_zero, List.set_cons_succ])
            refine wpAnyH_done (by kernel_rfl) ?_ _
            clear hHeld
            obtain ⟨⟨q0, q1, q2⟩, _⟩ := (((U8.out.set0 (.slice po d.length pc)).set1 (.slice qo T.length qc)).set2 (.int .i64 0)).cells
            clear k0 k1 k2 f0 f1 f2
            go_wp2_with fail
            refine bodyPost_ret (v := .agg #[.slice po d.length pc, .slice qo T.length qc, .int .i64 0]) (by simp [results, Tryz.results57, go_sem, q0, q1, q2]) rfl ?_
            rw [HOut.out]
            exact fin_out B3.out hb8 hw1 E1.out E2.out _ _ _
        · go_simp
          clear hHeld
          refine hK.out _ _ ?_ (fun hHeld => ?_)
          · (try dsimp only)
            first | exact SK.out _ (Below.mono (by assumption) hw1') | exact SK.out _ (hbz1.mono hw1') | exact SK.out _ (hbz2.mono hw1') | exact SK.out _ (hbz12.mono hw1') | exact SK.out _ (hbz21.mono hw1') | exact SK.out _ (below_three' hb8 hw1' _ _ _)
          clear hK K
          (try simp only [Act.put, List.setIfInBounds_toArray, List.set_cons_zero, List.set_cons_succ])
          refine wpAnyH_ready (rs := [2]) (by kernel_rfl) (by simp) ?_
          refine AllReadyH.cons (o := { dst := some 36, op := Op.buildSlice 36 0 #[], type := 36, pos := "l03_entry.go:148", after := #[], guard := none }) rfl (fun K hK => ?_) (AllReadyH.nil)
          go_simp
          clear hHeld
          refine hK.out _ _ ?_ (fun hHeld => ?_)
          · (try dsimp only)
            first | exact SK.out _ (Below.mono (by assumption) hw1') | exact SK.out _ (hbz1.mono hw1') | exact SK.out _ (hbz2.mono hw1') | exact SK.out _ (hbz12.mono hw1') | exact SK.out _ (hbz21.mono hw1') | exact SK.out _ (below_three' hb8 hw1' _ _ _)
          clear hK K
          (try simp only [Act.put, List.setIfInBounds_toArray, List.set_cons_zero, List.set_cons_succ])
          refine wpAnyH_ready (rs := [4]) (by kernel_rfl) (by simp) ?_
          refine AllReadyH.cons (o := { dst := some 38, op := Op.call { callee := Callee.builtin Builtin.append, args := #[Operand.tmp 36, Operand.tmp 37], argTypes := #[36, 36] }, type := 36, pos := "l03_entry.go:148", after := #[{ on := 2, ground := Ground.data }, { on := 3, ground := Ground.data }], guard := none }) rfl (fun K hK => ?_) (AllReadyH.nil)
          refine step_strs w3.heap.size rfl _ _ rfl (.slice (some ⟨w3.heap.size + 1, 0, none⟩) 0 0) [] rfl OZ21.out lo L lc _ rfl rfl HVc.out hlc hlenL hs21 hbz21 ?_
          intro v4 w4 hown4 hbel4 hgr4
          obtain ⟨xo, xc, rfl⟩ := own_slice hown4
          simp only [List.nil_append] at hown4 ⊢
          have SV := strs_grown HX21.out hgr4 (Nat.ne_of_lt (Nat.lt_succ_self _))
          clear hHeld
          refine hK.out _ _ ?_ (fun hHeld => ?_)
          · (try dsimp only)
            first | exact SK.out _ (Below.mono (by assumption) hw1') | exact SK.out _ (hbz1.mono hw1') | exact SK.out _ (hbz2.mono hw1') | exact SK.out _ (hbz12.mono hw1') | exact SK.out _ (hbz21.mono hw1') | exact SK.out _ (below_three' hb8 hw1' _ _ _)
          clear hK K
          (try simp only [Act.put, List.setIfInBounds_toArray, List.set_cons_zero, List.set_cons_succ])
          refine wpAnyH_ready (rs := [7]) (by kernel_rfl) (by simp) ?_
          refine AllReadyH.cons (o := { dst := some 41, op := Op.call { callee := Callee.builtin Builtin.append, args := #[Operand.tmp 38, Operand.tmp 40], argTypes := #[36, 36] }, type := 36, pos := "l03_entry.go:148", after := #[{ on := 4, ground := Ground.data }, { on := 6, ground := Ground.data }, { on := 4, ground := Ground.chain }], guard := none }) rfl (fun K hK => ?_) (AllReadyH.nil)
          refine step_strs w3.heap.size rfl _ _ rfl (.slice xo L.length xc) L rfl hown4 (some ⟨w3.heap.size, 0, none⟩) [val] 1 _ rfl rfl SV (fun e => by cases e) hlen1 hbel4.size hbel4 ?_
          intro v7 w7 hown7 hbel7 hgr7
          obtain ⟨yo, yc, rfl⟩ := own_slice hown7
          have ST7 := Lib.hid (own_strs hown7)
          clear hown7
          rw [HLs]
          clear hHeld
          refine hK.out _ _ ?_ (fun hHeld => ?_)
          · (try dsimp only)
            first | exact SK.out _ (Below.mono (by assumption) hw1') | exact SK.out _ (hbz1.mono hw1') | exact SK.out _ (hbz2.mono hw1') | exact SK.out _ (hbz12.mono hw1') | exact SK.out _ (hbz21.mono hw1') | exact SK.out _ (below_three' hb8 hw1' _ _ _)
          clear hK K
          (try simp only [Act.put, List.setIfInBounds_toArray, List.set_cons_zero, List.set_cons_succ])
          refine wpAnyH_ready (rs := [8]) (by kernel_rfl) (by simp) ?_
          refine AllReadyH.cons (o := { dst := some 42, op := Op.call { callee := Callee.value (Operand.func 101), args := #[Operand.tmp 34, Operand.tmp 35, Operand.tmp 41], argTypes := #[26, 9, 36] }, type := 26, pos := "l03_entry.go:148", after := #[{ on := 0, ground := Ground.data }, { on := 1, ground := Ground.data }, { on := 7, ground := Ground.data }, { on := 7, ground := Ground.chain }], guard := none }) rfl (fun K hK => ?_) (AllReadyH.nil)
          go_simp
          refine (HSet.out w7 yo yc hbel7 ST7.out).mono ?_
          rintro e w8 ⟨⟨po, pc, qo, qc, rfl, e1, e2⟩, hb8⟩
          have E1 := Lib.hid e1; have E2 := Lib.hid e2; clear e1 e2
          have U8 := Lib.hid (U3.out.below hb8)
          obtain ⟨⟨k0, k1, k2⟩, f0, f1, f2⟩ := U8.out.cells
          clear hHeld
          refine hK.out _ _ ?_ (fun hHeld => ?_)
          · (try dsimp only)
            first | exact SK.out _ (Below.mono (by assumption) hw1') | exact SK.out _ (hbz1.mono hw1') | exact SK.out _ (hbz2.mono hw1') | exact SK.out _ (hbz12.mono hw1') | exact SK.out _ (hbz21.mono hw1') | exact SK.out _ (below_three' hb8 hw1' _ _ _)
          clear hK K
          (try simp only [Act.put, List.setIfInBounds_toArray, List.set_cons_zero, List.set_cons_succ])
          refine wpAnyH_take (i := 9) (oi := { dst := some 43, op := Op.build 30 #[(0, Operand.tmp 42)], type := 30, pos := "l03_entry.go:148", after := #[{ on := 8, ground := Ground.data }], guard := none }) (v := ?_) rfl (by kernel_rfl) (by kernel_rfl) (by kernel_rfl) (fun _ _ _ h => h) (Or.inl ⟨by rfl, ?_⟩) (by assumption) ?_
          rotate_left
          · intro w hSw; (try dsimp only at hSw); go_simp; (try with_reducible rfl)
          (try simp only [Act.put, List.setIfInBounds_toArray, List.set_cons_zero, List.set_cons_succ])
          refine wpAnyH_ready (rs := [10]) (by kernel_rfl) (by simp) ?_
          refine AllReadyH.cons (o := { dst := none, op := Op.store 30 (Operand.tmp 6) (Operand.tmp 43), type := 0, pos := "l03_entry.go:148", after := #[{ on := 9, ground := Ground.data }, { on := 8, ground := Ground.chain }, { on := 0, ground := Ground.phase }, { on := 1, ground := Ground.phase }, { on := 2, ground := Ground.phase }, { on := 3, ground := Ground.phase }, { on := 4, ground := Ground.phase }, { on := 5, ground := Ground.phase }, { on := 6, ground := Ground.phase }, { on := 7, ground := Ground.phase }, { on := 8, ground := Ground.phase }, { on := 9, ground := Ground.phase }], guard := none }) rfl (fun K hK => ?_) (AllReadyH.nil)
          go_simp
          clear hHeld
          refine hK.out _ _ ?_ (fun hHeld => ?_)
          · (try dsimp only)
            first | exact SK.out _ (Below.mono (by assumption) hw1') | exact SK.out _ (hbz1.mono hw1') | exact SK.out _ (hbz2.mono hw1') | exact SK.out _ (hbz12.mono hw1') | exact SK.out _ (hbz21.mono hw1') | exact SK.out _ (below_three' hb8 hw1' _ _ _)
          clear hK K
          (try simp only [Act.put, List.setIfInBounds_toArray, List.set_cons_zero, List.set_cons_succ])
          refine wpAnyH_done (by kernel_rfl) ?_ _
          clear hHeld
          obtain ⟨⟨q0, q1, q2⟩, _⟩ := (((U8.out.set0 (.slice po d.length pc)).set1 (.slice qo T.length qc)).set2 (.int .i64 0)).cells
          clear k0 k1 k2 f0 f1 f2
          go_wp2_with fail
          refine bodyPost_ret (v := .agg #[.slice po d.length pc, .slice qo T.length qc, .int .i64 0]) (by simp [results, Tryz.results57, go_sem, q0, q1, q2]) rfl ?_
          rw [HOut.out]
          exact fin_out B3.out hb8 hw1 E1.out E2.out _ _ _
      · have hl0' : ((L.length : Int) == 0) = false := by rw [hl0]; simpa using hL0
        clear hl0 hl8 hL0 hf
        go_wp2_with fail
        refine wp_region_held_drew (S := (fun Z => Z.cell? ⟨w.heap.size, 0, none⟩ = some (.slice ao d.length ca) ∧ Z.cell? ⟨w.heap.size, 1, none⟩ = some (.slice bo l.length cb))) (by kernel_rfl) ?_ (fun hHeld => ?_)
        · (try dsimp only)
          first | exact SK.out _ (Below.mono (by assumption) hw1') | exact SK.out _ (hbz1.mono hw1') | exact SK.out _ (hbz2.mono hw1') | exact SK.out _ (hbz12.mono hw1') | exact SK.out _ (hbz21.mono hw1') | exact SK.out _ (below_three' hb8 hw1' _ _ _)
        refine wpAnyH_take (i := 0) (oi := { dst := some 34, op := Op.load 26 (Operand.tmp 3), type := 26, pos := "l03_entry.go:148", after := #[], guard := none }) (v := ?_) rfl (by kernel_rfl) (by kernel_rfl) (by kernel_rfl) (fun _ _ _ h => h) (Or.inl ⟨by rfl, ?_⟩) (by assumption) ?_
        rotate_left
        · intro w hSw; (try dsimp only at hSw); go_simp; (try with_reducible rfl)
        (try simp only [Act.put, List.setIfInBounds_toArray, List.set_cons_zero, List.set_cons_succ])
        refine wpAnyH_take (i := 1) (oi := { dst := some 35, op := Op.move (Operand.tmp 1), type := 9, pos := "l03_entry.go:148", after := #[], guard := none }) (v := ?_) rfl (by kernel_rfl) (by kernel_rfl) (by kernel_rfl) (fun _ _ _ h => h) (Or.inl ⟨by rfl, ?_⟩) (by assumption) ?_
        rotate_left
        · intro w hSw; (try dsimp only at hSw); go_simp; (try with_reducible rfl)
        (try simp only [Act.put, List.setIfInBounds_toArray, List.set_cons_zero, List.set_cons_succ])
        refine wpAnyH_take (i := 3) (oi := { dst := some 37, op := Op.move (Operand.tmp 7), type := 36, pos := "l03_entry.go:148", after := #[], guard := none }) (v := ?_) rfl (by kernel_rfl) (by kernel_rfl) (by kernel_rfl) (fun _ _ _ h => h) (Or.inl ⟨by rfl, ?_⟩) (by assumption) ?_
        rotate_left
        · intro w hSw; (try dsimp only at hSw); go_simp; (try with_reducible rfl)
        (try simp only [Act.put, List.setIfInBounds_toArray, List.set_cons_zero, List.set_cons_succ])
        refine wpAnyH_take (i := 5) (oi := { dst := some 39, op := Op.move (Operand.tmp 2), type := 9, pos := "l03_entry.go:148", after := #[], guard := none }) (v := ?_) rfl (by kernel_rfl) (by kernel_rfl) (by kernel_rfl) (fun _ _ _ h => h) (Or.inl ⟨by rfl, ?_⟩) (by assumption) ?_
        rotate_left
        · intro w hSw; (try dsimp only at hSw); go_simp; (try with_reducible rfl)
        (try simp only [Act.put, List.setIfInBounds_toArray, List.set_cons_zero, List.set_cons_succ])
        refine wpAnyH_ready (rs := [2, 6]) (by kernel_rfl) (by simp) ?_
        refine AllReadyH.cons (o := { dst := some 36, op := Op.buildSlice 36 0 #[], type := 36, pos := "l03_entry.go:148", after := #[], guard := none }) rfl (fun K hK => ?_) (AllReadyH.cons (o := { dst := some 40, op := Op.buildSlice 36 1 #[(0, Operand.tmp 39)], type := 36, pos := "l03_entry.go:148", after := #[{ on := 5, ground := Ground.data }], guard := none }) rfl (fun K hK => ?_) (AllReadyH.nil))
        · go_simp
          clear hHeld
          refine hK.out _ _ ?_ (fun hHeld => ?_)
          · (try dsimp only)
            first | exact SK.out _ (Below.mono (by assumption) hw1') | exact SK.out _ (hbz1.mono hw1') | exact SK.out _ (hbz2.mono hw1') | exact SK.out _ (hbz12.mono hw1') | exact SK.out _ (hbz21.mono hw1') | exact SK.out _ (below_three' hb8 hw1' _ _ _)
          clear hK K
          (try simp only [Act.put, List.setIfInBounds_toArray, List.set_cons_zero, List.set_cons_succ])
          refine wpAnyH_ready (rs := [4, 6]) (by kernel_rfl) (by simp) ?_
          refine AllReadyH.cons (o := { dst := some 38, op := Op.call { callee := Callee.builtin Builtin.append, args := #[Operand.tmp 36, Operand.tmp 37], argTypes := #[36, 36] }, type := 36, pos := "l03_entry.go:148", after := #[{ on := 2, ground := Ground.data }, { on := 3, ground := Ground.data }], guard := none }) rfl (fun K hK => ?_) (AllReadyH.cons (o := { dst := some 40, op := Op.buildSlice 36 1 #[(0, Operand.tmp 39)], type := 36, pos := "l03_entry.go:148", after := #[{ on := 5, ground := Ground.data }], guard := none }) rfl (fun K hK => ?_) (AllReadyH.nil))
          · refine step_strs w3.heap.size rfl _ _ rfl (.slice (some ⟨w3.heap.size, 0, none⟩) 0 0) [] rfl OZ1.out lo L lc _ rfl rfl HVa.out hlc hlenL hs1 hbz1 ?_
            intro v4 w4 hown4 hbel4 hgr4
            obtain ⟨xo, xc, rfl⟩ := own_slice hown4
            simp only [List.nil_append] at hown4 ⊢
            have hz4 : Below w3.heap.size w3 (w4.alloc (.cells #[.string val] 9)) := more hbel4 _
            clear hHeld
            refine hK.out _ _ ?_ (fun hHeld => ?_)
            · (try dsimp only)
              first | exact SK.out _ (Below.mono (by assumption) hw1') | exact SK.out _ (hbz1.mono hw1') | exact SK.out _ (hbz2.mono hw1') | exact SK.out _ (hbz12.mono hw1') | exact SK.out _ (hbz21.mono hw1') | exact SK.out _ (below_three' hb8 hw1' _ _ _)
            clear hK K
            (try simp only [Act.put, List.setIfInBounds_toArray, List.set_cons_zero, List.set_cons_succ])
            refine wpAnyH_ready (rs := [6]) (by kernel_rfl) (by simp) ?_
            refine AllReadyH.cons (o := { dst := some 40, op := Op.buildSlice 36 1 #[(0, Operand.tmp 39)], type := 36, pos := "l03_entry.go:148", after := #[{ on := 5, ground := Ground.data }], guard := none }) rfl (fun K hK => ?_) (AllReadyH.nil)
            go_simp
            clear hHeld
            refine hK.out _ _ ?_ (fun hHeld => ?_)
            · (try dsimp only)
              first | exact SK.out _ (Below.mono (by assumption) hw1') | exact SK.out _ (hbz1.mono hw1') | exact SK.out _ (hbz2.mono hw1') | exact SK.out _ (hbz12.mono hw1') | exact SK.out _ (hbz21.mono hw1') | exact SK.out _ (below_three' hb8 hw1' _ _ _)
            clear hK K
            (try simp only [Act.put, List.setIfInBounds_toArray, List.set_cons_zero, List.set_cons_succ])
            refine wpAnyH_ready (rs := [7]) (by kernel_rfl) (by simp) ?_
            refine AllReadyH.cons (o := { dst := some 41, op := Op.call { callee := Callee.builtin Builtin.append, args := #[Operand.tmp 38, Operand.tmp 40], argTypes := #[36, 36] }, type := 36, pos := "l03_entry.go:148", after := #[{ on := 4, ground := Ground.data }, { on := 6, ground := Ground.data }, { on := 4, ground := Ground.chain }], guard := none }) rfl (fun K hK => ?_) (AllReadyH.nil)
            refine step_strs w3.heap.size rfl _ _ rfl (.slice xo L.length xc) L rfl (hown4.alloc _) (some ⟨w4.heap.size, 0, none⟩) [val] 1 _ rfl rfl (strs_one w4 val) (fun e => by cases e) hlen1 (Nat.le_trans hbel4.size (by simp)) hz4 ?_
            intro v7 w7 hown7 hbel7 hgr7
            obtain ⟨yo, yc, rfl⟩ := own_slice hown7
            have ST7 := Lib.hid (own_strs hown7)
            clear hown7
            rw [HLs]
            clear hHeld
            refine hK.out _ _ ?_ (fun hHeld => ?_)
            · (try dsimp only)
              first | exact SK.out _ (Below.mono (by assumption) hw1') | exact SK.out _ (hbz1.mono hw1') | exact SK.out _ (hbz2.mono hw1') | exact SK.out _ (hbz12.mono hw1') | exact SK.out _ (hbz21.mono hw1') | exact SK.out _ (below_three' hb8 hw1' _ _ _)
            clear hK K
            (try simp only [Act.put, List.setIfInBounds_toArray, List.set_cons_zero, List.set_cons_succ])
            refine wpAnyH_ready (rs := [8]) (by kernel_rfl) (by simp) ?_
            refine AllReadyH.cons (o := { dst := some 42, op := Op.call { callee := Callee.value (Operand.func 101), args := #[Operand.tmp 34, Operand.tmp 35, Operand.tmp 41], argTypes := #[26, 9, 36] }, type := 26, pos := "l03_entry.go:148", after := #[{ on := 0, ground := Ground.data }, { on := 1, ground := Ground.data }, { on := 7, ground := Ground.data }, { on := 7, ground := Ground.chain }], guard := none }) rfl (fun K hK => ?_) (AllReadyH.nil)
            go_simp
            refine (HSet.out w7 yo yc hbel7 ST7.out).mono ?_
            rintro e w8 ⟨⟨po, pc, qo, qc, rfl, e1, e2⟩, hb8⟩
            have E1 := Lib.hid e1; have E2 := Lib.hid e2; clear e1 e2
            have U8 := Lib.hid (U3.out.below hb8)
            obtain ⟨⟨k0, k1, k2⟩, f0, f1, f2⟩ := U8.out.cells
            clear hHeld
            refine hK.out _ _ ?_ (fun hHeld => ?_)
            · (try dsimp only)
              first | exact SK.out _ (Below.mono (by assumption) hw1') | exact SK.out _ (hbz1.mono hw1') | exact SK.out _ (hbz2.mono hw1') | exact SK.out _ (hbz12.mono hw1') | exact SK.out _ (hbz21.mono hw1') | exact SK.out _ (below_three' hb8 hw1' _ _ _)
            clear hK K
            (try simp only [Act.put, List.setIfInBounds_toArray, List.set_cons_zero, List.set_cons_succ])
            refine wpAnyH_take (i := 9) (oi := { dst := some 43, op := Op.build 30 #[(0, Operand.tmp 42)], type := 30, pos := "l03_entry.go:148", after := #[{ on := 8, ground := Ground.data }], guard := none }) (v := ?_) rfl (by kernel_rfl) (by kernel_rfl) (by kernel_rfl) (fun _ _ _ h => h) (Or.inl ⟨by rfl, ?_⟩) (by assumption) ?_
            rotate_left
            · intro w hSw; (try dsimp only at hSw); go_simp; (try with_reducible rfl)
            (try simp only [Act.put, List.setIfInBounds_toArray, List.set_cons_zero, List.set_cons_succ])
            refine wpAnyH_ready (rs := [10]) (by kernel_rfl) (by simp) ?_
            refine AllReadyH.cons (o := { dst := none, op := Op.store 30 (Operand.tmp 6) (Operand.tmp 43), type := 0, pos := "l03_entry.go:148", after := #[{ on := 9, ground := Ground.data }, { on := 8, ground := Ground.chain }, { on := 0, ground := Ground.phase }, { on := 1, ground := Ground.phase }, { on := 2, ground := Ground.phase }, { on := 3, ground := Ground.phase }, { on := 4, ground := Ground.phase }, { on := 5, ground := Ground.phase }, { on := 6, ground := Ground.phase }, { on := 7, ground := Ground.phase }, { on := 8, ground := Ground.phase }, { on := 9, ground := Ground.phase }], guard := none }) rfl (fun K hK => ?_) (AllReadyH.nil)
            go_simp
            clear hHeld
            refine hK.out _ _ ?_ (fun hHeld => ?_)
            · (try dsimp only)
              first | exact SK.out _ (Below.mono (by assumption) hw1') | exact SK.out _ (hbz1.mono hw1') | exact SK.out _ (hbz2.mono hw1') | exact SK.out _ (hbz12.mono hw1') | exact SK.out _ (hbz21.mono hw1') | exact SK.out _ (below_three' hb8 hw1' _ _ _)
            clear hK K
            (try simp only [Act.put, List.setIfInBounds_toArray, List.set_cons_zero, List.set_cons_succ])
            refine wpAnyH_done (by kernel_rfl) ?_ _
            clear hHeld
            obtain ⟨⟨q0, q1, q2⟩, _⟩ := (((U8.out.set0 (.slice po d.length pc)).set1 (.slice qo T.length qc)).set2 (.int .i64 0)).cells
            clear k0 k1 k2 f0 f1 f2
            go_wp2_with fail
            refine bodyPost_ret (v := .agg #[.slice po d.length pc, .slice qo T.length qc, .int .i64 0]) (by simp [results, Tryz.results57, go_sem, q0, q1, q2]) rfl ?_
            rw [HOut.out]
            exact fin_out B3.out hb8 hw1 E1.out E2.out _ _ _
          · go_simp
            clear hHeld
            refine hK.out _ _ ?_ (fun hHeld => ?_)
            · (try dsimp only)
              first | exact SK.out _ (Below.mono (by assumption) hw1') | exact SK.out _ (hbz1.mono hw1') | exact SK.out _ (hbz2.mono hw1') | exact SK.out _ (hbz12.mono hw1') | exact SK.out _ (hbz21.mono hw1') | exact SK.out _ (below_three' hb8 hw1' _ _ _)
            clear hK K
            (try simp only [Act.put, List.setIfInBounds_toArray, List.set_cons_zero, List.set_cons_succ])
            refine wpAnyH_ready (rs := [4]) (by kernel_rfl) (by simp) ?_
            refine AllReadyH.cons (o := { dst := some 38, op := Op.call { callee := Callee.builtin Builtin.append, args := #[Operand.tmp 36, Operand.tmp 37], argTypes := #[36, 36] }, type := 36, pos := "l03_entry.go:148", after := #[{ on := 2, ground := Ground.data }, { on := 3, ground := Ground.data }], guard := none }) rfl (fun K hK => ?_) (AllReadyH.nil)
            refine step_strs w3.heap.size rfl _ _ rfl (.slice (some ⟨w3.heap.size, 0, none⟩) 0 0) [] rfl OZ12.out lo L lc _ rfl rfl HVb.out hlc hlenL hs12 hbz12 ?_
            intro v4 w4 hown4 hbel4 hgr4
            obtain ⟨xo, xc, rfl⟩ := own_slice hown4
            simp only [List.nil_append] at hown4 ⊢
            have SV := strs_grown HX12.out hgr4 (Nat.succ_ne_self _)
            clear hHeld
            refine hK.out _ _ ?_ (fun hHeld => ?_)
            · (try dsimp only)
              first | exact SK.out _ (Below.mono (by assumption) hw1') | exact SK.out _ (hbz1.mono hw1') | exact SK.out _ (hbz2.mono hw1') | exact SK.out _ (hbz12.mono hw1') | exact SK.out _ (hbz21.mono hw1') | exact SK.out _ (below_three' hb8 hw1' _ _ _)
            clear hK K
            (try simp only [Act.put, List.setIfInBounds_toArray, List.set_cons_zero, List.set_cons_succ])
            refine wpAnyH_ready (rs := [7]) (by kernel_rfl) (by simp) ?_
            refine AllReadyH.cons (o := { dst := some 41, op := Op.call { callee := Callee.builtin Builtin.append, args := #[Operand.tmp 38, Operand.tmp 40], argTypes := #[36, 36] }, type := 36, pos := "l03_entry.go:148", after := #[{ on := 4, ground := Ground.data }, { on := 6, ground := Ground.data }, { on := 4, ground := Ground.chain }], guard := none }) rfl (fun K hK => ?_) (AllReadyH.nil)
            refine step_strs w3.heap.size rfl _ _ rfl (.slice xo L.length xc) L rfl hown4 (some ⟨w3.heap.size + 1, 0, none⟩) [val] 1 _ rfl rfl SV (fun e => by cases e) hlen1 hbel4.size hbel4 ?_
            intro v7 w7 hown7 hbel7 hgr7
            obtain ⟨yo, yc, rfl⟩ := own_slice hown7
            have ST7 := Lib.hid (own_strs hown7)
            clear hown7
            rw [HLs]
            clear hHeld
            refine hK.out _ _ ?_ (fun hHeld => ?_)
            · (try dsimp only)
              first | exact SK.out _ (Below.mono (by assumption) hw1') | exact SK.out _ (hbz1.mono hw1') | exact SK.out _ (hbz2.mono hw1') | exact SK.out _ (hbz12.mono hw1') | exact SK.out _ (hbz21.mono hw1') | exact SK.out _ (below_three' hb8 hw1' _ _ _)
            clear hK K
            (try simp only [Act.put, List.setIfInBounds_toArray, List.set_cons_zero, List.set_cons_succ])
            refine wpAnyH_ready (rs := [8]) (by kernel_rfl) (by simp) ?_
            refine AllReadyH.cons (o := { dst := some 42, op := Op.call { callee := Callee.value (Operand.func 101), args := #[Operand.tmp 34, Operand.tmp 35, Operand.tmp 41], argTypes := #[26, 9, 36] }, type := 26, pos := "l03_entry.go:148", after := #[{ on := 0, ground := Ground.data }, { on := 1, ground := Ground.data }, { on := 7, ground := Ground.data }, { on := 7, ground := Ground.chain }], guard := none }) rfl (fun K hK => ?_) (AllReadyH.nil)
            go_simp
            refine (HSet.out w7 yo yc hbel7 ST7.out).mono ?_
            rintro e w8 ⟨⟨po, pc, qo, qc, rfl, e1, e2⟩, hb8⟩
            have E1 := Lib.hid e1; have E2 := Lib.hid e2; clear e1 e2
            have U8 := Lib.hid (U3.out.below hb8)
            obtain ⟨⟨k0, k1, k2⟩, f0, f1, f2⟩ := U8.out.cells
            clear hHeld
            refine hK.out _ _ ?_ (fun hHeld => ?_)
            · (try dsimp only)
              first | exact SK.out _ (Below.mono (by assumption) hw1') | exact SK.out _ (hbz1.mono hw1') | exact SK.out _ (hbz2.mono hw1') | exact SK.out _ (hbz12.mono hw1') | exact SK.out _ (hbz21.mono hw1') | exact SK.out _ (below_three' hb8 hw1' _ _ _)
            clear hK K
            (try simp only [Act.put, List.setIfInBounds_toArray, List.set_cons_zero, List.set_cons_succ])
            refine wpAnyH_take (i := 9) (oi := { dst := some 43, op := Op.build 30 #[(0, Operand.tmp 42)], type := 30, pos := "l03_entry.go:148", after := #[{ on := 8, ground := Ground.data }], guard := none }) (v := ?_) rfl (by kernel_rfl) (by kernel_rfl) (by kernel_rfl) (fun _ _ _ h => h) (Or.inl ⟨by rfl, ?_⟩) (by assumption) ?_
            rotate_left
            · intro w hSw; (try dsimp only at hSw); go_simp; (try with_reducible rfl)
            (try simp only [Act.put, List.setIfInBounds_toArray, List.set_cons_zero, List.set_cons_succ])
            refine wpAnyH_ready (rs := [10]) (by kernel_rfl) (by simp) ?_
            refine AllReadyH.cons (o := { dst := none, op := Op.store 30 (Operand.tmp 6) (Operand.tmp 43), type := 0, pos := "l03_entry.go:148", after := #[{ on := 9, ground := Ground.data }, { on := 8, ground := Ground.chain }, { on := 0, ground := Ground.phase }, { on := 1, ground := Ground.phase }, { on := 2, ground := Ground.phase }, { on := 3, ground := Ground.phase }, { on := 4, ground := Ground.phase }, { on := 5, ground := Ground.phase }, { on := 6, ground := Ground.phase }, { on := 7, ground := Ground.phase }, { on := 8, ground := Ground.phase }, { on := 9, ground := Ground.phase }], guard := none }) rfl (fun K hK => ?_) (AllReadyH.nil)
            go_simp
            clear hHeld
            refine hK.out _ _ ?_ (fun hHeld => ?_)
            · (try dsimp only)
              first | exact SK.out _ (Below.mono (by assumption) hw1') | exact SK.out _ (hbz1.mono hw1') | exact SK.out _ (hbz2.mono hw1') | exact SK.out _ (hbz12.mono hw1') | exact SK.out _ (hbz21.mono hw1') | exact SK.out _ (below_three' hb8 hw1' _ _ _)
            clear hK K
            (try simp only [Act.put, List.setIfInBounds_toArray, List.set_cons_zero, List.set_cons_succ])
            refine wpAnyH_done (by kernel_rfl) ?_ _
            clear hHeld
            obtain ⟨⟨q0, q1, q2⟩, _⟩ := (((U8.out.set0 (.slice po d.length pc)).set1 (.slice qo T.length qc)).set2 (.int .i64 0)).cells
            clear k0 k1 k2 f0 f1 f2
            go_wp2_with fail
            refine bodyPost_ret (v := .agg #[.slice po d.length pc, .slice qo T.length qc, .int .i64 0]) (by simp [results, Tryz.results57, go_sem, q0, q1, q2]) rfl ?_
            rw [HOut.out]
            exact fin_out B3.out hb8 hw1 E1.out E2.out _ _ _
        · go_simp
          clear hHeld
          refine hK.out _ _ ?_ (fun hHeld => ?_)
          · (try dsimp only)
            first | exact SK.out _ (Below.mono (by assumption) hw1') | exact SK.out _ (hbz1.mono hw1') | exact SK.out _ (hbz2.mono hw1') | exact SK.out _ (hbz12.mono hw1') | exact SK.out _ (hbz21.mono hw1') | exact SK.out _ (below_three' hb8 hw1' _ _ _)
          clear hK K
          (try simp only [Act.put, List.setIfInBounds_toArray, List.set_cons_zero, List.set_cons_succ])
          refine wpAnyH_ready (rs := [2]) (by kernel_rfl) (by simp) ?_
          refine AllReadyH.cons (o := { dst := some 36, op := Op.buildSlice 36 0 #[], type := 36, pos := "l03_entry.go:148", after := #[], guard := none }) rfl (fun K hK => ?_) (AllReadyH.nil)
          go_simp
          clear hHeld
          refine hK.out _ _ ?_ (fun hHeld => ?_)
          · (try dsimp only)
            first | exact SK.out _ (Below.mono (by assumption) hw1') | exact SK.out _ (hbz1.mono hw1') | exact SK.out _ (hbz2.mono hw1') | exact SK.out _ (hbz12.mono hw1') | exact SK.out _ (hbz21.mono hw1') | exact SK.out _ (below_three' hb8 hw1' _ _ _)
          clear hK K
          (try simp only [Act.put, List.setIfInBounds_toArray, List.set_cons_zero, List.set_cons_succ])
          refine wpAnyH_ready (rs := [4]) (by kernel_rfl) (by simp) ?_
          refine AllReadyH.cons (o := { dst := some 38, op := Op.call { callee := Callee.builtin Builtin.append, args := #[Operand.tmp 36, Operand.tmp 37], argTypes := #[36, 36] }, type := 36, pos := "l03_entry.go:148", after := #[{ on := 2, ground := Ground.data }, { on := 3, ground := Ground.data }], guard := none }) rfl (fun K hK => ?_) (AllReadyH.nil)
          refine step_strs w3.heap.size rfl _ _ rfl (.slice (some ⟨w3.heap.size + 1, 0, none⟩) 0 0) [] rfl OZ21.out lo L lc _ rfl rfl HVc.out hlc hlenL hs21 hbz21 ?_
          intro v4 w4 hown4 hbel4 hgr4
          obtain ⟨xo, xc, rfl⟩ := own_slice hown4
          simp only [List.nil_append] at hown4 ⊢
          have SV := strs_grown HX21.out hgr4 (Nat.ne_of_lt (Nat.lt_succ_self _))
          clear hHeld
          refine hK.out _ _ ?_ (fun hHeld => ?_)
          · (try dsimp only)
            first | exact SK.out _ (Below.mono (by assumption) hw1') | exact SK.out _ (hbz1.mono hw1') | exact SK.out _ (hbz2.mono hw1') | exact SK.out _ (hbz12.mono hw1') | exact SK.out _ (hbz21.mono hw1') | exact SK.out _ (below_three' hb8 hw1' _ _ _)
          clear hK K
          (try simp only [Act.put, List.setIfInBounds_toArray, List.set_cons_zero, List.set_cons_succ])
          refine wpAnyH_ready (rs := [7]) (by kernel_rfl) (by simp) ?_
          refine AllReadyH.cons (o := { dst := some 41, op := Op.call { callee := Callee.builtin Builtin.append, args := #[Operand.tmp 38, Operand.tmp 40], argTypes := #[36, 36] }, type := 36, pos := "l03_entry.go:148", after := #[{ on := 4, ground := Ground.data }, { on := 6, ground := Ground.data }, { on := 4, ground := Ground.chain }], guard := none }) rfl (fun K hK => ?_) (AllReadyH.nil)
          refine step_strs w3.heap.size rfl _ _ rfl (.slice xo L.length xc) L rfl hown4 (some ⟨w3.heap.size, 0, none⟩) [val] 1 _ rfl rfl SV (fun e => by cases e) hlen1 hbel4.size hbel4 ?_
          intro v7 w7 hown7 hbel7 hgr7
          obtain ⟨yo, yc, rfl⟩ := own_slice hown7
          have ST7 := Lib.hid (own_strs hown7)
          clear hown7
          rw [HLs]
          clear hHeld
          refine hK.out _ _ ?_ (fun hHeld => ?_)
          · (try dsimp only)
            first | exact SK.out _ (Below.mono (by assumption) hw1') | exact SK.out _ (hbz1.mono hw1') | exact SK.out _ (hbz2.mono hw1') | exact SK.out _ (hbz12.mono hw1') | exact SK.out _ (hbz21.mono hw1') | exact SK.out _ (below_three' hb8 hw1' _ _ _)
          clear hK K
          (try simp only [Act.put, List.setIfInBounds_toArray, List.set_cons_zero, List.set_cons_succ])
          refine wpAnyH_ready (rs := [8]) (by kernel_rfl) (by simp) ?_
          refine AllReadyH.cons (o := { dst := some 42, op := Op.call { callee := Callee.value (Operand.func 101), args := #[Operand.tmp 34, Operand.tmp 35, Operand.tmp 41], argTypes := #[26, 9, 36] }, type := 26, pos := "l03_entry.go:148", after := #[{ on := 0, ground := Ground.data }, { on := 1, ground := Ground.data }, { on := 7, ground := Ground.data }, { on := 7, ground := Ground.chain }], guard := none }) rfl (fun K hK => ?_) (AllReadyH.nil)
          go_simp
          refine (HSet.out w7 yo yc hbel7 ST7.out).mono ?_
          rintro e w8 ⟨⟨po, pc, qo, qc, rfl, e1, e2⟩, hb8⟩
          have E1 := Lib.hid e1; have E2 := Lib.hid e2; clear e1 e2
          have U8 := Lib.hid (U3.out.below hb8)
          obtain ⟨⟨k0, k1, k2⟩, f0, f1, f2⟩ := U8.out.cells
          clear hHeld
          refine hK.out _ _ ?_ (fun hHeld => ?_)
          · (try dsimp only)
            first | exact SK.out _ (Below.mono (by assumption) hw1') | exact SK.out _ (hbz1.mono hw1') | exact SK.out _ (hbz2.mono hw1') | exact SK.out _ (hbz12.mono hw1') | exact SK.out _ (hbz21.mono hw1') | exact SK.out _ (below_three' hb8 hw1' _ _ _)
          clear hK K
          (try simp only [Act.put, List.setIfInBounds_toArray, List.set_cons_zero, List.set_cons_succ])
          refine wpAnyH_take (i := 9) (oi := { dst := some 43, op := Op.build 30 #[(0, Operand.tmp 42)], type := 30, pos := "l03_entry.go:148", after := #[{ on := 8, ground := Ground.data }], guard := none }) (v := ?_) rfl (by kernel_rfl) (by kernel_rfl) (by kernel_rfl) (fun _ _ _ h => h) (Or.inl ⟨by rfl, ?_⟩) (by assumption) ?_
          rotate_left
          · intro w hSw; (try dsimp only at hSw); go_simp; (try with_reducible rfl)
          (try simp only [Act.put, List.setIfInBounds_toArray, List.set_cons_zero, List.set_cons_succ])
          refine wpAnyH_ready (rs := [10]) (by kernel_rfl) (by simp) ?_
          refine AllReadyH.cons (o := { dst := none, op := Op.store 30 (Operand.tmp 6) (Operand.tmp 43), type := 0, pos := "l03_entry.go:148", after := #[{ on := 9, ground := Ground.data }, { on := 8, ground := Ground.chain }, { on := 0, ground := Ground.phase }, { on := 1, ground := Ground.phase }, { on := 2, ground := Ground.phase }, { on := 3, ground := Ground.phase }, { on := 4, ground := Ground.phase }, { on := 5, ground := Ground.phase }, { on := 6, ground := Ground.phase }, { on := 7, ground := Ground.phase }, { on := 8, ground := Ground.phase }, { on := 9, ground := Ground.phase }], guard := none }) rfl (fun K hK => ?_) (AllReadyH.nil)
          go_simp
          clear hHeld
          refine hK.out _ _ ?_ (fun hHeld => ?_)
          · (try dsimp only)
            first | exact SK.out _ (Below.mono (by assumption) hw1') | exact SK.out _ (hbz1.mono hw1') | exact SK.out _ (hbz2.mono hw1') | exact SK.out _ (hbz12.mono hw1') | exact SK.out _ (hbz21.mono hw1') | exact SK.out _ (below_three' hb8 hw1' _ _ _)
          clear hK K
          (try simp only [Act.put, List.setIfInBounds_toArray, List.set_cons_zero, List.set_cons_succ])
          refine wpAnyH_done (by kernel_rfl) ?_ _
          clear hHeld
          obtain ⟨⟨q0, q1, q2⟩, _⟩ := (((U8.out.set0 (.slice po d.length pc)).set1 (.slice qo T.length qc)).set2 (.int .i64 0)).cells
          clear k0 k1 k2 f0 f1 f2
          go_wp2_with fail
          refine bodyPost_ret (v := .agg #[.slice po d.length pc, .slice qo T.length qc, .int .i64 0]) (by simp [results, Tryz.results57, go_sem, q0, q1, q2]) rfl ?_
          rw [HOut.out]
          exact fin_out B3.out hb8 hw1 E1.out E2.out _ _ _
end Go.Proofs.YtjajpdghamecoaaGreat
