/- Merged texts: MsT, RowT, EntH0, EntHs, MsK, EntHv, MsV, MsE. -/
import Derived.Test.YtohcdpoffpnfhaaGreatDoorM12
import Derived.Test.YtohcdpoffpnfhaaGreatDoorM13
import Derived.Test.YtohcdpoffpnfhaaGreatDoorM4
import Derived.Test.YtohcdpoffpnfhaaGreatDoorM3
import Derived.Test.YtohcdpoffpnfhaaGreatDoorM2
import Derived.Test.YtohcdpoffpnfhaaGreatDoorM5
import Derived.Test.YtohcdpoffpnfhaaGreatDoorM8
/- Missing: what the specification returns. -/
namespace Go.Proofs.YtohcdpoffpnfhaaGreatDoor
open Go.RowKit
attribute [local go_sem ↓] Go.wp_at_zero Go.wp_at_succ

theorem missR_yes {s : List ClassT} {d : RdnL} {l : List AttrV} (h1 : schemaB (s.map toCV) = true) (h2 : rightB d l = true) : missR s d l = match mineC (s.map toCV) l with | some c => besideV c.must (namesA l) | none => [] := by
  unfold missR
  rw [mine_right h1 h2]
  cases mineC (s.map toCV) l <;> rfl
theorem missR_no {s : List ClassT} {d : RdnL} {l : List AttrV} (h : schemaB (s.map toCV) = false ∨ rightB d l = false) : missR s d l = [] := by
  unfold missR
  rw [mine_no h]
theorem schemaB_len {X : List ClassV} (h : schemaB X = true) : X.length ≤ 6 := by
  unfold schemaB at h
  simp only [Bool.and_eq_true, decide_eq_true_eq] at h
  exact h.1
theorem own_emptyM (w : World) {B g : Nat} (hg : g = w.heap.size) (hB : B ≤ g) : (w.alloc (.cells #[] 9)).ownsRow B 9 1 (.slice (some ⟨g, 0, none⟩) 0 0) 0 (ss []) := by
  subst hg
  exact ⟨rfl, .inr ⟨w.heap.size, 0, #[], rfl, hB, heap_alloc_new w _, by simp, by unfold maxLen; simp, rfl, rfl⟩⟩
theorem Blk.grew {w w' : World} {g : Nat} {r : Option Nat} {cs : List Value} (h : Blk w g cs) (hg : w.grownBy w' r) (hne : r ≠ some g) : Blk w' g cs := by
  have hl := h.lt
  obtain ⟨T, e⟩ := h
  exact ⟨T, (hg.block g hl (fun e => hne e.symm)).trans e⟩
theorem besideA_succ (M : List ByteArray) (l : List AttrV) (k : Nat) (h : k < M.length) : besideV (M.take (k + 1)) (namesA l) = besideV (M.take k) (namesA l) ++ (if atI l M[k] < 0 then [M[k]] else []) := by
  rw [besideV_succ _ _ _ h]
  congr 1
  generalize M[k] = x
  by_cases hx : atI l x < 0
  · rw [if_pos hx]
    have hn : hasS (namesA l) x = false := hasS_no fun j hj => by
      have hj' : j < l.length := by simpa [namesA] using hj
      have e : (namesA l)[j] = l[j].1 := by simp [namesA]
      rw [e, name_eq, decide_eq_false_iff_not]
      intro he
      have h1 : atN l x ≠ none := by
        intro h0
        exact (atN_none h0).1 _ (List.getElem_mem hj') he
      unfold atI at hx
      cases ha : atN l x with
      | none => exact h1 ha
      | some i => rw [ha] at hx; simp at hx; omega
    rw [hn]; rfl
  · rw [if_neg hx]
    have hy : hasS (namesA l) x = true := by
      unfold atI at hx
      cases ha : atN l x with
      | none => rw [ha] at hx; simp at hx
      | some i =>
        obtain ⟨hi, h1, _, _⟩ := atN_some ha
        have hi' : i < (namesA l).length := by simpa [namesA] using hi
        refine hasS_yes (k := i) hi' ?_
        have e : (namesA l)[i] = l[i].1 := by simp [namesA]
        rw [e, name_eq, h1]; simp
    rw [hy]; rfl
end Go.Proofs.YtohcdpoffpnfhaaGreatDoor
/- Rows of texts that may be written; texts of one norm. -/
namespace Go.Proofs.YtohcdpoffpnfhaaGreatDoor
open Go.RowKit
attribute [local go_sem ↓] Go.wp_at_zero Go.wp_at_succ

/-- a block of texts, the first of them known -/
def RowS (w : World) (g n : Nat) (l : List ByteArray) : Prop := ∃ C : Array Value, w.heap[g]? = some (.cells C 9 (0, 0)) ∧ C.size = n ∧ ∀ i (h : i < l.length), C[i]? = some (.string l[i])
theorem RowS.at {w : World} {g n k : Nat} {l : List ByteArray} (h : RowS w g n l) (hk : k < n) : (∃ x, w.cell? ⟨g, k, none⟩ = some x) ∧ w.frozen? ⟨g, k, none⟩ = false := by
  obtain ⟨C, h1, h2, _⟩ := h
  refine ⟨⟨C[k]'(by omega), ?_⟩, ?_⟩
  · rw [cell_of_row w g _ C 9 (0, 0) h1]; exact Array.getElem?_eq_getElem (by omega)
  · simp [World.frozen?, h1]
theorem RowS.set {w : World} {g n k : Nat} {l : List ByteArray} (h : RowS w g n l) (hl : l.length = k) (hk : k < n) (s : ByteArray) : RowS (w.setCell ⟨g, k, none⟩ (.string s)) g n (l ++ [s]) := by
  obtain ⟨C, h1, h2, h3⟩ := h
  refine ⟨_, heap_set _ h1, by simp [h2], fun i hi => ?_⟩
  rw [Array.getElem?_setIfInBounds]
  by_cases e : k = i
  · subst e
    rw [if_pos rfl, if_pos (by omega), List.getElem_append_right (by omega)]
    simp
  · have hi' : i < l.length := by simp at hi; omega
    rw [if_neg e, List.getElem_append_left hi']
    exact h3 i hi'
theorem RowS.strs {w : World} {g n : Nat} {l : List ByteArray} (h : RowS w g n l) : StrsAt w (some ⟨g, 0, none⟩) l := by
  obtain ⟨C, h1, h2, h3⟩ := h
  refine .inr ⟨g, 0, rfl, (Array.getElem?_eq_some_iff.1 h1).1, fun i hi => ?_⟩
  rw [cell_of_row w g _ C 9 (0, 0) h1, Nat.zero_add]
  exact h3 i hi
/-- a block of n texts -/
def StrSh (w : World) (b n : Nat) : Prop := ∃ C : Array Value, w.heap[b]? = some (.cells C 9 (0, 0)) ∧ C.size = n
theorem RowS.sh {w : World} {g n : Nat} {l : List ByteArray} (h : RowS w g n l) : StrSh w g n := by obtain ⟨C, h1, h2, _⟩ := h; exact ⟨C, h1, h2⟩
theorem StrSh.lt {w : World} {b n : Nat} (h : StrSh w b n) : b < w.heap.size := by obtain ⟨C, h1, _⟩ := h; exact (Array.getElem?_eq_some_iff.1 h1).1
theorem RowS.below {w w' : World} {g n : Nat} {l : List ByteArray} (h : RowS w g n l) (hb : Below w.heap.size w w') : RowS w' g n l := by
  obtain ⟨C, h1, h2⟩ := h
  exact ⟨C, (hb.block g (Array.getElem?_eq_some_iff.1 h1).1).trans h1, h2⟩
theorem RowS.far {w : World} {g n R j : Nat} {l : List ByteArray} (h : RowS w g n l) (hne : g ≠ R) (v : Value) : RowS (w.setCell ⟨R, j, none⟩ v) g n l := by
  obtain ⟨C, h1, h2⟩ := h
  exact ⟨C, (Below.heap_setCell _ _ _ _ hne).trans h1, h2⟩
def normEq (x y : ByteArray) : Bool := (normS x).toList == (normS y).toList
set_option maxHeartbeats 1000000 in
theorem sameNorm_any (w0 : World) (a b : ByteArray) (w : World) (ha : a.size ≤ maxLen) (hb : b.size ≤ maxLen) (hB : Below w0.heap.size w0 w) :
    Calls Tryz.prog 222 #[.string a, .string b] w fun e w' => e = .returned (.bool (normEq a b)) ∧ Below w0.heap.size w0 w' := by
  have HE : Hid (normEq a b = ((normS a).toList == (normS b).toList)) := Lib.hid rfl
  have HN : Hid (∀ (s : ByteArray) W, s.size ≤ maxLen → Below w0.heap.size w0 W → Calls Tryz.prog 156 #[.string s] W fun e w' => e = .returned (.string (normS s)) ∧ Below w0.heap.size w0 w') :=
    Lib.hid (fun s W hs h => (Norm_any s W hs).mono fun _ _ g => ⟨g.1, h.trans (g.2.mono h.size)⟩)
  go_enter Tryz.func222, Tryz.ntmps222
  go_wp2_with (first
    | (go_at_call 156; refine (HN.out _ _ ha hB).mono ?_; rintro e w1 ⟨rfl, hb1⟩; clear hB)
    | (go_at_call 156; refine (HN.out _ _ hb hb1).mono ?_; rintro e w2 ⟨rfl, hb2⟩; clear hb1)
    | (fail "none"))
  go_ret
  exact ⟨ret_bool HE.out.symm, hb2⟩
end Go.Proofs.YtohcdpoffpnfhaaGreatDoor
/- HasValue: what the program returns. -/
namespace Go.Proofs.YtohcdpoffpnfhaaGreatDoor
open Go.RowKit
attribute [local go_sem ↓] Go.wp_at_zero Go.wp_at_succ

/-- the number of the first that is so, or -1 -/
def findI {α : Type} (p : α → Bool) (l : List α) : Int := match l.findIdx? p with | some i => (i : Int) | none => -1
theorem findI_none {α : Type} {p : α → Bool} {l : List α} (h : ∀ i (hi : i < l.length), p l[i] = false) : findI p l = -1 := by
  have : l.findIdx? p = none := by
    rw [List.findIdx?_eq_none_iff]
    intro a ha
    obtain ⟨i, hi, rfl⟩ := List.getElem_of_mem ha
    exact h i hi
  unfold findI; rw [this]
theorem findI_some {α : Type} {p : α → Bool} {l : List α} {k : Nat} (hk : k < l.length) (h1 : p l[k] = true) (h : ∀ i (hi : i < l.length), i < k → p l[i] = false) : findI p l = (k : Int) := by
  have : l.findIdx? p = some k := by
    rw [List.findIdx?_eq_some_iff_getElem]
    exact ⟨hk, h1, fun j hj => by simpa using h j (by omega) hj⟩
  unfold findI; rw [this]
theorem findI_range {α : Type} (p : α → Bool) (l : List α) : -1 ≤ findI p l ∧ findI p l ≤ l.length := by
  unfold findI
  cases h : l.findIdx? p with
  | none => constructor <;> simp <;> omega
  | some i =>
    rw [List.findIdx?_eq_some_iff_getElem] at h
    obtain ⟨hi, _⟩ := h
    constructor <;> simp <;> omega
def likeV (val v : ByteArray) : Bool := normEq v val
noncomputable def hasB (d : RdnL) (l : List AttrV) (nm val : ByteArray) : Bool := decide (0 ≤ findI (likeV val) (attrOfL d l nm))
set_option maxRecDepth 100000 in
set_option maxHeartbeats 1000000 in
theorem like_any (w0 : World) (q : Nat) (x val : ByteArray) (w : World) (hx : x.size ≤ maxLen) (hv : val.size ≤ maxLen) (hc : w0.cell? ⟨q, 0, none⟩ = some (.string val)) (hq : q < w0.heap.size) (hB : Below w0.heap.size w0 w) :
    Calls Tryz.prog 221 #[.string x, .pointer (some ⟨q, 0, none⟩)] w fun e w' => e = .returned (.bool (likeV val x)) ∧ Below w0.heap.size w0 w' := by
  have c1 := (hB.cell (p := ⟨q, 0, none⟩) hq).trans hc
  have HE : Hid (likeV val x = normEq x val) := Lib.hid rfl
  go_enter Tryz.func221, Tryz.ntmps221
  go_wp2_with fail
  refine (sameNorm_any w0 x val w hx hv hB).mono ?_
  rintro e w1 ⟨rfl, hb1⟩
  generalize normEq x val = r at *
  go_wp2
  go_ret
  exact ⟨ret_bool HE.out.symm, hb1⟩
set_option maxRecDepth 100000 in
set_option maxHeartbeats 1000000 in
theorem indexFunc_any (w0 : World) (vo : Option Addr) (V : List ByteArray) (vc q : Nat) (val : ByteArray) (w : World) (hd : StrsAt w0 vo V) (hf : FitsV V) (hv : val.size ≤ maxLen) (hc : w0.cell? ⟨q, 0, none⟩ = some (.string val)) (hq : q < w0.heap.size) (hB : Below w0.heap.size w0 w) :
    Calls Tryz.prog 220 #[.slice vo V.length vc, .func (.func 221) #[] #[.pointer (some ⟨q, 0, none⟩)]] w fun e w' => e = .returned (.int .i64 (findI (likeV val) V)) ∧ Below w0.heap.size w0 w' := by
  have hl := hf.1
  have HD := Lib.hid hd; have HF := Lib.hid hf; have HC := Lib.hid hc; clear hd hf hc
  go_enter Tryz.func220, Tryz.ntmps220
  go_wp2_with fail
  go_loopw [8] (fun i wr => ∃ k : Nat, k ≤ V.length ∧ i = .int .i64 k ∧ (∀ j (h : j < V.length), j < k → likeV val V[j] = false) ∧ Below w0.heap.size w0 wr) (fun i _ => V.length - (intOf i).toNat)
  case atStart => exact ⟨0, Nat.zero_le _, rfl, fun j _ h => absurd h (Nat.not_lt_zero _), hB⟩
  case round =>
    obtain ⟨k, hk, rfl, hj, hbel⟩ := hrel
    have Hj := Lib.hid hj; clear hj
    by_cases hlt : k < V.length
    · obtain ⟨p, off, rfl, hp0, hd1⟩ := HD.out.at hlt
      have c1 := (hbel.cell (p := ⟨p, off + k, none⟩) hp0).trans hd1
      have hz := HF.out.max hlt
      have g1 : (0 : Int) ≤ (k : Int) := by omega
      have g2 : (k : Int) < (V.length : Int) := by omega
      have HX : Hid (likeV val V[k] = true → findI (likeV val) V = (k : Int)) := Lib.hid (fun h => findI_some hlt h Hj.out)
      have HN : Hid (likeV val V[k] = false → ∀ j (h : j < V.length), j < k + 1 → likeV val V[j] = false) := Lib.hid (fun hn j h hjk => by
        by_cases e : j = k
        · subst e; exact hn
        · exact Hj.out j h (by omega))
      clear hd1
      generalize V[k] = x at *
      cases hn : likeV val x
      · have HN' := Lib.hid (HN.out hn)
        go_wp2_with fail
        refine (like_any w0 q x val wr hz hv HC.out hq hbel).mono ?_
        rw [hn]
        rintro e w1 ⟨rfl, hb1⟩
        go_wp2
        go_roundw
        case rel => exact ⟨k + 1, by omega, by go_num, HN'.out, hb1⟩
        case measure => simp [intOf]; omega
      · have HX' := Lib.hid (HX.out hn)
        go_wp2_with fail
        refine (like_any w0 q x val wr hz hv HC.out hq hbel).mono ?_
        rw [hn]
        rintro e w1 ⟨rfl, hb1⟩
        go_wp2
        go_ret
        exact ⟨ret_int' HX'.out.symm, hb1⟩
    · have HT := Lib.hid (findI_none (p := likeV val) (l := V) (fun i hi => Hj.out i hi (by omega)))
      go_wp2
      go_ret
      exact ⟨ret_int' HT.out.symm, hbel⟩
set_option maxRecDepth 100000 in
set_option maxHeartbeats 1000000 in
theorem normIndex_any (vo : Option Addr) (V : List ByteArray) (vc : Nat) (val : ByteArray) (w : World) (hd : StrsAt w vo V) (hf : FitsV V) (hv : val.size ≤ maxLen) :
    Calls Tryz.prog 200 #[.slice vo V.length vc, .string val] w fun e w' => e = .returned (.int .i64 (findI (likeV val) V)) ∧ Below w.heap.size w w' := by
  have HD := Lib.hid hd; have HF := Lib.hid hf; clear hd hf
  go_enter Tryz.func200, Tryz.ntmps200
  go_wp2_with fail
  have hB1 := more (Below.refl w.heap.size w) (.cells #[.string val] 9)
  refine (indexFunc_any (w.alloc (.cells #[.string val] 9)) vo V vc w.heap.size val _ (HD.out.below hB1) HF.out hv (by simp) (by simp) (Below.refl _ _)).mono ?_
  rintro e w1 ⟨rfl, hb1⟩
  generalize hr : findI (likeV val) V = r at *
  have HR := Lib.hid hr; clear hr
  go_wp2
  go_ret
  exact ⟨ret_int' HR.out.symm, hB1.trans (hb1.mono hB1.size)⟩
theorem attrOf_fits {d : RdnL} {l : List AttrV} (h : FitsA l) (nm : ByteArray) : FitsV (attrOfL d l nm) := by
  unfold attrOfL; split
  · exact valsOf_fits h nm
  · exact .nil
end Go.Proofs.YtohcdpoffpnfhaaGreatDoor
/- HasValue: what the specification finds. -/
namespace Go.Proofs.YtohcdpoffpnfhaaGreatDoor
open Go.RowKit
attribute [local go_sem ↓] Go.wp_at_zero Go.wp_at_succ

theorem likeV_eq (val v : ByteArray) : likeV val v = ((normS v).toList == (normS val).toList) := rfl
set_option maxRecDepth 100000 in
set_option maxHeartbeats 1000000 in
theorem l03In_any (vo : Option Addr) (V : List ByteArray) (vc : Nat) (val : ByteArray) (w : World) (hd : StrsAt w vo V) (hf : FitsV V) :
    Calls Tryz.prog 153 #[.slice vo V.length vc, .string (normS val)] w fun e w' => e = .returned (.int .i64 (findI (likeV val) V)) ∧ Below w.heap.size w w' := by
  have hl := hf.1
  have HD := Lib.hid hd; have HF := Lib.hid hf; clear hd hf
  go_enter Tryz.func153, Tryz.ntmps153
  go_wp2_with fail
  go_loopw [5] (fun i wr => ∃ k : Nat, k ≤ V.length ∧ i = .int .i64 k ∧ (∀ j (h : j < V.length), j < k → likeV val V[j] = false) ∧ Below w.heap.size w wr) (fun i _ => V.length - (intOf i).toNat)
  case atStart => exact ⟨0, Nat.zero_le _, rfl, fun j _ h => absurd h (Nat.not_lt_zero _), Below.refl _ _⟩
  case round =>
    obtain ⟨k, hk, rfl, hj, hbel⟩ := hrel
    have Hj := Lib.hid hj; clear hj
    by_cases hlt : k < V.length
    · obtain ⟨p, off, rfl, hp0, hd1⟩ := HD.out.at hlt
      have c1 := (hbel.cell (p := ⟨p, off + k, none⟩) hp0).trans hd1
      have hz := HF.out.max hlt
      have g1 : (0 : Int) ≤ (k : Int) := by omega
      have g2 : (k : Int) < (V.length : Int) := by omega
      have HX : Hid (likeV val V[k] = true → findI (likeV val) V = (k : Int)) := Lib.hid (fun h => findI_some hlt h Hj.out)
      have HN : Hid (likeV val V[k] = false → ∀ j (h : j < V.length), j < k + 1 → likeV val V[j] = false) := Lib.hid (fun hn j h hjk => by
        by_cases e : j = k
        · subst e; exact hn
        · exact Hj.out j h (by omega))
      have HQ := Lib.hid (likeV_eq val V[k])
      have H93 : Hid (Calls Tryz.prog 118 #[.string V[k]] wr fun e w' => e = .returned (.string (normS V[k])) ∧ Below w.heap.size w w') := Lib.hid (SpecNorm_from w V[k] wr hz hbel)
      clear hd1
      generalize V[k] = x at *
      generalize normS x = nx at *
      generalize normS val = nv at *
      cases hq : (nx.toList == nv.toList)
      · have HN' := Lib.hid (HN.out (HQ.out.trans hq))
        go_wp2_with fail
        refine H93.out.mono ?_
        rintro e w1 ⟨rfl, hb1⟩
        go_wp2
        go_roundw
        case rel => exact ⟨k + 1, by omega, by go_num, HN'.out, hb1⟩
        case measure => simp [intOf]; omega
      · have HX' := Lib.hid (HX.out (HQ.out.trans hq))
        go_wp2_with fail
        refine H93.out.mono ?_
        rintro e w1 ⟨rfl, hb1⟩
        go_wp2
        go_ret
        exact ⟨ret_int' HX'.out.symm, hb1⟩
    · have HT := Lib.hid (findI_none (p := likeV val) (l := V) (fun i hi => Hj.out i hi (by omega)))
      go_wp2
      go_ret
      exact ⟨ret_int' HT.out.symm, hbel⟩
theorem vals_proper {d : RdnL} {l : List AttrV} (h : rightB d l = true) {nm v : ByteArray} (hv : v ∈ valsOf l nm) : valB v = true := by
  cases ha : atN l nm with
  | none => rw [(atN_none ha).2] at hv; simp at hv
  | some i =>
    obtain ⟨hi, _, h2, _⟩ := atN_some ha
    rw [h2] at hv
    unfold rightB attrsB at h
    simp only [Bool.and_eq_true, List.all_eq_true] at h
    have := h.2.1.2 _ (List.getElem_mem hi)
    unfold attrB valsB at this
    simp only [Bool.and_eq_true, List.all_eq_true] at this
    exact this.2.1.2 v hv
/-- an empty normalized form is that of no value of an entry -/
theorem has_empty {d : RdnL} {l : List AttrV} {nm val : ByteArray} (h : (normS val).toList = []) : findI (likeV val) (attrOfL d l nm) = -1 := by
  refine findI_none fun i hi => ?_
  have hm := List.getElem_mem hi
  cases hr : rightB d l
  · rw [attrOf_no hr] at hi; simp at hi
  · rw [likeV_eq, h]
    have : valB (attrOfL d l nm)[i] = true := by
      refine vals_proper hr (nm := nm) ?_
      have e := attrOf_yes hr nm
      rw [← e]; exact hm
    unfold valB at this
    simp only [Bool.and_eq_true] at this
    have h2 := this.2
    cases hq : (normS (attrOfL d l nm)[i]).toList with
    | nil => rw [hq] at h2; simp at h2
    | cons a b => rfl
theorem norm_long {val : ByteArray} (h : 100 < val.size) : (normS val).toList = [] := by
  rw [Lib.toList_data]
  unfold normS normL
  have : ¬ (val.data.toList.length ≤ 100 ∧ plainB val.data.toList = true) := by rw [size_len]; omega
  rw [if_neg this]
theorem hasB_long {d : RdnL} {l : List AttrV} {nm val : ByteArray} (h : 8000 < nm.size ∨ 8000 < val.size) : hasB d l nm val = false := by
  unfold hasB
  rcases h with h | h
  · rw [attrOf_long (by omega), findI_none (fun i hi => by simp at hi)]; rfl
  · rw [has_empty (norm_long (by omega))]; rfl
theorem hasB_no {d : RdnL} {l : List AttrV} {nm val : ByteArray} (h : rightB d l = false) : hasB d l nm val = false := by
  unfold hasB
  rw [attrOf_no h, findI_none (fun i hi => by simp at hi)]; rfl
theorem hasB_empty {d : RdnL} {l : List AttrV} {nm val : ByteArray} (h : (normS val).toList = []) : hasB d l nm val = false := by
  unfold hasB; rw [has_empty h]; rfl
theorem hasB_yes {d : RdnL} {l : List AttrV} {nm val : ByteArray} (h : rightB d l = true) : hasB d l nm val = decide (0 ≤ findI (likeV val) (valsOf l nm)) := by
  unfold hasB; rw [attrOf_yes h]
set_option maxRecDepth 100000 in
set_option maxHeartbeats 1000000 in
theorem l03Has_any (ao bo : Option Addr) (d : RdnL) (l : List AttrV) (ca cb : Nat) (nm val : ByteArray) (w : World) (hl : AttrsAt w bo l) (hfl : FitsA l) (hv : val.size ≤ maxLen) (hr : rightB d l = true) :
    Calls Tryz.prog 106 #[.agg #[.slice ao d.length ca, .slice bo l.length cb], .string nm, .string val] w fun e w' => e = .returned (.bool (hasB d l nm val)) ∧ Below w.heap.size w w' := by
  have HL := Lib.hid hl; have FL := Lib.hid hfl; clear hl hfl
  have HY := Lib.hid (hasB_yes (nm := nm) (val := val) hr)
  clear hr
  go_enter Tryz.func106, Tryz.ntmps106
  go_wp2_with fail
  refine calls_by (fun W => Below w.heap.size w W ∧ Blk W w.heap.size [.slice ao d.length ca, .slice bo l.length cb]) ⟨more' (Below.refl _ _) _, Blk.new _ _ _⟩ ?_
  rintro W ⟨hbW, t0⟩
  refine (SpecNorm_from W val W hv (Below.refl _ _)).mono ?_
  rintro e w1 ⟨rfl, hb1⟩
  have B1 := Lib.hid (hbW.trans (hb1.mono hbW.size)); have T1 := Lib.hid (t0.below hb1)
  clear hbW t0 hb1
  have c0 := T1.out.cell 0 rfl; have c1 := T1.out.cell 1 rfl
  by_cases he : (normS val).toList = []
  · have HE := Lib.hid (hasB_empty (d := d) (l := l) (nm := nm) he)
    have h1 : ((normS val).toList == []) = true := by rw [he]; rfl
    generalize normS val = nv at *
    go_wp2
    go_ret
    exact ⟨ret_bool HE.out.symm, B1.out⟩
  · have h1 : ((normS val).toList == []) = false := by simpa using he
    have h2 : (normS val).toList.isEmpty = false := by simpa using he
    have HI := Lib.hid (fun vo V vc W h f => l03In_any vo V vc val W h f)
    generalize normS val = nv at *
    have HEq := Lib.hid he; clear he
    go_wp2_with fail
    refine (l03Of_any ao bo d l ca cb nm w1 (HL.out.below B1.out) FL.out).mono ?_
    rintro e w2 ⟨⟨vo, vc, rfl, hv2⟩, hb2⟩
    have HV := Lib.hid hv2.1
    have FV := Lib.hid (valsOf_fits FL.out nm)
    have B2 := Lib.hid (B1.out.trans (hb2.mono B1.out.size))
    clear hv2 hb2 c0 c1
    generalize valsOf l nm = V at *
    go_wp2_with fail
    refine (HI.out vo V vc w2 HV.out FV.out).mono ?_
    rintro e w3 ⟨rfl, hb3⟩
    have B3 := Lib.hid (B2.out.trans (hb3.mono B2.out.size))
    clear hb3 HI
    generalize findI (likeV val) V = r at *
    by_cases h0 : 0 ≤ r
    · go_wp2
      go_ret
      exact ⟨ret_bool (by rw [HY.out]; first | done | simpa using h0), B3.out⟩
    · have h0' : r < 0 := by omega
      go_wp2
      go_ret
      exact ⟨ret_bool (by rw [HY.out]; first | done | simpa using h0'), B3.out⟩
end Go.Proofs.YtohcdpoffpnfhaaGreatDoor
/- Check: the names and the values of an entry. -/
namespace Go.Proofs.YtohcdpoffpnfhaaGreatDoor
open Go.RowKit
attribute [local go_sem ↓] Go.wp_at_zero Go.wp_at_succ

/-- the names that a class does not know -/
def strayV (c : ClassV) (l : List AttrV) : List ByteArray := besideV (namesA l) (c.must ++ c.may ++ [clsT])
section
variable {ops : Array Oper} {rest : List Oper} {o : Oper} {a : Act} {Q : Exit → Act → World → Prop} {K : Act → World → Prop} {E : Prop} {w3 : World}
/-- a text is appended that lies in a block of its own -/
theorem step_blk (B : Nat) (hgd : o.guard = none) (s x : Operand)
    (ho : o.op = .call { callee := .builtin .append, args := #[s, x], argTypes := #[79, 79] }) (v : Value) (pre : List ByteArray) (hs : a.eval s = v) (hown : w3.ownsRow B 9 1 v pre.length (ss pre))
    (N : Nat) (t : ByteArray) (hA : Blk w3 N [.string t]) (hx : a.eval x = .slice (some ⟨N, 0, none⟩) 1 1) (hlen : pre.length ≤ 1000000000) (hB : B ≤ w3.heap.size)
    (h : ∀ g cap w', w'.ownsRow B 9 1 (.slice (some ⟨g, 0, none⟩) (pre.length + 1) cap) (pre ++ [t]).length (ss (pre ++ [t])) → w3.grownBy w' v.ownBlock → K (a.put o.dst (.slice (some ⟨g, 0, none⟩) (pre.length + 1) cap)) w') :
    if Region.wanted o (yielded ops a.tmps) = true then Oper.wp Tryz.prog o a w3 K Q else E := by
  obtain ⟨i0, hi, hz0, hz1, hz2⟩ := info_parts Tryz.info9
  obtain ⟨TA, hA⟩ := hA
  refine step_append_lies _ hgd s x 79 ho B 9 i0 _ 1 16 Tryz.underlying79 hi hz0 hz1 hz2 rfl (by decide) v pre.length (ss pre) hs hown ⟨N, 0, none⟩ 1 1 [.string t] hx rfl (World.news_of_block (cs := #[.string t]) hA) ?_ (by omega) ?_ ?_ hB w3.heap.size rfl ?_
  · intro u hu; simp at hu; subst hu; rfl
  · unfold maxLen; omega
  · omega
  · intro g cap w' h1 h2 _ _
    refine h g cap w' ?_ h2
    rw [ss_snoc]; simpa using h1
end
/-- what checkNames returns -/
def GivesErr (w : World) (ok : Bool) (e : Ending) (w' : World) : Prop := Below w.heap.size w w' ∧ match ok with
  | true => e = .returned .nilIface
  | false => ∃ t1 t2, e = .returned (.iface 183 (.agg #[.string t1, .string t2]))
def namesOk (c : ClassV) (l : List AttrV) : Bool := (besideV c.must (namesA l)).isEmpty && (strayV c l).isEmpty
set_option maxRecDepth 100000 in
set_option maxHeartbeats 4000000 in
theorem checkNames_any (c : ClassV) (v1 v2 v3 : Value) (d : RdnL) (ao bo : Option Addr) (l : List AttrV) (ca cb : Nat) (w : World) (h1 : SlV w v1 c.must) (h2 : SlV w v2 c.may) (h3 : IsSl v3) (f1 : FitsV c.must) (f2 : FitsV c.may) (hd : AttrsAt w bo l) (hf : FitsA l) :
    Calls Tryz.prog 112 #[.agg #[.string c.nm, v1, v2, v3], .agg #[.slice ao d.length ca, .slice bo l.length cb]] w (GivesErr w (namesOk c l)) := by
  obtain ⟨o1, n1, k1, rfl⟩ := h1.sl
  obtain ⟨o2, n2, k2, rfl⟩ := h2.sl
  obtain ⟨o3, n3, k3, rfl⟩ := h3
  have CM : Hid (∀ W : World, Below w.heap.size w W → Calls Tryz.prog 157 #[.agg #[.string c.nm, .slice o1 n1 k1, .slice o2 n2 k2, .slice o3 n3 k3], .agg #[.slice ao d.length ca, .slice bo l.length cb]] W (GivesV W (besideV c.must (namesA l)))) := Lib.hid (fun W b => missingNames_any c _ _ _ d ao bo l ca cb W (h1.below b) ⟨_, _, _, rfl⟩ ⟨_, _, _, rfl⟩ f1.1 (hd.below b) hf)
  have CN : Hid (∀ W : World, Below w.heap.size w W → Calls Tryz.prog 159 #[.agg #[.slice ao d.length ca, .slice bo l.length cb]] W (GivesV W (namesA l))) := Lib.hid (fun W b => attrNames_any d ao bo l ca cb W (hd.below b) hf)
  have CP : Hid (∀ W : World, Below w.heap.size w W → Calls Tryz.prog 160 #[.agg #[.string c.nm, .slice o1 n1 k1, .slice o2 n2 k2, .slice o3 n3 k3]] W (GivesV W (c.must ++ c.may))) := Lib.hid (fun W b => permitted_any c _ _ _ W (h1.below b) (h2.below b) ⟨_, _, _, rfl⟩ f1 f2)
  have hll := hf.1
  have hl1 := f1.1
  have hl2 := f2.1
  clear h1 h2 hd f1 f2 hf
  have HB : Hid (namesOk c l = ((besideV c.must (namesA l)).isEmpty && (strayV c l).isEmpty)) := Lib.hid rfl
  go_enter Tryz.func112, Tryz.ntmps112
  go_wp2_with fail
  refine calls_by (fun W => Below w.heap.size w W ∧ Blk W w.heap.size [.string c.nm, .slice o1 n1 k1, .slice o2 n2 k2, .slice o3 n3 k3] ∧ Blk W (w.heap.size + 1) [.slice ao d.length ca, .slice bo l.length cb]) ⟨more' (more' (Below.refl _ _) _) _, (Blk.new _ _ _).below (more' (Below.refl _ _) _), Blk.new1 _ _ _ _⟩ ?_
  rintro W1 ⟨b1, e1, q1⟩
  refine (CM.out W1 b1).mono ?_
  rintro e w2 ⟨⟨v, rfl, hown⟩, hb⟩
  have B2 := Lib.hid (b1.trans (hb.mono b1.size)); have E2 := Lib.hid (e1.below hb); have Q2 := Lib.hid (q1.below hb)
  obtain ⟨no, nc, hv, hns⟩ := own_slv hown
  subst hv
  have HNs := Lib.hid hns
  clear b1 e1 q1 hb hown hns CM
  generalize besideV c.must (namesA l) = V at *
  rcases V with _ | ⟨x, V⟩
  rotate_left
  · have HE : Hid (namesOk c l = false) := Lib.hid (by rw [HB.out]; rfl)
    obtain ⟨p, off, rfl, hp2, hcx⟩ : ∃ p off, no = some ⟨p, off, none⟩ ∧ p < w2.heap.size ∧ w2.cell? ⟨p, off, none⟩ = some (.string x) := by
      rcases HNs.out with h | ⟨b, o, e, hb, hc⟩
      · cases h
      · exact ⟨b, o, e, hb, hc 0 (Nat.succ_pos _)⟩
    have hlV : (x :: V).length = V.length + 1 := rfl
    rw [hlV]
    have g1 : (0 : Int) < ((V.length + 1 : Nat) : Int) := by omega
    go_wp2_with fail
    go_ret
    rw [HE.out]
    exact ⟨B2.out, x, _, rfl⟩
  have cz0 := Q2.out.cell 0 rfl; have cz1 := Q2.out.cell 1 rfl
  rw [show ([] : List ByteArray).length = 0 from rfl]
  have hmm : Hid ((c.must ++ c.may).length ≤ 1000000000) := Lib.hid (by rw [List.length_append]; omega)
  have hmn : (namesA l).length ≤ 1048576 := by unfold namesA; rw [List.length_map]; exact hll
  have hmo : Hid (((c.must ++ c.may) ++ [clsT]).length ≤ 10000000) := Lib.hid (by rw [List.length_append, List.length_append]; simp; omega)
  have HST : Hid (strayV c l = besideV (namesA l) ((c.must ++ c.may) ++ [clsT])) := Lib.hid rfl
  generalize c.must ++ c.may = P at *
  generalize namesA l = N at *
  go_wp2_with fail
  have SK : Hid (∀ Z' : World, Below w2.heap.size w2 Z' → (fun Z' => Z'.cell? ⟨w.heap.size, 0, none⟩ = some (.string c.nm) ∧ Z'.cell? ⟨w.heap.size, 1, none⟩ = some (.slice o1 n1 k1) ∧ Z'.cell? ⟨w.heap.size, 2, none⟩ = some (.slice o2 n2 k2) ∧ Z'.cell? ⟨w.heap.size, 3, none⟩ = some (.slice o3 n3 k3) ∧ Z'.cell? ⟨w.heap.size + 1, 0, none⟩ = some (.slice ao d.length ca) ∧ Z'.cell? ⟨w.heap.size + 1, 1, none⟩ = some (.slice bo l.length cb)) Z') := Lib.hid (fun Z' h => ⟨(E2.out.below h).cell 0 rfl, (E2.out.below h).cell 1 rfl, (E2.out.below h).cell 2 rfl, (E2.out.below h).cell 3 rfl, (Q2.out.below h).cell 0 rfl, (Q2.out.below h).cell 1 rfl⟩)
  refine region_join (fun A0 a2 w9 => ∃ (t18 t19 t20 t21 t22 t23 : Value) (so : Option Addr) (sc : Nat), a2 = ((((((((A0.put (some 18) t18).put (some 19) t19).put (some 20) t20).put (some 21) t21).put (some 22) t22).put (some 23) t23).put (some 24) (.slice so (besideV N (P ++ [clsT])).length sc)).put (some 6) (.slice so (besideV N (P ++ [clsT])).length sc)) ∧ Below w2.heap.size w2 w9 ∧ StrsAt w9 so (besideV N (P ++ [clsT]))) ?_ ?_
  · have D0 : Below w2.heap.size w2 w2.drew := (Below.refl _ _).drew
    refine wp_region_held_drew (S := (fun Z' => Z'.cell? ⟨w.heap.size, 0, none⟩ = some (.string c.nm) ∧ Z'.cell? ⟨w.heap.size, 1, none⟩ = some (.slice o1 n1 k1) ∧ Z'.cell? ⟨w.heap.size, 2, none⟩ = some (.slice o2 n2 k2) ∧ Z'.cell? ⟨w.heap.size, 3, none⟩ = some (.slice o3 n3 k3) ∧ Z'.cell? ⟨w.heap.size + 1, 0, none⟩ = some (.slice ao d.length ca) ∧ Z'.cell? ⟨w.heap.size + 1, 1, none⟩ = some (.slice bo l.length cb))) (by kernel_rfl) ?_ (fun hHeld => ?_)
    · (try dsimp only)
      first | exact SK.out _ D0 | exact SK.out _ D1 | exact SK.out _ D2 | exact SK.out _ D3 | exact SK.out _ D4 | exact SK.out _ D9 | exact SK.out _ (by assumption)
    obtain ⟨y0, hy0⟩ : ∃ Y, Y = w2.drew := ⟨_, rfl⟩
    rw [← hy0] at D0
    rw [← hy0]
    clear hy0
    have hHeld' := SK.out y0 D0
    clear hHeld
    have hHeld := hHeld'
    clear hHeld'
    refine wpAnyH_take (i := 0) (oi := { dst := some 18, op := Op.load 35 (Operand.tmp 3), type := 35, pos := "l05_schema.go:157", after := #[], guard := none }) (v := ?_) rfl (by kernel_rfl) (by kernel_rfl) (by kernel_rfl) (fun _ _ _ h => h) (Or.inl ⟨by rfl, ?_⟩) (by assumption) ?_
    rotate_left
    · intro w hSw; (try dsimp only at hSw); go_simp; (try with_reducible rfl)
    (try simp only [Act.put, List.setIfInBounds_toArray, List.set_cons_zero, List.set_cons_succ])
    refine wpAnyH_take (i := 2) (oi := { dst := some 20, op := Op.load 85 (Operand.tmp 2), type := 85, pos := "l05_schema.go:157", after := #[], guard := none }) (v := ?_) rfl (by kernel_rfl) (by kernel_rfl) (by kernel_rfl) (fun _ _ _ h => h) (Or.inl ⟨by rfl, ?_⟩) (by assumption) ?_
    rotate_left
    · intro w hSw; (try dsimp only at hSw); go_simp; (try with_reducible rfl)
    (try simp only [Act.put, List.setIfInBounds_toArray, List.set_cons_zero, List.set_cons_succ])
    refine wpAnyH_ready (rs := [1, 4]) (by kernel_rfl) (by simp) ?_
    refine AllReadyH.cons (o := { dst := some 19, op := Op.call { callee := Callee.value (Operand.func 159), args := #[Operand.tmp 18], argTypes := #[35] }, type := 79, pos := "l05_schema.go:157", after := #[{ on := 0, ground := Ground.data }], guard := none }) rfl (fun K hK => ?_) (AllReadyH.cons (o := { dst := some 22, op := Op.buildSlice 79 1 #[(0, Operand.const (Value.string { data := #[99, 108, 97, 115, 115] }))], type := 79, pos := "l05_schema.go:157", after := #[], guard := none }) rfl (fun K hK => ?_) (AllReadyH.nil))
    · go_simp
      refine (CN.out y0 (B2.out.trans (D0.mono B2.out.size))).mono ?_
      rintro e y1 ⟨⟨v, rfl, hown⟩, hb⟩
      obtain ⟨po, pc, hv, hs1⟩ := own_slv hown
      subst hv
      have D1 : Below w2.heap.size w2 y1 := D0.trans (hb.mono D0.size)
      have HN := Lib.hid hs1
      clear hown hs1 hb D0
      clear hHeld
      refine hK.out _ _ ?_ (fun hHeld => ?_)
      · (try dsimp only)
        first | exact SK.out _ D0 | exact SK.out _ D1 | exact SK.out _ D2 | exact SK.out _ D3 | exact SK.out _ D4 | exact SK.out _ D9 | exact SK.out _ (by assumption)
      clear hK K
      (try simp only [Act.put, List.setIfInBounds_toArray, List.set_cons_zero, List.set_cons_succ])
      refine wpAnyH_ready (rs := [3, 4]) (by kernel_rfl) (by simp) ?_
      refine AllReadyH.cons (o := { dst := some 21, op := Op.call { callee := Callee.value (Operand.func 160), args := #[Operand.tmp 20], argTypes := #[85] }, type := 79, pos := "l05_schema.go:157", after := #[{ on := 2, ground := Ground.data }, { on := 1, ground := Ground.chain }], guard := none }) rfl (fun K hK => ?_) (AllReadyH.cons (o := { dst := some 22, op := Op.buildSlice 79 1 #[(0, Operand.const (Value.string { data := #[99, 108, 97, 115, 115] }))], type := 79, pos := "l05_schema.go:157", after := #[], guard := none }) rfl (fun K hK => ?_) (AllReadyH.nil))
      · go_simp
        refine (CP.out y1 (B2.out.trans (D1.mono B2.out.size))).mono ?_
        rintro e y2 ⟨⟨v, rfl, hown⟩, hb⟩
        obtain ⟨pu, nu, cu, rfl⟩ := own_slice3' hown
        have D2 : Below w2.heap.size w2 y2 := D1.trans (hb.mono D1.size)
        have HO := Lib.hid hown; have HBz := Lib.hid hb
        have hzz := D1.size
        clear hown hb D1
        clear hHeld
        refine hK.out _ _ ?_ (fun hHeld => ?_)
        · (try dsimp only)
          first | exact SK.out _ D0 | exact SK.out _ D1 | exact SK.out _ D2 | exact SK.out _ D3 | exact SK.out _ D4 | exact SK.out _ D9 | exact SK.out _ (by assumption)
        clear hK K
        (try simp only [Act.put, List.setIfInBounds_toArray, List.set_cons_zero, List.set_cons_succ])
        refine wpAnyH_ready (rs := [4]) (by kernel_rfl) (by simp) ?_
        refine AllReadyH.cons (o := { dst := some 22, op := Op.buildSlice 79 1 #[(0, Operand.const (Value.string { data := #[99, 108, 97, 115, 115] }))], type := 79, pos := "l05_schema.go:157", after := #[], guard := none }) rfl (fun K hK => ?_) (AllReadyH.nil)
        go_simp
        obtain ⟨y3, hz1⟩ : ∃ Y, Y = y2.alloc (.cells #[.string clsT] 9) := ⟨_, rfl⟩
        have QZ : Below y2.heap.size y2 y3 := by rw [hz1]; exact more' (Below.refl _ _) _
        have D3 : Below w2.heap.size w2 y3 := D2.trans (QZ.mono D2.size)
        have HA : Hid (Blk y3 y2.heap.size [.string clsT]) := Lib.hid (by rw [hz1]; exact Blk.new _ _ _)
        replace HO := Lib.hid (own_below HO.out QZ); replace HBz := Lib.hid (HBz.out.trans (QZ.mono HBz.out.size))
        try rw [← clsT]
        first | rw [← hz1] | (change K _ (y2.alloc (.cells #[.string clsT] 9)); rw [← hz1]) | skip
        clear hz1 QZ D2
        clear hHeld
        refine hK.out _ _ ?_ (fun hHeld => ?_)
        · (try dsimp only)
          first | exact SK.out _ D0 | exact SK.out _ D1 | exact SK.out _ D2 | exact SK.out _ D3 | exact SK.out _ D4 | exact SK.out _ D9 | exact SK.out _ (by assumption)
        clear hK K
        (try simp only [Act.put, List.setIfInBounds_toArray, List.set_cons_zero, List.set_cons_succ])
        refine wpAnyH_ready (rs := [5]) (by kernel_rfl) (by simp) ?_
        refine AllReadyH.cons (o := { dst := some 23, op := Op.call { callee := Callee.builtin Builtin.append, args := #[Operand.tmp 21, Operand.tmp 22], argTypes := #[79, 79] }, type := 79, pos := "l05_schema.go:157", after := #[{ on := 3, ground := Ground.data }, { on := 4, ground := Ground.data }, { on := 3, ground := Ground.chain }], guard := none }) rfl (fun K hK => ?_) (AllReadyH.nil)
        refine step_blk y1.heap.size rfl _ _ rfl _ P rfl HO.out _ clsT HA.out rfl hmm.out HBz.out.size ?_
        intro g cap y4 h1 h2
        have D4 : Below w2.heap.size w2 y4 := D3.grown h2 D3.size (fun r hr => Nat.le_trans hzz (HO.out.lt r hr).1)
        have hB6 := HBz.out.grown h2 HBz.out.size (fun r hr => (HO.out.lt r hr).1)
        have HS1 := Lib.hid (HN.out.below hB6)
        obtain ⟨mo, mc, hmv, hms⟩ := own_slv h1
        have HMS := Lib.hid hms
        injection hmv with hm1 hm2 hm3
        subst hm1 hm3
        have CB : Hid (Calls Tryz.prog 158 #[.slice po N.length pc, .slice (some ⟨g, 0, none⟩) (P.length + 1) cap] y4 (GivesV y4 (besideV N (P ++ [clsT])))) := Lib.hid (by have h := beside_any po _ N (P ++ [clsT]) pc cap y4 HS1.out HMS.out hmn hmo.out; rw [← hm2] at h; exact h)
        clear h1 h2 hB6 hms hm2 D3
        clear hHeld
        refine hK.out _ _ ?_ (fun hHeld => ?_)
        · (try dsimp only)
          first | exact SK.out _ D0 | exact SK.out _ D1 | exact SK.out _ D2 | exact SK.out _ D3 | exact SK.out _ D4 | exact SK.out _ D9 | exact SK.out _ (by assumption)
        clear hK K
        (try simp only [Act.put, List.setIfInBounds_toArray, List.set_cons_zero, List.set_cons_succ])
        refine wpAnyH_ready (rs := [6]) (by kernel_rfl) (by simp) ?_
        refine AllReadyH.cons (o := { dst := some 24, op := Op.call { callee := Callee.value (Operand.func 158), args := #[Operand.tmp 19, Operand.tmp 23], argTypes := #[79, 79] }, type := 79, pos := "l05_schema.go:157", after := #[{ on := 1, ground := Ground.data }, { on := 5, ground := Ground.data }, { on := 5, ground := Ground.chain }], guard := none }) rfl (fun K hK => ?_) (AllReadyH.nil)
        go_simp
        refine CB.out.mono ?_
        rintro e y5 ⟨⟨v, rfl, hown⟩, hb⟩
        obtain ⟨so, sc, hv, hss⟩ := own_slv hown
        subst hv
        have D9 : Below w2.heap.size w2 y5 := D4.trans (hb.mono D4.size)
        clear hown hb D4
        clear hHeld
        refine hK.out _ _ ?_ (fun hHeld => ?_)
        · (try dsimp only)
          first | exact SK.out _ D0 | exact SK.out _ D1 | exact SK.out _ D2 | exact SK.out _ D3 | exact SK.out _ D4 | exact SK.out _ D9 | exact SK.out _ (by assumption)
        clear hK K
        (try simp only [Act.put, List.setIfInBounds_toArray, List.set_cons_zero, List.set_cons_succ])
        refine wpAnyH_take (i := 7) (oi := { dst := some 6, op := Op.assign (Operand.tmp 24), type := 79, pos := "l05_schema.go:157", after := #[{ on := 6, ground := Ground.data }, { on := 6, ground := Ground.chain }, { on := 0, ground := Ground.phase }, { on := 1, ground := Ground.phase }, { on := 2, ground := Ground.phase }, { on := 3, ground := Ground.phase }, { on := 4, ground := Ground.phase }, { on := 5, ground := Ground.phase }, { on := 6, ground := Ground.phase }], guard := none }) (v := ?_) rfl (by kernel_rfl) (by kernel_rfl) (by kernel_rfl) (fun _ _ _ h => h) (Or.inl ⟨by rfl, ?_⟩) (by assumption) ?_
        rotate_left
        · intro w hSw; (try dsimp only at hSw); go_simp; (try with_reducible rfl)
        (try simp only [Act.put, List.setIfInBounds_toArray, List.set_cons_zero, List.set_cons_succ])
        refine wpAnyH_done (by kernel_rfl) ?_ _
        refine ⟨.agg #[.slice ao d.length ca, .slice bo l.length cb], .slice po N.length pc, .agg #[.string c.nm, .slice o1 n1 k1, .slice o2 n2 k2, .slice o3 n3 k3], .slice pu nu cu, .slice (some ⟨y2.heap.size, 0, none⟩) 1 1, .slice (some ⟨g, 0, none⟩) (P.length + 1) cap, so, sc, ?_, D9, hss⟩
        first | rfl | (simp only [Act.put, List.setIfInBounds_toArray, List.set_cons_zero, List.set_cons_succ]; done) | (simp only [Act.put, List.setIfInBounds_toArray, List.set_cons_zero, List.set_cons_succ]; rfl)
      · go_simp
        obtain ⟨y2, hz1⟩ : ∃ Y, Y = y1.alloc (.cells #[.string clsT] 9) := ⟨_, rfl⟩
        have QZ : Below y1.heap.size y1 y2 := by rw [hz1]; exact more' (Below.refl _ _) _
        have D2 : Below w2.heap.size w2 y2 := D1.trans (QZ.mono D1.size)
        have HA : Hid (Blk y2 y1.heap.size [.string clsT]) := Lib.hid (by rw [hz1]; exact Blk.new _ _ _)
        replace HN := Lib.hid (HN.out.below QZ)
        try rw [← clsT]
        first | rw [← hz1] | (change K _ (y1.alloc (.cells #[.string clsT] 9)); rw [← hz1]) | skip
        clear hz1 QZ D1
        clear hHeld
        refine hK.out _ _ ?_ (fun hHeld => ?_)
        · (try dsimp only)
          first | exact SK.out _ D0 | exact SK.out _ D1 | exact SK.out _ D2 | exact SK.out _ D3 | exact SK.out _ D4 | exact SK.out _ D9 | exact SK.out _ (by assumption)
        clear hK K
        (try simp only [Act.put, List.setIfInBounds_toArray, List.set_cons_zero, List.set_cons_succ])
        refine wpAnyH_ready (rs := [3]) (by kernel_rfl) (by simp) ?_
        refine AllReadyH.cons (o := { dst := some 21, op := Op.call { callee := Callee.value (Operand.func 160), args := #[Operand.tmp 20], argTypes := #[85] }, type := 79, pos := "l05_schema.go:157", after := #[{ on := 2, ground := Ground.data }, { on := 1, ground := Ground.chain }], guard := none }) rfl (fun K hK => ?_) (AllReadyH.nil)
        go_simp
        refine (CP.out y2 (B2.out.trans (D2.mono B2.out.size))).mono ?_
        rintro e y3 ⟨⟨v, rfl, hown⟩, hb⟩
        obtain ⟨pu, nu, cu, rfl⟩ := own_slice3' hown
        have D3 : Below w2.heap.size w2 y3 := D2.trans (hb.mono D2.size)
        have HO := Lib.hid hown; have HBz := Lib.hid hb
        replace HA := Lib.hid (HA.out.below hb)
        have hzz := D2.size
        clear hown hb D2
        clear hHeld
        refine hK.out _ _ ?_ (fun hHeld => ?_)
        · (try dsimp only)
          first | exact SK.out _ D0 | exact SK.out _ D1 | exact SK.out _ D2 | exact SK.out _ D3 | exact SK.out _ D4 | exact SK.out _ D9 | exact SK.out _ (by assumption)
        clear hK K
        (try simp only [Act.put, List.setIfInBounds_toArray, List.set_cons_zero, List.set_cons_succ])
        refine wpAnyH_ready (rs := [5]) (by kernel_rfl) (by simp) ?_
        refine AllReadyH.cons (o := { dst := some 23, op := Op.call { callee := Callee.builtin Builtin.append, args := #[Operand.tmp 21, Operand.tmp 22], argTypes := #[79, 79] }, type := 79, pos := "l05_schema.go:157", after := #[{ on := 3, ground := Ground.data }, { on := 4, ground := Ground.data }, { on := 3, ground := Ground.chain }], guard := none }) rfl (fun K hK => ?_) (AllReadyH.nil)
        refine step_blk y2.heap.size rfl _ _ rfl _ P rfl HO.out _ clsT HA.out rfl hmm.out HBz.out.size ?_
        intro g cap y4 h1 h2
        have D4 : Below w2.heap.size w2 y4 := D3.grown h2 D3.size (fun r hr => Nat.le_trans hzz (HO.out.lt r hr).1)
        have hB6 := HBz.out.grown h2 HBz.out.size (fun r hr => (HO.out.lt r hr).1)
        have HS1 := Lib.hid (HN.out.below hB6)
        obtain ⟨mo, mc, hmv, hms⟩ := own_slv h1
        have HMS := Lib.hid hms
        injection hmv with hm1 hm2 hm3
        subst hm1 hm3
        have CB : Hid (Calls Tryz.prog 158 #[.slice po N.length pc, .slice (some ⟨g, 0, none⟩) (P.length + 1) cap] y4 (GivesV y4 (besideV N (P ++ [clsT])))) := Lib.hid (by have h := beside_any po _ N (P ++ [clsT]) pc cap y4 HS1.out HMS.out hmn hmo.out; rw [← hm2] at h; exact h)
        clear h1 h2 hB6 hms hm2 D3
        clear hHeld
        refine hK.out _ _ ?_ (fun hHeld => ?_)
        · (try dsimp only)
          first | exact SK.out _ D0 | exact SK.out _ D1 | exact SK.out _ D2 | exact SK.out _ D3 | exact SK.out _ D4 | exact SK.out _ D9 | exact SK.out _ (by assumption)
        clear hK K
        (try simp only [Act.put, List.setIfInBounds_toArray, List.set_cons_zero, List.set_cons_succ])
        refine wpAnyH_ready (rs := [6]) (by kernel_rfl) (by simp) ?_
        refine AllReadyH.cons (o := { dst := some 24, op := Op.call { callee := Callee.value (Operand.func 158), args := #[Operand.tmp 19, Operand.tmp 23], argTypes := #[79, 79] }, type := 79, pos := "l05_schema.go:157", after := #[{ on := 1, ground := Ground.data }, { on := 5, ground := Ground.data }, { on := 5, ground := Ground.chain }], guard := none }) rfl (fun K hK => ?_) (AllReadyH.nil)
        go_simp
        refine CB.out.mono ?_
        rintro e y5 ⟨⟨v, rfl, hown⟩, hb⟩
        obtain ⟨so, sc, hv, hss⟩ := own_slv hown
        subst hv
        have D9 : Below w2.heap.size w2 y5 := D4.trans (hb.mono D4.size)
        clear hown hb D4
        clear hHeld
        refine hK.out _ _ ?_ (fun hHeld => ?_)
        · (try dsimp only)
          first | exact SK.out _ D0 | exact SK.out _ D1 | exact SK.out _ D2 | exact SK.out _ D3 | exact SK.out _ D4 | exact SK.out _ D9 | exact SK.out _ (by assumption)
        clear hK K
        (try simp only [Act.put, List.setIfInBounds_toArray, List.set_cons_zero, List.set_cons_succ])
        refine wpAnyH_take (i := 7) (oi := { dst := some 6, op := Op.assign (Operand.tmp 24), type := 79, pos := "l05_schema.go:157", after := #[{ on := 6, ground := Ground.data }, { on := 6, ground := Ground.chain }, { on := 0, ground := Ground.phase }, { on := 1, ground := Ground.phase }, { on := 2, ground := Ground.phase }, { on := 3, ground := Ground.phase }, { on := 4, ground := Ground.phase }, { on := 5, ground := Ground.phase }, { on := 6, ground := Ground.phase }], guard := none }) (v := ?_) rfl (by kernel_rfl) (by kernel_rfl) (by kernel_rfl) (fun _ _ _ h => h) (Or.inl ⟨by rfl, ?_⟩) (by assumption) ?_
        rotate_left
        · intro w hSw; (try dsimp only at hSw); go_simp; (try with_reducible rfl)
        (try simp only [Act.put, List.setIfInBounds_toArray, List.set_cons_zero, List.set_cons_succ])
        refine wpAnyH_done (by kernel_rfl) ?_ _
        refine ⟨.agg #[.slice ao d.length ca, .slice bo l.length cb], .slice po N.length pc, .agg #[.string c.nm, .slice o1 n1 k1, .slice o2 n2 k2, .slice o3 n3 k3], .slice pu nu cu, .slice (some ⟨y1.heap.size, 0, none⟩) 1 1, .slice (some ⟨g, 0, none⟩) (P.length + 1) cap, so, sc, ?_, D9, hss⟩
        first | rfl | (simp only [Act.put, List.setIfInBounds_toArray, List.set_cons_zero, List.set_cons_succ]; done) | (simp only [Act.put, List.setIfInBounds_toArray, List.set_cons_zero, List.set_cons_succ]; rfl)
    · go_simp
      obtain ⟨y1, hz1⟩ : ∃ Y, Y = y0.alloc (.cells #[.string clsT] 9) := ⟨_, rfl⟩
      have QZ : Below y0.heap.size y0 y1 := by rw [hz1]; exact more' (Below.refl _ _) _
      have D1 : Below w2.heap.size w2 y1 := D0.trans (QZ.mono D0.size)
      have HA : Hid (Blk y1 y0.heap.size [.string clsT]) := Lib.hid (by rw [hz1]; exact Blk.new _ _ _)
      try rw [← clsT]
      first | rw [← hz1] | (change K _ (y0.alloc (.cells #[.string clsT] 9)); rw [← hz1]) | skip
      clear hz1 QZ D0
      clear hHeld
      refine hK.out _ _ ?_ (fun hHeld => ?_)
      · (try dsimp only)
        first | exact SK.out _ D0 | exact SK.out _ D1 | exact SK.out _ D2 | exact SK.out _ D3 | exact SK.out _ D4 | exact SK.out _ D9 | exact SK.out _ (by assumption)
      clear hK K
      (try simp only [Act.put, List.setIfInBounds_toArray, List.set_cons_zero, List.set_cons_succ])
      refine wpAnyH_ready (rs := [1]) (by kernel_rfl) (by simp) ?_
      refine AllReadyH.cons (o := { dst := some 19, op := Op.call { callee := Callee.value (Operand.func 159), args := #[Operand.tmp 18], argTypes := #[35] }, type := 79, pos := "l05_schema.go:157", after := #[{ on := 0, ground := Ground.data }], guard := none }) rfl (fun K hK => ?_) (AllReadyH.nil)
      go_simp
      refine (CN.out y1 (B2.out.trans (D1.mono B2.out.size))).mono ?_
      rintro e y2 ⟨⟨v, rfl, hown⟩, hb⟩
      obtain ⟨po, pc, hv, hs1⟩ := own_slv hown
      subst hv
      have D2 : Below w2.heap.size w2 y2 := D1.trans (hb.mono D1.size)
      have HN := Lib.hid hs1
      replace HA := Lib.hid (HA.out.below hb)
      clear hown hs1 hb D1
      clear hHeld
      refine hK.out _ _ ?_ (fun hHeld => ?_)
      · (try dsimp only)
        first | exact SK.out _ D0 | exact SK.out _ D1 | exact SK.out _ D2 | exact SK.out _ D3 | exact SK.out _ D4 | exact SK.out _ D9 | exact SK.out _ (by assumption)
      clear hK K
      (try simp only [Act.put, List.setIfInBounds_toArray, List.set_cons_zero, List.set_cons_succ])
      refine wpAnyH_ready (rs := [3]) (by kernel_rfl) (by simp) ?_
      refine AllReadyH.cons (o := { dst := some 21, op := Op.call { callee := Callee.value (Operand.func 160), args := #[Operand.tmp 20], argTypes := #[85] }, type := 79, pos := "l05_schema.go:157", after := #[{ on := 2, ground := Ground.data }, { on := 1, ground := Ground.chain }], guard := none }) rfl (fun K hK => ?_) (AllReadyH.nil)
      go_simp
      refine (CP.out y2 (B2.out.trans (D2.mono B2.out.size))).mono ?_
      rintro e y3 ⟨⟨v, rfl, hown⟩, hb⟩
      obtain ⟨pu, nu, cu, rfl⟩ := own_slice3' hown
      have D3 : Below w2.heap.size w2 y3 := D2.trans (hb.mono D2.size)
      have HO := Lib.hid hown; have HBz := Lib.hid hb
      replace HA := Lib.hid (HA.out.below hb)
      have hzz := D2.size
      clear hown hb D2
      clear hHeld
      refine hK.out _ _ ?_ (fun hHeld => ?_)
      · (try dsimp only)
        first | exact SK.out _ D0 | exact SK.out _ D1 | exact SK.out _ D2 | exact SK.out _ D3 | exact SK.out _ D4 | exact SK.out _ D9 | exact SK.out _ (by assumption)
      clear hK K
      (try simp only [Act.put, List.setIfInBounds_toArray, List.set_cons_zero, List.set_cons_succ])
      refine wpAnyH_ready (rs := [5]) (by kernel_rfl) (by simp) ?_
      refine AllReadyH.cons (o := { dst := some 23, op := Op.call { callee := Callee.builtin Builtin.append, args := #[Operand.tmp 21, Operand.tmp 22], argTypes := #[79, 79] }, type := 79, pos := "l05_schema.go:157", after := #[{ on := 3, ground := Ground.data }, { on := 4, ground := Ground.data }, { on := 3, ground := Ground.chain }], guard := none }) rfl (fun K hK => ?_) (AllReadyH.nil)
      refine step_blk y2.heap.size rfl _ _ rfl _ P rfl HO.out _ clsT HA.out rfl hmm.out HBz.out.size ?_
      intro g cap y4 h1 h2
      have D4 : Below w2.heap.size w2 y4 := D3.grown h2 D3.size (fun r hr => Nat.le_trans hzz (HO.out.lt r hr).1)
      have hB6 := HBz.out.grown h2 HBz.out.size (fun r hr => (HO.out.lt r hr).1)
      have HS1 := Lib.hid (HN.out.below hB6)
      obtain ⟨mo, mc, hmv, hms⟩ := own_slv h1
      have HMS := Lib.hid hms
      injection hmv with hm1 hm2 hm3
      subst hm1 hm3
      have CB : Hid (Calls Tryz.prog 158 #[.slice po N.length pc, .slice (some ⟨g, 0, none⟩) (P.length + 1) cap] y4 (GivesV y4 (besideV N (P ++ [clsT])))) := Lib.hid (by have h := beside_any po _ N (P ++ [clsT]) pc cap y4 HS1.out HMS.out hmn hmo.out; rw [← hm2] at h; exact h)
      clear h1 h2 hB6 hms hm2 D3
      clear hHeld
      refine hK.out _ _ ?_ (fun hHeld => ?_)
      · (try dsimp only)
        first | exact SK.out _ D0 | exact SK.out _ D1 | exact SK.out _ D2 | exact SK.out _ D3 | exact SK.out _ D4 | exact SK.out _ D9 | exact SK.out _ (by assumption)
      clear hK K
      (try simp only [Act.put, List.setIfInBounds_toArray, List.set_cons_zero, List.set_cons_succ])
      refine wpAnyH_ready (rs := [6]) (by kernel_rfl) (by simp) ?_
      refine AllReadyH.cons (o := { dst := some 24, op := Op.call { callee := Callee.value (Operand.func 158), args := #[Operand.tmp 19, Operand.tmp 23], argTypes := #[79, 79] }, type := 79, pos := "l05_schema.go:157", after := #[{ on := 1, ground := Ground.data }, { on := 5, ground := Ground.data }, { on := 5, ground := Ground.chain }], guard := none }) rfl (fun K hK => ?_) (AllReadyH.nil)
      go_simp
      refine CB.out.mono ?_
      rintro e y5 ⟨⟨v, rfl, hown⟩, hb⟩
      obtain ⟨so, sc, hv, hss⟩ := own_slv hown
      subst hv
      have D9 : Below w2.heap.size w2 y5 := D4.trans (hb.mono D4.size)
      clear hown hb D4
      clear hHeld
      refine hK.out _ _ ?_ (fun hHeld => ?_)
      · (try dsimp only)
        first | exact SK.out _ D0 | exact SK.out _ D1 | exact SK.out _ D2 | exact SK.out _ D3 | exact SK.out _ D4 | exact SK.out _ D9 | exact SK.out _ (by assumption)
      clear hK K
      (try simp only [Act.put, List.setIfInBounds_toArray, List.set_cons_zero, List.set_cons_succ])
      refine wpAnyH_take (i := 7) (oi := { dst := some 6, op := Op.assign (Operand.tmp 24), type := 79, pos := "l05_schema.go:157", after := #[{ on := 6, ground := Ground.data }, { on := 6, ground := Ground.chain }, { on := 0, ground := Ground.phase }, { on := 1, ground := Ground.phase }, { on := 2, ground := Ground.phase }, { on := 3, ground := Ground.phase }, { on := 4, ground := Ground.phase }, { on := 5, ground := Ground.phase }, { on := 6, ground := Ground.phase }], guard := none }) (v := ?_) rfl (by kernel_rfl) (by kernel_rfl) (by kernel_rfl) (fun _ _ _ h => h) (Or.inl ⟨by rfl, ?_⟩) (by assumption) ?_
      rotate_left
      · intro w hSw; (try dsimp only at hSw); go_simp; (try with_reducible rfl)
      (try simp only [Act.put, List.setIfInBounds_toArray, List.set_cons_zero, List.set_cons_succ])
      refine wpAnyH_done (by kernel_rfl) ?_ _
      refine ⟨.agg #[.slice ao d.length ca, .slice bo l.length cb], .slice po N.length pc, .agg #[.string c.nm, .slice o1 n1 k1, .slice o2 n2 k2, .slice o3 n3 k3], .slice pu nu cu, .slice (some ⟨y0.heap.size, 0, none⟩) 1 1, .slice (some ⟨g, 0, none⟩) (P.length + 1) cap, so, sc, ?_, D9, hss⟩
      first | rfl | (simp only [Act.put, List.setIfInBounds_toArray, List.set_cons_zero, List.set_cons_succ]; done) | (simp only [Act.put, List.setIfInBounds_toArray, List.set_cons_zero, List.set_cons_succ]; rfl)
  clear SK
  rintro a2 w9 ⟨t18, t19, t20, t21, t22, t23, so, sc, rfl, hb, hss⟩
  try simp only [Act.put, List.setIfInBounds_toArray, List.set_cons_zero, List.set_cons_succ]
  have B9 := Lib.hid (B2.out.trans (hb.mono B2.out.size))
  have HSS := Lib.hid hss
  have HB2 : Hid (namesOk c l = (besideV N (P ++ [clsT])).isEmpty) := Lib.hid (by rw [HB.out, HST.out]; rfl)
  clear hb hss HB HST hmo hmn hmm CN CP E2 Q2 cz0 cz1
  generalize besideV N (P ++ [clsT]) = V at *
  rcases V with _ | ⟨x, V⟩
  · have HE : Hid (namesOk c l = true) := Lib.hid (by rw [HB2.out]; rfl)
    rw [show ([] : List ByteArray).length = 0 from rfl]
    go_wp2_with fail
    go_ret
    rw [HE.out]
    exact ⟨B9.out, rfl⟩
  · have HE : Hid (namesOk c l = false) := Lib.hid (by rw [HB2.out]; rfl)
    obtain ⟨p, off, rfl, hp2, hcx⟩ : ∃ p off, so = some ⟨p, off, none⟩ ∧ p < w9.heap.size ∧ w9.cell? ⟨p, off, none⟩ = some (.string x) := by
      rcases HSS.out with h | ⟨b, o, e, hb, hc⟩
      · cases h
      · exact ⟨b, o, e, hb, hc 0 (Nat.succ_pos _)⟩
    have hlV : (x :: V).length = V.length + 1 := rfl
    rw [hlV]
    have g1 : (0 : Int) < ((V.length + 1 : Nat) : Int) := by omega
    go_wp2_with fail
    go_ret
    rw [HE.out]
    exact ⟨B9.out, x, _, rfl⟩
end Go.Proofs.YtohcdpoffpnfhaaGreatDoor
/- HasValue: what the program returns. -/
namespace Go.Proofs.YtohcdpoffpnfhaaGreatDoor
open Go.RowKit
attribute [local go_sem ↓] Go.wp_at_zero Go.wp_at_succ

set_option maxRecDepth 100000 in
set_option maxHeartbeats 1000000 in
theorem HasValue_any (ao bo : Option Addr) (d : RdnL) (l : List AttrV) (ca cb : Nat) (nm val : ByteArray) (w : World) (hd : DnAt w ao d) (hl : AttrsAt w bo l) (hfd : Fits d) (hfl : FitsA l) (hn : nm.size ≤ maxLen) (hv : val.size ≤ maxLen) :
    Calls Tryz.prog 162 #[.agg #[.slice ao d.length ca, .slice bo l.length cb], .string nm, .string val] w fun e w' => e = .returned (.bool (hasB d l nm val)) ∧ Below w.heap.size w w' := by
  have HD := Lib.hid hd; have HL := Lib.hid hl; have FD := Lib.hid hfd; have FL := Lib.hid hfl; clear hd hl hfd hfl
  have HE : Hid (hasB d l nm val = decide (0 ≤ findI (likeV val) (attrOfL d l nm))) := Lib.hid rfl
  go_enter Tryz.func162, Tryz.ntmps162
  go_wp2_with fail
  have hB1 := more' (Below.refl w.heap.size w) (.cells #[.slice ao d.length ca, .slice bo l.length cb] 35)
  refine (AttrOf_any ao bo d l ca cb nm _ (HD.out.below hB1) (HL.out.below hB1) FD.out FL.out hn).mono ?_
  rintro e w1 ⟨⟨v1, rfl, hown⟩, hb1⟩
  have FV := Lib.hid (attrOf_fits (d := d) FL.out nm)
  have B1 := Lib.hid (hB1.trans (hb1.mono hB1.size))
  obtain ⟨vo, vc, rfl⟩ := own_slice hown
  have HS := Lib.hid (own_strs hown).1
  clear hown hb1 hB1
  generalize attrOfL d l nm = V at *
  go_wp2_with fail
  refine (normIndex_any vo V vc val w1 HS.out FV.out hv).mono ?_
  rintro e w2 ⟨rfl, hb2⟩
  generalize findI (likeV val) V = r at *
  by_cases h0 : 0 ≤ r
  · go_wp2
    go_ret
    exact ⟨ret_bool (by rw [HE.out]; first | done | simpa using h0), B1.out.trans (hb2.mono B1.out.size)⟩
  · have h1 : r < 0 := by omega
    go_wp2
    go_ret
    exact ⟨ret_bool (by rw [HE.out]; first | done | simpa using h1), B1.out.trans (hb2.mono B1.out.size)⟩
end Go.Proofs.YtohcdpoffpnfhaaGreatDoor
/- Check: the values of an entry. -/
namespace Go.Proofs.YtohcdpoffpnfhaaGreatDoor
open Go.RowKit
attribute [local go_sem ↓] Go.wp_at_zero Go.wp_at_succ

noncomputable def headB (d : RdnL) (l : List AttrV) : Bool := match d with | r :: _ => hasB d l r.1 r.2 | [] => true
/-- what checkValues looks at -/
noncomputable def valuesOk (c : ClassV) (d : RdnL) (l : List AttrV) : Bool := (l.all fun a => !(decide (1 < a.2.length) && hasS c.one a.1)) && headB d l
def oneB (c : ClassV) (a : AttrV) : Bool := !(decide (1 < a.2.length) && hasS c.one a.1)
theorem allV_take {l : List AttrV} {P : AttrV → Bool} {k : Nat} (hk : k < l.length) (h : (l.take k).all P = true) (hx : P l[k] = true) : (l.take (k + 1)).all P = true := by
  rw [List.take_succ_eq_append_getElem hk, List.all_append, h]; simp [hx]
theorem allV_not {l : List AttrV} {P : AttrV → Bool} {k : Nat} (hk : k < l.length) (hx : P l[k] = false) : l.all P = false := by
  rw [Bool.eq_false_iff]; intro h
  rw [List.all_eq_true] at h
  have := h _ (List.getElem_mem hk)
  rw [hx] at this; cases this
set_option maxRecDepth 100000 in
set_option maxHeartbeats 4000000 in
theorem checkValues_any (c : ClassV) (v1 v2 v3 : Value) (d : RdnL) (ao bo : Option Addr) (l : List AttrV) (ca cb : Nat) (w : World) (h1 : IsSl v1) (h2 : IsSl v2) (h3 : SlV w v3 c.one) (f3 : FitsV c.one) (hd : DnAt w ao d) (hl : AttrsAt w bo l) (hfd : Fits d) (hfl : FitsA l) (hd0 : 0 < d.length) :
    Calls Tryz.prog 113 #[.agg #[.string c.nm, v1, v2, v3], .agg #[.slice ao d.length ca, .slice bo l.length cb]] w (GivesErr w (valuesOk c d l)) := by
  obtain ⟨o1, n1, k1, rfl⟩ := h1
  obtain ⟨o2, n2, k2, rfl⟩ := h2
  obtain ⟨o3, k3, rfl, hms⟩ := h3
  have HMs := Lib.hid hms.1
  have HL := Lib.hid hl; have HD := Lib.hid hd
  have CH : Hid (∀ (W : World) (nm val : ByteArray), Below w.heap.size w W → nm.size ≤ maxLen → val.size ≤ maxLen → Calls Tryz.prog 162 #[.agg #[.slice ao d.length ca, .slice bo l.length cb], .string nm, .string val] W fun e w' => e = .returned (.bool (hasB d l nm val)) ∧ Below W.heap.size W w') := Lib.hid (fun W nm val b p q => HasValue_any ao bo d l ca cb nm val W (hd.below b) (hl.below b) hfd hfl p q)
  have hll := hfl.1
  clear hms hl hd
  go_enter Tryz.func113, Tryz.ntmps113
  have HB : Hid (valuesOk c d l = (l.all (oneB c) && headB d l)) := Lib.hid rfl
  have CC : Hid (∀ (W : World) (x : ByteArray), Below w.heap.size w W → Calls Tryz.prog 161 #[.slice o3 c.one.length k3, .string x] W fun e w' => e = .returned (.bool (hasS c.one x)) ∧ w' = W) := Lib.hid (fun W x b => contains_any o3 c.one k3 x W (HMs.out.below b) (by have := f3.1; omega))
  have FL := Lib.hid hfl; have FD := Lib.hid hfd
  clear f3 hfl hfd
  go_wp2_with fail
  go_loopw [10] (fun i wr => ∃ k : Nat, k ≤ l.length ∧ i = .int .i64 k ∧ (l.take k).all (oneB c) = true ∧ Below w.heap.size w wr ∧ Blk wr w.heap.size [.string c.nm, .slice o1 n1 k1, .slice o2 n2 k2, .slice o3 c.one.length k3] ∧ Blk wr (w.heap.size + 1) [.slice ao d.length ca, .slice bo l.length cb]) (fun i _ => l.length - (intOf i).toNat)
  case atStart => exact ⟨0, Nat.zero_le _, rfl, rfl, more' (more' (Below.refl _ _) _) _, (Blk.new _ _ _).below (more' (Below.refl _ _) _), Blk.new1 _ _ _ _⟩
  case round =>
    obtain ⟨k, hk, rfl, hall, hbel, hbc, hbe⟩ := hrel
    have HA := Lib.hid hall; have HBC := Lib.hid hbc; have HBE := Lib.hid hbe
    clear hall hbc hbe
    by_cases hlt : k < l.length
    · obtain ⟨p, off, vo, vc, rfl, hp0, hd1, hd2, hv⟩ := HL.out.at hlt
      have c1 := (hbel.cell (p := ⟨p, off + k * 2, none⟩) hp0).trans hd1
      have c2 := (hbel.cell (p := ⟨p, off + k * 2 + 1, none⟩) hp0).trans hd2
      have HOY : Hid (oneB c l[k] = true → (l.take (k + 1)).all (oneB c) = true) := Lib.hid (fun h => allV_take hlt HA.out h)
      have HON : Hid (oneB c l[k] = false → valuesOk c d l = false) := Lib.hid (fun h => by rw [HB.out, allV_not hlt h]; rfl)
      have HDf : Hid (oneB c l[k] = !(decide (1 < l[k].2.length) && hasS c.one l[k].1)) := Lib.hid rfl
      have g1 : (0 : Int) ≤ (k : Int) := by omega
      have g2 : (k : Int) < (l.length : Int) := by omega
      clear hd1 hd2 hv HA
      generalize oneB c l[k] = r at *
      generalize l[k].1 = A at *
      generalize l[k].2 = V at *
      have HBC2 := HBC.out.alloc (.cells #[.string A, .slice vo V.length vc] 141)
      have m3 := HBC2.cell 3 rfl
      by_cases hbig : 1 < V.length
      · have hbig' : (1 : Int) < (V.length : Int) := by omega
        have C1 := Lib.hid (CC.out (wr.alloc (.cells #[.string A, .slice vo V.length vc] 141)) A (more' hbel _))
        have HDg : Hid (r = !(hasS c.one A)) := Lib.hid (by rw [HDf.out]; simp [hbig])
        clear HDf HBC2
        generalize hasS c.one A = q at *
        go_wp2_with fail
        refine C1.out.mono ?_
        rintro e w5 ⟨rfl, rfl⟩
        cases q
        · have HY := Lib.hid (HOY.out HDg.out)
          go_wp2
          go_roundw
          case rel => exact ⟨k + 1, by omega, by go_num, HY.out, more' hbel _, HBC.out.alloc _, HBE.out.alloc _⟩
          case measure => simp [intOf]; omega
        · have HN := Lib.hid (HON.out HDg.out)
          go_wp2
          go_ret
          rw [HN.out]
          exact ⟨more' hbel _, _, _, rfl⟩
      · have hbig' : ¬ (1 : Int) < (V.length : Int) := by omega
        have HY := Lib.hid (HOY.out (by rw [HDf.out]; simp [hbig]))
        go_wp2
        go_roundw
        case rel => exact ⟨k + 1, by omega, by go_num, HY.out, more' hbel _, HBC.out.alloc _, HBE.out.alloc _⟩
        case measure => simp [intOf]; omega
    · obtain rfl : k = l.length := by omega
      rcases d with _ | ⟨r, d⟩
      · exact absurd hd0 (Nat.lt_irrefl 0)
      have HR : Hid (valuesOk c (r :: d) l = hasB (r :: d) l r.1 r.2) := Lib.hid (by have h := HA.out; rw [List.take_length] at h; rw [HB.out, h]; rfl)
      obtain ⟨p, off, rfl, hp, hq⟩ : ∃ p off, ao = some ⟨p, off, none⟩ ∧ p < w.heap.size ∧ (w.cell? ⟨p, off, none⟩ = some (.string r.1) ∧ w.cell? ⟨p, off + 1, none⟩ = some (.string r.2)) := by
        rcases HD.out with h | ⟨b, o, e, hb, hc⟩
        · cases h
        · have h := hc 0 (Nat.succ_pos _)
          rw [Nat.zero_mul, Nat.add_zero] at h
          exact ⟨b, o, e, hb, h⟩
      have c1 := (hbel.cell (p := ⟨p, off, none⟩) hp).trans hq.1
      have c2 := (hbel.cell (p := ⟨p, off + 1, none⟩) hp).trans hq.2
      have z1 : r.1.size ≤ maxLen := by have := (FD.out.2 r (List.mem_cons_self ..)).1; unfold maxLen; omega
      have z2 : r.2.size ≤ maxLen := by have := (FD.out.2 r (List.mem_cons_self ..)).2; unfold maxLen; omega
      have e0 := HBE.out.cell 0 rfl; have e1 := HBE.out.cell 1 rfl
      have g1 : (0 : Int) < ((r :: d).length : Int) := by rw [List.length_cons]; omega
      go_wp2_with fail
      have SK : Hid (∀ Z' : World, Below wr.heap.size wr Z' → Z'.cell? ⟨w.heap.size + 1, 0, none⟩ = some (.slice (some ⟨p, off, none⟩) (r :: d).length ca) ∧ Z'.cell? ⟨w.heap.size + 1, 1, none⟩ = some (.slice bo l.length cb) ∧ Z'.cell? ⟨p, off, none⟩ = some (.string r.1) ∧ Z'.cell? ⟨p, off + 1, none⟩ = some (.string r.2)) := Lib.hid (fun Z' h => ⟨(HBE.out.below h).cell 0 rfl, (HBE.out.below h).cell 1 rfl, (h.cell (p := ⟨p, off, none⟩) (Nat.lt_of_lt_of_le hp hbel.size)).trans c1, (h.cell (p := ⟨p, off + 1, none⟩) (Nat.lt_of_lt_of_le hp hbel.size)).trans c2⟩)
      have BD : Below wr.heap.size wr wr.drew := (Below.refl _ _).drew
      refine wp_region_held_drew (S := (fun Z' => Z'.cell? ⟨w.heap.size + 1, 0, none⟩ = some (.slice (some ⟨p, off, none⟩) (r :: d).length ca) ∧ Z'.cell? ⟨w.heap.size + 1, 1, none⟩ = some (.slice bo l.length cb) ∧ Z'.cell? ⟨p, off, none⟩ = some (.string r.1) ∧ Z'.cell? ⟨p, off + 1, none⟩ = some (.string r.2))) (by kernel_rfl) ?_ (fun hHeld => ?_)
      · (try dsimp only)
        first | exact SK.out _ (by assumption) | exact SK.out _ BD | exact SK.out _ (more' (by assumption) _) | exact SK.out _ (more' BD _)
      refine wpAnyH_take (i := 0) (oi := { dst := some 30, op := Op.load 35 (Operand.tmp 3), type := 35, pos := "l05_schema.go:169", after := #[], guard := none }) (v := ?_) rfl (by kernel_rfl) (by kernel_rfl) (by kernel_rfl) (fun _ _ _ h => h) (Or.inl ⟨by rfl, ?_⟩) (by assumption) ?_
      rotate_left
      · intro w hSw; (try dsimp only at hSw); go_simp; (try with_reducible rfl)
      (try simp only [Act.put, List.setIfInBounds_toArray, List.set_cons_zero, List.set_cons_succ])
      refine wpAnyH_take (i := 1) (oi := { dst := some 31, op := Op.fieldAddr 35 (Operand.tmp 3) 0, type := 0, pos := "l05_schema.go:169", after := #[], guard := none }) (v := ?_) rfl (by kernel_rfl) (by kernel_rfl) (by kernel_rfl) (fun _ _ _ h => h) (Or.inl ⟨by rfl, ?_⟩) (by assumption) ?_
      rotate_left
      · intro w hSw; (try dsimp only at hSw); go_simp; (try with_reducible rfl)
      (try simp only [Act.put, List.setIfInBounds_toArray, List.set_cons_zero, List.set_cons_succ])
      refine wpAnyH_take (i := 2) (oi := { dst := some 32, op := Op.load 32 (Operand.tmp 31), type := 32, pos := "l05_schema.go:169", after := #[{ on := 1, ground := Ground.data }], guard := none }) (v := ?_) rfl (by kernel_rfl) (by kernel_rfl) (by kernel_rfl) (fun _ _ _ h => h) (Or.inl ⟨by rfl, ?_⟩) (by assumption) ?_
      rotate_left
      · intro w hSw; (try dsimp only at hSw); go_simp; (try with_reducible rfl)
      (try simp only [Act.put, List.setIfInBounds_toArray, List.set_cons_zero, List.set_cons_succ])
      refine wpAnyH_take (i := 3) (oi := { dst := some 33, op := Op.indexAddr 32 (Operand.tmp 32) (Operand.const (Value.int IntKind.i64 0)), type := 0, pos := "l05_schema.go:169", after := #[{ on := 2, ground := Ground.data }], guard := none }) (v := ?_) rfl (by kernel_rfl) (by kernel_rfl) (by kernel_rfl) (fun _ _ _ h => h) (Or.inl ⟨by rfl, ?_⟩) (by assumption) ?_
      rotate_left
      · intro w hSw; (try dsimp only at hSw); go_simp; (try with_reducible rfl)
      (try simp only [Act.put, List.setIfInBounds_toArray, List.set_cons_zero, List.set_cons_succ])
      refine wpAnyH_take (i := 4) (oi := { dst := some 34, op := Op.fieldAddr 108 (Operand.tmp 33) 0, type := 0, pos := "l05_schema.go:169", after := #[{ on := 3, ground := Ground.data }], guard := none }) (v := ?_) rfl (by kernel_rfl) (by kernel_rfl) (by kernel_rfl) (fun _ _ _ h => h) (Or.inl ⟨by rfl, ?_⟩) (by assumption) ?_
      rotate_left
      · intro w hSw; (try dsimp only at hSw); go_simp; (try with_reducible rfl)
      (try simp only [Act.put, List.setIfInBounds_toArray, List.set_cons_zero, List.set_cons_succ])
      refine wpAnyH_take (i := 5) (oi := { dst := some 35, op := Op.load 9 (Operand.tmp 34), type := 9, pos := "l05_schema.go:169", after := #[{ on := 4, ground := Ground.data }], guard := none }) (v := ?_) rfl (by kernel_rfl) (by kernel_rfl) (by kernel_rfl) (fun _ _ _ h => h) (Or.inl ⟨by rfl, ?_⟩) (by assumption) ?_
      rotate_left
      · intro w hSw; (try dsimp only at hSw); go_simp; (try with_reducible rfl)
      (try simp only [Act.put, List.setIfInBounds_toArray, List.set_cons_zero, List.set_cons_succ])
      refine wpAnyH_take (i := 6) (oi := { dst := some 36, op := Op.fieldAddr 35 (Operand.tmp 3) 0, type := 0, pos := "l05_schema.go:169", after := #[], guard := none }) (v := ?_) rfl (by kernel_rfl) (by kernel_rfl) (by kernel_rfl) (fun _ _ _ h => h) (Or.inl ⟨by rfl, ?_⟩) (by assumption) ?_
      rotate_left
      · intro w hSw; (try dsimp only at hSw); go_simp; (try with_reducible rfl)
      (try simp only [Act.put, List.setIfInBounds_toArray, List.set_cons_zero, List.set_cons_succ])
      refine wpAnyH_take (i := 7) (oi := { dst := some 37, op := Op.load 32 (Operand.tmp 36), type := 32, pos := "l05_schema.go:169", after := #[{ on := 6, ground := Ground.data }], guard := none }) (v := ?_) rfl (by kernel_rfl) (by kernel_rfl) (by kernel_rfl) (fun _ _ _ h => h) (Or.inl ⟨by rfl, ?_⟩) (by assumption) ?_
      rotate_left
      · intro w hSw; (try dsimp only at hSw); go_simp; (try with_reducible rfl)
      (try simp only [Act.put, List.setIfInBounds_toArray, List.set_cons_zero, List.set_cons_succ])
      refine wpAnyH_take (i := 8) (oi := { dst := some 38, op := Op.indexAddr 32 (Operand.tmp 37) (Operand.const (Value.int IntKind.i64 0)), type := 0, pos := "l05_schema.go:169", after := #[{ on := 7, ground := Ground.data }], guard := none }) (v := ?_) rfl (by kernel_rfl) (by kernel_rfl) (by kernel_rfl) (fun _ _ _ h => h) (Or.inl ⟨by rfl, ?_⟩) (by assumption) ?_
      rotate_left
      · intro w hSw; (try dsimp only at hSw); go_simp; (try with_reducible rfl)
      (try simp only [Act.put, List.setIfInBounds_toArray, List.set_cons_zero, List.set_cons_succ])
      refine wpAnyH_take (i := 9) (oi := { dst := some 39, op := Op.fieldAddr 108 (Operand.tmp 38) 1, type := 0, pos := "l05_schema.go:169", after := #[{ on := 8, ground := Ground.data }], guard := none }) (v := ?_) rfl (by kernel_rfl) (by kernel_rfl) (by kernel_rfl) (fun _ _ _ h => h) (Or.inl ⟨by rfl, ?_⟩) (by assumption) ?_
      rotate_left
      · intro w hSw; (try dsimp only at hSw); go_simp; (try with_reducible rfl)
      (try simp only [Act.put, List.setIfInBounds_toArray, List.set_cons_zero, List.set_cons_succ])
      refine wpAnyH_take (i := 10) (oi := { dst := some 40, op := Op.load 9 (Operand.tmp 39), type := 9, pos := "l05_schema.go:169", after := #[{ on := 9, ground := Ground.data }], guard := none }) (v := ?_) rfl (by kernel_rfl) (by kernel_rfl) (by kernel_rfl) (fun _ _ _ h => h) (Or.inl ⟨by rfl, ?_⟩) (by assumption) ?_
      rotate_left
      · intro w hSw; (try dsimp only at hSw); go_simp; (try with_reducible rfl)
      (try simp only [Act.put, List.setIfInBounds_toArray, List.set_cons_zero, List.set_cons_succ])
      refine wpAnyH_ready (rs := [11]) (by kernel_rfl) (by simp) ?_
      refine AllReadyH.cons (o := { dst := some 41, op := Op.call { callee := Callee.value (Operand.func 162), args := #[Operand.tmp 30, Operand.tmp 35, Operand.tmp 40], argTypes := #[35, 9, 9] }, type := 4, pos := "l05_schema.go:169", after := #[{ on := 0, ground := Ground.data }, { on := 5, ground := Ground.data }, { on := 10, ground := Ground.data }], guard := none }) rfl (fun K hK => ?_) (AllReadyH.nil)
      go_simp
      refine (CH.out _ r.1 r.2 (hbel.trans (BD.mono hbel.size)) z1 z2).mono ?_
      rintro e w5 ⟨rfl, hb⟩
      have D5 : Below wr.heap.size wr w5 := BD.trans (hb.mono BD.size)
      clear hb
      clear hHeld
      refine hK.out _ _ ?_ (fun hHeld => ?_)
      · (try dsimp only)
        first | exact SK.out _ (by assumption) | exact SK.out _ BD | exact SK.out _ (more' (by assumption) _) | exact SK.out _ (more' BD _)
      clear hK K
      (try simp only [Act.put, List.setIfInBounds_toArray, List.set_cons_zero, List.set_cons_succ])
      refine wpAnyH_take (i := 12) (oi := { dst := some 42, op := Op.unOp UnOp.not 4 (Operand.tmp 41), type := 4, pos := "l05_schema.go:169", after := #[{ on := 11, ground := Ground.data }], guard := none }) (v := ?_) rfl (by kernel_rfl) (by kernel_rfl) (by kernel_rfl) (fun _ _ _ h => h) (Or.inl ⟨by rfl, ?_⟩) (by assumption) ?_
      rotate_left
      · intro w hSw; (try dsimp only at hSw); go_simp; (try with_reducible rfl)
      (try simp only [Act.put, List.setIfInBounds_toArray, List.set_cons_zero, List.set_cons_succ])
      refine wpAnyH_done (by kernel_rfl) ?_ _
      clear SK
      have b5 := hbel.trans (D5.mono hbel.size)
      have E5 := Lib.hid (HBE.out.below D5)
      have x1 := (D5.cell (p := ⟨p, off, none⟩) (Nat.lt_of_lt_of_le hp hbel.size)).trans c1
      clear BD hHeld D5 c1 c2 e0 e1
      have e0 := E5.out.cell 0 rfl
      generalize hasB (r :: d) l r.1 r.2 = q at *
      cases q
      · go_wp2
        go_ret
        rw [HR.out]
        exact ⟨b5, _, _, rfl⟩
      · go_wp2
        go_ret
        rw [HR.out]
        exact ⟨b5, rfl⟩
end Go.Proofs.YtohcdpoffpnfhaaGreatDoor
/- Check: an entry is checked. -/
namespace Go.Proofs.YtohcdpoffpnfhaaGreatDoor
open Go.RowKit
attribute [local go_sem ↓] Go.wp_at_zero Go.wp_at_succ

/-- none: not right; false: it violates the schema; true: it does not -/
noncomputable def checkR (X : List ClassV) (d : RdnL) (l : List AttrV) : Option Bool := match mineR X d l with
  | none => none
  | some none => some false
  | some (some c) => some (namesOk c l && valuesOk c d l)
/-- what checkEntry returns -/
def GivesK (w : World) (m : Option Bool) (e : Ending) (w' : World) : Prop := Below w.heap.size w w' ∧ match m with
  | none => ∃ a, e = .returned (.iface 270 (.pointer (some a))) ∧ w.cell? ⟨0, 0, none⟩ = some (.iface 270 (.pointer (some a)))
  | some false => ∃ t1 t2, e = .returned (.iface 183 (.agg #[.string t1, .string t2]))
  | some true => e = .returned .nilIface
theorem mine_rights {X : List ClassV} {d : RdnL} {l : List AttrV} {c : ClassV} (h : mineR X d l = some (some c)) : rightB d l = true := by
  unfold mineR at h
  split at h
  · rename_i h1; exact h1.2
  · cases h
theorem right_pos {d : RdnL} {l : List AttrV} (h : rightB d l = true) : 0 < d.length := by
  unfold rightB at h
  simp only [Bool.and_eq_true, decide_eq_true_eq] at h
  exact h.1.2
set_option maxRecDepth 100000 in
set_option maxHeartbeats 4000000 in
theorem checkEntry_any {S1 S2 S3 : Bs} (so : Option Addr) (s : List ClassT) (cs : Nat) (ao bo : Option Addr) (d : RdnL) (l : List AttrV) (ca cb : Nat) (w : World) (hs : SlAt classE S1 w s (.slice so s.length cs)) (hd : SlAt rdnE S2 w d (.slice ao d.length ca)) (hl : SlAt attrE S3 w l (.slice bo l.length cb)) (hzs : s.length + szL classE s ≤ 1048576) (hzd : d.length + szL rdnE d ≤ 1048576) (hzl : l.length + szL attrE l ≤ 1048576) (hS : Sent w) :
    Calls Tryz.prog 53 #[.slice so s.length cs, .agg #[.slice ao d.length ca, .slice bo l.length cb]] w (GivesK w (checkR (s.map toCV) d l)) := by
  have HZ := Lib.hid hzs
  have HL := Lib.hid (attrs_of hl); have HD := Lib.hid (dn_of hd)
  have FL := Lib.hid (fits_attrs hzl); have FD := Lib.hid (fits_dn hzd)
  have CC : Hid (∀ W : World, Below w.heap.size w W → Calls Tryz.prog 111 #[.slice so s.length cs, .agg #[.slice ao d.length ca, .slice bo l.length cb]] W (GivesM W (mineR (s.map toCV) d l))) := Lib.hid (fun W b => classOfEntry_any so s cs ao bo d l ca cb W (hs.frame (Same.of_below' b)) (hd.frame (Same.of_below' b)) (hl.frame (Same.of_below' b)) hzs hzd hzl (hS.below b))
  obtain ⟨ga, hga⟩ := hS
  have HG := Lib.hid hga
  clear hs hd hl hzs hzd hzl hga
  have HR : Hid (checkR (s.map toCV) d l = match mineR (s.map toCV) d l with | none => none | some none => some false | some (some c) => some (namesOk c l && valuesOk c d l)) := Lib.hid rfl
  go_enter Tryz.func53, Tryz.ntmps53
  go_wp2_with fail
  refine calls_by (fun W => Below w.heap.size w W ∧ Blk W w.heap.size [.slice ao d.length ca, .slice bo l.length cb]) ⟨more' (Below.refl _ _) _, Blk.new _ _ _⟩ ?_
  rintro W1 ⟨b1, e1⟩
  refine (CC.out W1 b1).mono ?_
  rintro e w2 ⟨hb, hm⟩
  have B2 := Lib.hid (b1.trans (hb.mono b1.size)); have E2 := Lib.hid (e1.below hb)
  have HG1 : Hid (W1.cell? ⟨0, 0, none⟩ = some (.iface 270 (.pointer (some ga)))) := Lib.hid ((b1.cell (p := ⟨0, 0, none⟩) (World.block_lt_of_cell? _ _ HG.out)).trans HG.out)
  clear b1 e1 hb CC
  cases hM : mineR (s.map toCV) d l with
  | none =>
    rw [hM] at hm
    have HE : Hid (checkR (s.map toCV) d l = none) := Lib.hid (by rw [HR.out, hM])
    clear hM
    obtain ⟨a, rfl, ha⟩ := hm
    have hag : a = ga := by have := ha.symm.trans HG1.out; injection this with this; injection this with _ this; injection this with this; injection this
    subst hag
    clear ha
    go_wp2_with fail
    go_ret
    rw [HE.out]
    exact ⟨more' B2.out _, a, rfl, HG.out⟩
  | some m =>
    cases m with
    | none =>
      rw [hM] at hm
      have HE : Hid (checkR (s.map toCV) d l = some false) := Lib.hid (by rw [HR.out, hM])
      clear hM
      obtain ⟨t1, t2, rfl⟩ := hm
      go_wp2_with fail
      go_ret
      rw [HE.out]
      exact ⟨more' B2.out _, t1, t2, rfl⟩
    | some c =>
      rw [hM] at hm
      have HE : Hid (checkR (s.map toCV) d l = some (namesOk c l && valuesOk c d l)) := Lib.hid (by rw [HR.out, hM])
      have HF1 := Lib.hid ((fits_classes HZ.out).2 c (mine_in hM))
      have hd0 := right_pos (mine_rights hM)
      clear hM
      obtain ⟨v1, v2, v3, rfl, s1, s2, s3⟩ := hm
      obtain ⟨o1, n1, k1, rfl⟩ := s1.sl
      obtain ⟨o2, n2, k2, rfl⟩ := s2.sl
      obtain ⟨o3, n3, k3, rfl⟩ := s3.sl
      have CN : Hid (∀ W : World, Below w2.heap.size w2 W → Calls Tryz.prog 112 #[.agg #[.string c.nm, .slice o1 n1 k1, .slice o2 n2 k2, .slice o3 n3 k3], .agg #[.slice ao d.length ca, .slice bo l.length cb]] W (GivesErr W (namesOk c l))) := Lib.hid (fun W b => checkNames_any c _ _ _ d ao bo l ca cb W (s1.below b) (s2.below b) ⟨_, _, _, rfl⟩ HF1.out.must HF1.out.may (HL.out.below (B2.out.trans (b.mono B2.out.size))) FL.out)
      have CV : Hid (∀ W : World, Below w2.heap.size w2 W → Calls Tryz.prog 113 #[.agg #[.string c.nm, .slice o1 n1 k1, .slice o2 n2 k2, .slice o3 n3 k3], .agg #[.slice ao d.length ca, .slice bo l.length cb]] W (GivesErr W (valuesOk c d l))) := Lib.hid (fun W b => checkValues_any c _ _ _ d ao bo l ca cb W ⟨_, _, _, rfl⟩ ⟨_, _, _, rfl⟩ (s3.below b) HF1.out.one (HD.out.below (B2.out.trans (b.mono B2.out.size))) (HL.out.below (B2.out.trans (b.mono B2.out.size))) FD.out FL.out hd0)
      clear s1 s2 s3 hd0
      have E3 := E2.out.alloc (.cells #[.string c.nm, .slice o1 n1 k1, .slice o2 n2 k2, .slice o3 n3 k3] 85)
      have cz0 := E3.cell 0 rfl; have cz1 := E3.cell 1 rfl
      go_wp2_with fail
      refine calls_by (fun W => Below w2.heap.size w2 W ∧ Blk W w.heap.size [.slice ao d.length ca, .slice bo l.length cb] ∧ Blk W w2.heap.size [.string c.nm, .slice o1 n1 k1, .slice o2 n2 k2, .slice o3 n3 k3]) ⟨more' (Below.refl _ _) _, E3, Blk.new _ _ _⟩ ?_
      rintro W3 ⟨b3, e3, c3⟩
      refine (CN.out W3 b3).mono ?_
      rintro e w4 ⟨hb, hm⟩
      have b4 := b3.trans (hb.mono b3.size); have E4 := Lib.hid (e3.below hb); have C4 := Lib.hid (c3.below hb)
      clear b3 e3 c3 hb cz0 cz1 E3
      have B4 := Lib.hid (B2.out.trans (b4.mono B2.out.size))
      generalize namesOk c l = q at *
      cases q
      · have HE2 : Hid (checkR (s.map toCV) d l = some false) := Lib.hid HE.out
        obtain ⟨t1, t2, rfl⟩ := hm
        go_wp2_with fail
        go_ret
        rw [HE2.out]
        exact ⟨B4.out, t1, t2, rfl⟩
      · have HE2 : Hid (checkR (s.map toCV) d l = some (valuesOk c d l)) := Lib.hid HE.out
        obtain rfl := hm
        have cz0 := E4.out.cell 0 rfl; have cz1 := E4.out.cell 1 rfl
        have x0 := C4.out.cell 0 rfl; have x1 := C4.out.cell 1 rfl; have x2 := C4.out.cell 2 rfl; have x3 := C4.out.cell 3 rfl
        go_wp2_with fail
        refine (CV.out w4 b4).mono ?_
        rintro e w5 ⟨hb, hm⟩
        have B5 := Lib.hid (B4.out.trans (hb.mono B4.out.size))
        clear hb cz0 cz1 x0 x1 x2 x3
        generalize valuesOk c d l = q at *
        cases q
        · obtain ⟨t1, t2, rfl⟩ := hm
          go_wp2_with fail
          go_ret
          rw [HE2.out]
          exact ⟨B5.out, t1, t2, rfl⟩
        · obtain rfl := hm
          go_wp2_with fail
          go_ret
          rw [HE2.out]
          exact ⟨B5.out, rfl⟩
end Go.Proofs.YtohcdpoffpnfhaaGreatDoor
