/- Merged texts: ClsR2, EntA1, EntM2, EntA2, ClsR3, AclR, AclR2, QuadT, ClsB. -/
import Derived.Test.YtlgafmgohinkbaaM5
import Derived.Test.YtlgafmgohinkbaaM4
import Derived.Maps.OwnOps
import Derived.Maps.Views
import Derived.Laws.AppendOwnNone
import Derived.Test.YtlgafmgohinkbaaM3
import Derived.Test.YtlgafmgohinkbaaM1
/- SchemaRight: classes in order. -/
namespace Go.Proofs.Ytlgafmgohinkbaa
open Go.RowKit
attribute [local go_sem ↓] Go.wp_at_zero Go.wp_at_succ

def clsLt (x y : ClassV) : Bool := Op.bytesLess x.nm.toList y.nm.toList
def IsSl (v : Value) : Prop := ∃ o n c, v = .slice o n c
theorem SlV.sl {w : World} {v : Value} {l : List ByteArray} (h : SlV w v l) : IsSl v := by obtain ⟨vo, vc, rfl, _⟩ := h; exact ⟨_, _, _, rfl⟩
set_option maxHeartbeats 1000000 in
theorem compareClass_any (w0 : World) (x y : ClassV) (v1 v2 v3 u1 u2 u3 : Value) (w : World) (i1 : IsSl v1) (i2 : IsSl v2) (i3 : IsSl v3) (j1 : IsSl u1) (j2 : IsSl u2) (j3 : IsSl u3) (hBel : Below w0.heap.size w0 w) :
    Calls Try.prog 159 #[.agg #[.string x.nm, v1, v2, v3], .agg #[.string y.nm, u1, u2, u3]] w fun e w' => (∃ c : Int, e = .returned (.int .i64 c) ∧ decide (0 ≤ c) = !(clsLt x y)) ∧ Below w0.heap.size w0 w' := by
  obtain ⟨_, _, _, rfl⟩ := i1
  obtain ⟨_, _, _, rfl⟩ := i2
  obtain ⟨_, _, _, rfl⟩ := i3
  obtain ⟨_, _, _, rfl⟩ := j1
  obtain ⟨_, _, _, rfl⟩ := j2
  obtain ⟨_, _, _, rfl⟩ := j3
  have HC : Hid (decide (0 ≤ Lib.compareBytes x.nm.data.toList y.nm.data.toList) = !(clsLt x y)) := Lib.hid (by rw [compare_less]; unfold clsLt; rw [Lib.toList_data, Lib.toList_data])
  have HB := Lib.hid hBel; clear hBel
  generalize clsLt x y = r at *
  generalize x.nm = a at *
  generalize y.nm = b at *
  go_enter Try.func159, Try.ntmps159
  go_wp2_with (first
    | (go_at_call 79; refine (Try.strings_Compare _ _ _).mono ?_; rintro e w3 ⟨rfl, rfl⟩)
    | (fail "none"))
  go_ret
  exact ⟨⟨_, rfl, HC.out⟩, more (more HB.out _) _⟩
set_option maxRecDepth 100000 in
set_option maxHeartbeats 2000000 in
theorem incClass_any (ao : Option Addr) (l : List ClassV) (cap : Nat) (w : World) (hd : ClassesAt w ao l) (hl : l.length ≤ 1048576) :
    Calls Try.prog 158 #[.slice ao l.length cap, .func (.func 159) #[] #[]] w fun e w' => e = .returned (.bool (incB clsLt l)) ∧ Below w.heap.size w w' := by
  have HD := Lib.hid hd; clear hd
  go_enter Try.func158, Try.ntmps158
  go_wp2
  go_loopw [5] (fun i wr => ∃ m : Nat, m ≤ l.length ∧ i = .int .i64 ((m : Int) + 1) ∧ (∀ j (h : j + 1 < l.length), j < m → clsLt l[j] l[j + 1] = true) ∧ Below w.heap.size w wr) (fun i _ => l.length + 1 - (intOf i).toNat)
  case atStart => exact ⟨0, Nat.zero_le _, rfl, fun j _ h => absurd h (Nat.not_lt_zero _), Below.refl _ _⟩
  case round =>
    obtain ⟨m, hm, rfl, ha, hbel⟩ := hrel
    have Ha := Lib.hid ha; clear ha
    have hsz := hbel.size
    by_cases hlt : m + 1 < l.length
    · have hm0 : m < l.length := by omega
      obtain ⟨b, off, v1, v2, v3, rfl, hw0, hx⟩ := HD.out.at hm0
      obtain ⟨b', off', u1, u2, u3, e, _, hy⟩ := HD.out.at hlt
      cases e
      obtain ⟨d0, d1, d2, d3, s1, s2, s3⟩ := hx
      obtain ⟨e0, e1, e2, e3, t1, t2, t3⟩ := hy
      have g1 : (m : Int) + 1 < (l.length : Int) := by omega
      have g2 : (0 : Int) ≤ (m : Int) := by omega
      have g3 : (m : Int) < (l.length : Int) := by omega
      have g4 : (0 : Int) ≤ (m : Int) + 1 := by omega
      have HN : Hid (∀ j (h : j + 1 < l.length), j < m + 1 → clsLt l[m] l[m + 1] = true → clsLt l[j] l[j + 1] = true) := Lib.hid (fun j h hj hn => by
        by_cases e : j = m
        · subst e; exact hn
        · exact Ha.out j h (by omega))
      have HX : Hid (clsLt l[m] l[m + 1] = false → incB clsLt l = false) := Lib.hid (fun h => incB_no hlt h)
      generalize hx : l[m] = X at *
      generalize hy : l[m + 1] = Y at *
      clear hx hy
      have CC : Hid (∀ W : World, Below w.heap.size w W → Calls Try.prog 159 #[.agg #[.string X.nm, v1, v2, v3], .agg #[.string Y.nm, u1, u2, u3]] W fun e w' => (∃ c : Int, e = .returned (.int .i64 c) ∧ decide (0 ≤ c) = !(clsLt X Y)) ∧ Below w.heap.size w w') := Lib.hid (fun W h => compareClass_any w X Y v1 v2 v3 u1 u2 u3 W s1.sl s2.sl s3.sl t1.sl t2.sl t3.sl h)
      clear s1 s2 s3 t1 t2 t3
      have SK : Hid (∀ W : World, Below w.heap.size w W → (Below w.heap.size w W ∧ (W.cell? ⟨b, off + m * 4, none⟩ = some (.string X.nm) ∧ W.cell? ⟨b, off + m * 4 + 1, none⟩ = some v1 ∧ W.cell? ⟨b, off + m * 4 + 2, none⟩ = some v2 ∧ W.cell? ⟨b, off + m * 4 + 3, none⟩ = some v3) ∧ (W.cell? ⟨b, off + (m + 1) * 4, none⟩ = some (.string Y.nm) ∧ W.cell? ⟨b, off + (m + 1) * 4 + 1, none⟩ = some u1 ∧ W.cell? ⟨b, off + (m + 1) * 4 + 2, none⟩ = some u2 ∧ W.cell? ⟨b, off + (m + 1) * 4 + 3, none⟩ = some u3))) :=
        Lib.hid (fun W h => ⟨h, ⟨(h.cell (p := ⟨b, _, none⟩) hw0).trans d0, (h.cell (p := ⟨b, _, none⟩) hw0).trans d1, (h.cell (p := ⟨b, _, none⟩) hw0).trans d2, (h.cell (p := ⟨b, _, none⟩) hw0).trans d3⟩, ⟨(h.cell (p := ⟨b, _, none⟩) hw0).trans e0, (h.cell (p := ⟨b, _, none⟩) hw0).trans e1, (h.cell (p := ⟨b, _, none⟩) hw0).trans e2, (h.cell (p := ⟨b, _, none⟩) hw0).trans e3⟩⟩)
      have hbd := hbel.drew
      have hwr : IntKind.i64.wrap (m : Int) = (m : Int) := IntWalk.i64_in _ (by omega)
      have hwr2 : IntKind.i64.wrap ((m : Int) + 1 - 1) = (m : Int) := by rw [Int.add_sub_cancel]; exact hwr
      clear d0 d1 d2 d3 e0 e1 e2 e3
      cases hn : clsLt X Y
      · have HX' := Lib.hid (HX.out hn)
        go_wp2_with fail
        go_region_held3 (fun W => Below w.heap.size w W ∧ (W.cell? ⟨b, off + m * 4, none⟩ = some (.string X.nm) ∧ W.cell? ⟨b, off + m * 4 + 1, none⟩ = some v1 ∧ W.cell? ⟨b, off + m * 4 + 2, none⟩ = some v2 ∧ W.cell? ⟨b, off + m * 4 + 3, none⟩ = some v3) ∧ (W.cell? ⟨b, off + (m + 1) * 4, none⟩ = some (.string Y.nm) ∧ W.cell? ⟨b, off + (m + 1) * 4 + 1, none⟩ = some u1 ∧ W.cell? ⟨b, off + (m + 1) * 4 + 2, none⟩ = some u2 ∧ W.cell? ⟨b, off + (m + 1) * 4 + 3, none⟩ = some u3))
          (exact SK.out _ (by assumption))
          (first | (go_at_call 159; refine (CC.out _ (by assumption)).mono ?_; rintro e w1 ⟨⟨c, rfl, hc⟩, hb1⟩; rw [hn] at hc; have hc0 : 0 ≤ c := (by simpa using hc); clear hc) | (fail "none"))
        all_goals
          go_wp2
          go_ret
          exact ⟨ret_bool (by rw [HX'.out]), hb1⟩
      · skip
        go_wp2_with fail
        go_region_held3 (fun W => Below w.heap.size w W ∧ (W.cell? ⟨b, off + m * 4, none⟩ = some (.string X.nm) ∧ W.cell? ⟨b, off + m * 4 + 1, none⟩ = some v1 ∧ W.cell? ⟨b, off + m * 4 + 2, none⟩ = some v2 ∧ W.cell? ⟨b, off + m * 4 + 3, none⟩ = some v3) ∧ (W.cell? ⟨b, off + (m + 1) * 4, none⟩ = some (.string Y.nm) ∧ W.cell? ⟨b, off + (m + 1) * 4 + 1, none⟩ = some u1 ∧ W.cell? ⟨b, off + (m + 1) * 4 + 2, none⟩ = some u2 ∧ W.cell? ⟨b, off + (m + 1) * 4 + 3, none⟩ = some u3))
          (exact SK.out _ (by assumption))
          (first | (go_at_call 159; refine (CC.out _ (by assumption)).mono ?_; rintro e w1 ⟨⟨c, rfl, hc⟩, hb1⟩; rw [hn] at hc; have hc0 : ¬ 0 ≤ c := (by simpa using hc); clear hc) | (fail "none"))
        all_goals
          go_wp2
          go_roundw
          case rel => exact ⟨m + 1, by omega, by go_num, fun j h hj => HN.out j h hj hn, hb1⟩
          case measure => simp [intOf]; omega
    · have HT : Hid (incB clsLt l = true) := Lib.hid (incB_yes fun j h => Ha.out j h (by omega))
      have g1 : ¬ (m : Int) + 1 < (l.length : Int) := by omega
      go_wp2
      go_ret
      exact ⟨ret_bool (by rw [HT.out]), hbel⟩
end Go.Proofs.Ytlgafmgohinkbaa
/- AttrOf: the program's copies of texts, and its map of attributes by their names. -/
namespace Go.Proofs.Ytlgafmgohinkbaa
open Go.RowKit
attribute [local go_sem ↓] Go.wp_at_zero Go.wp_at_succ

/-- how an element of the map reads: as itself -/
def valR (v : Value) : Option (DataW Value × List MemPlace) := some (.held v, [])
def putP (D : DataW Value) (p : ByteArray × Value) : DataW Value := D.put (.string p.1.data.toList) (.held p.2)
/-- the map that a list of pairs lays -/
def mapOf (l : List (ByteArray × Value)) : DataW Value := l.foldl putP (.map [])
theorem mapOf_snoc (l : List (ByteArray × Value)) (p : ByteArray × Value) : mapOf (l ++ [p]) = (mapOf l).put (.string p.1.data.toList) (.held p.2) := by
  unfold mapOf; rw [List.foldl_append]; rfl
/-- what lies in the map of an entry's attributes -/
def AttrVals (w : World) (l : List AttrV) (ps : List (ByteArray × Value)) : Prop :=
  ps.length = l.length ∧ ∀ i (h : i < l.length) (h' : i < ps.length), ps[i].1 = l[i].1 ∧ ∃ vo vc, ps[i].2 = .agg #[.string l[i].1, .slice vo l[i].2.length vc] ∧ ValsAt w vo vc l[i].2
theorem AttrVals.snoc {w : World} {l : List AttrV} {ps : List (ByteArray × Value)} (h : AttrVals w l ps) (a : AttrV) (vo : Option Addr) (vc : Nat) (hv : ValsAt w vo vc a.2) : AttrVals w (l ++ [a]) (ps ++ [(a.1, .agg #[.string a.1, .slice vo a.2.length vc])]) := by
  refine ⟨by simp [h.1], fun i h1 h2 => ?_⟩
  by_cases e : i < l.length
  · have e' : i < ps.length := by rw [h.1]; exact e
    rw [List.getElem_append_left e, List.getElem_append_left e']
    exact h.2 i e e'
  · have hi : i = l.length := by simp at h1; omega
    subst hi
    have hl := h.1
    rw [List.getElem_append_right (Nat.le_refl _), List.getElem_append_right (by omega)]
    simp only [hl, Nat.sub_self, List.getElem_cons_zero]
    exact ⟨trivial, vo, vc, rfl, hv⟩
theorem Try.keyed9 : Maps.Keyed Try.prog 9 := Maps.string_keyed Try.underlying9
end Go.Proofs.Ytlgafmgohinkbaa
/- Attributes by their names: plain facts. -/
namespace Go.Proofs.Ytlgafmgohinkbaa
open Go.RowKit

theorem less_irrefl : ∀ a : List UInt8, Op.bytesLess a a = false
  | [] => rfl
  | a :: xs => by
    have ih := less_irrefl xs
    unfold Op.bytesLess
    simp [ih]
theorem less_trans : ∀ a b c : List UInt8, Op.bytesLess a b = true → Op.bytesLess b c = true → Op.bytesLess a c = true
  | [], [], _, h, _ => by simp [Op.bytesLess] at h
  | [], _ :: _, [], _, h => by simp [Op.bytesLess] at h
  | [], _ :: _, _ :: _, _, _ => by simp [Op.bytesLess]
  | _ :: _, [], _, h, _ => by simp [Op.bytesLess] at h
  | _ :: _, _ :: _, [], _, h => by simp [Op.bytesLess] at h
  | a :: xs, b :: ys, c :: zs, h1, h2 => by
    have ih := less_trans xs ys zs
    unfold Op.bytesLess at h1 h2 ⊢
    simp at h1 h2 ⊢
    rcases h1 with h1 | ⟨rfl, h1⟩
    · rcases h2 with h2 | ⟨rfl, h2⟩
      · exact .inl (UInt8.lt_trans h1 h2)
      · exact .inl h1
    · rcases h2 with h2 | ⟨rfl, h2⟩
      · exact .inl h2
      · exact .inr ⟨rfl, ih h1 h2⟩
theorem inc_far {α : Type} {lt : α → α → Bool} (tr : ∀ a b c, lt a b = true → lt b c = true → lt a c = true) {l : List α} (h : incB lt l = true) : ∀ (i j : Nat) (hi : i < l.length) (hj : j < l.length), i < j → lt l[i] l[j] = true := by
  have h1 : ∀ i (h : i + 1 < l.length), lt l[i] l[i + 1] = true := @of_decide_eq_true _ (Classical.propDecidable _) h
  intro i j
  induction j with
  | zero => intro _ _ h; omega
  | succ j ih =>
    intro hi hj hij
    by_cases e : i = j
    · subst e; exact h1 i hj
    · exact tr _ _ _ (ih hi (by omega) (by omega)) (h1 j hj)
theorem names_apart {d : RdnL} {l : List AttrV} (h : rightB d l = true) : ∀ (i j : Nat) (hi : i < l.length) (hj : j < l.length), i < j → l[i].1 ≠ l[j].1 := by
  unfold rightB attrsB at h
  simp only [Bool.and_eq_true] at h
  intro i j hi hj hij e
  have := inc_far (lt := nameLt) (fun a b c => less_trans _ _ _) h.2.2 i j hi hj hij
  unfold nameLt at this
  rw [e, less_irrefl] at this
  cases this
theorem name_short {d : RdnL} {l : List AttrV} (h : rightB d l = true) {a : AttrV} (ha : a ∈ l) : a.1.size ≤ 20 := by
  unfold rightB attrsB at h
  simp only [Bool.and_eq_true, List.all_eq_true] at h
  have := h.2.1.2 a ha
  unfold attrB nmL at this
  simp only [Bool.and_eq_true, decide_eq_true_eq] at this
  exact this.1.1.1.2
/-- the number of the attribute of a name -/
def atN (l : List AttrV) (nm : ByteArray) : Option Nat := l.findIdx? (fun a => decide (a.1 = nm))
def valsOf (l : List AttrV) (nm : ByteArray) : List ByteArray := match atN l nm with | some i => (l.getD i (ByteArray.empty, [])).2 | none => []
theorem atN_some {l : List AttrV} {nm : ByteArray} {i : Nat} (h : atN l nm = some i) : ∃ hi : i < l.length, l[i].1 = nm ∧ valsOf l nm = l[i].2 ∧ ∀ j (hj : j < i), l[j].1 ≠ nm := by
  have h' := h
  unfold atN at h'
  rw [List.findIdx?_eq_some_iff_getElem] at h'
  obtain ⟨hi, h1, h2⟩ := h'
  refine ⟨hi, by simpa using h1, ?_, fun j hj => by simpa using h2 j hj⟩
  unfold valsOf
  rw [h]
  simp [hi]
theorem atN_none {l : List AttrV} {nm : ByteArray} (h : atN l nm = none) : (∀ a ∈ l, a.1 ≠ nm) ∧ valsOf l nm = [] := by
  have h' := h
  unfold atN at h'
  rw [List.findIdx?_eq_none_iff] at h'
  refine ⟨fun a ha => by simpa using h' a ha, ?_⟩
  unfold valsOf
  rw [h]
theorem isMap_mapOf (ps : List (ByteArray × Value)) : Maps.IsMap (mapOf ps) := by
  have : ∀ (ps : List (ByteArray × Value)) (D : DataW Value), Maps.IsMap D → Maps.IsMap (ps.foldl putP D) := by
    intro ps
    induction ps with
    | nil => intro D h; exact h
    | cons p ps ih => intro D h; exact ih _ (h.put _ _)
  exact this ps _ Maps.isMap_empty
theorem key_ne {a b : ByteArray} (h : a ≠ b) : Lit.string a.data.toList ≠ Lit.string b.data.toList := by
  intro e
  injection e with e
  exact h (ByteArray.ext (Array.toList_inj.1 e))
theorem snoc_rec {α : Type} {P : List α → Prop} (h0 : P []) (h1 : ∀ l a, P l → P (l ++ [a])) (l : List α) : P l := by
  have : ∀ r : List α, P r.reverse := by
    intro r
    induction r with
    | nil => exact h0
    | cons a r ih => rw [List.reverse_cons]; exact h1 _ _ ih
  simpa using this l.reverse
theorem mapOf_miss (ps : List (ByteArray × Value)) (nm : ByteArray) (z : DataW Value) (h : ∀ p ∈ ps, p.1 ≠ nm) : (mapOf ps).atKey (.string nm.data.toList) z = z := by
  revert h
  refine snoc_rec (P := fun ps => (∀ p ∈ ps, p.1 ≠ nm) → (mapOf ps).atKey (.string nm.data.toList) z = z) ?_ ?_ ps
  · intro _; rfl
  · intro ps p ih h
    rw [mapOf_snoc, Maps.atKey_put_other (key_ne (h p (by simp)).symm)]
    exact ih fun q hq => h q (by simp [hq])
theorem mapOf_hit (ps : List (ByteArray × Value)) (nm : ByteArray) (z : DataW Value) (i : Nat) (hi : i < ps.length) (h1 : ps[i].1 = nm) (h2 : ∀ j (hj : j < ps.length), i < j → ps[j].1 ≠ nm) : (mapOf ps).atKey (.string nm.data.toList) z = .held ps[i].2 := by
  revert hi h1 h2
  refine snoc_rec (P := fun ps => ∀ (hi : i < ps.length), ps[i].1 = nm → (∀ j (hj : j < ps.length), i < j → ps[j].1 ≠ nm) → (mapOf ps).atKey (.string nm.data.toList) z = .held ps[i].2) ?_ ?_ ps
  · intro hi; simp at hi
  · intro ps p ih hi h1 h2
    by_cases e : i < ps.length
    · rw [mapOf_snoc]
      have hp : p.1 ≠ nm := by
        have := h2 ps.length (by simp) e
        simpa using this
      rw [Maps.atKey_put_other (key_ne hp.symm)]
      rw [List.getElem_append_left e] at h1 ⊢
      exact ih e h1 (fun j hj hij => by have := h2 j (by simp; omega) hij; rwa [List.getElem_append_left hj] at this)
    · have hi' : i = ps.length := by simp at hi; omega
      subst hi'
      rw [mapOf_snoc]
      simp only [List.getElem_append_right (Nat.le_refl _), Nat.sub_self, List.getElem_cons_zero] at h1 ⊢
      rw [← h1]
      exact Maps.atKey_put_same (isMap_mapOf ps) (by trivial) _ _
/-- what the map of a valid entry's attributes holds at a name -/
theorem map_at {w : World} {d : RdnL} {l : List AttrV} {ps : List (ByteArray × Value)} (h : AttrVals w l ps) (hr : rightB d l = true) (nm : ByteArray) :
    ∃ x vo vc, (mapOf ps).atKey (.string nm.data.toList) (.held (.agg #[.string ByteArray.empty, .slice none 0 0])) = .held (.agg #[.string x, .slice vo (valsOf l nm).length vc]) ∧ ValsAt w vo vc (valsOf l nm) := by
  have hl := h.1
  cases ha : atN l nm with
  | none =>
    obtain ⟨h1, h2⟩ := atN_none ha
    refine ⟨ByteArray.empty, none, 0, ?_, ?_⟩
    · rw [h2]
      refine mapOf_miss ps nm _ fun p hp => ?_
      obtain ⟨i, hi, rfl⟩ := List.getElem_of_mem hp
      rw [(h.2 i (by omega) hi).1]
      exact h1 _ (List.getElem_mem _)
    · rw [h2]; exact ⟨.inl rfl, Nat.le_refl _, fun _ => rfl⟩
  | some i =>
    obtain ⟨hi, h1, h2, _⟩ := atN_some ha
    obtain ⟨q1, vo, vc, q2, q3⟩ := h.2 i hi (by omega)
    refine ⟨l[i].1, vo, vc, ?_, by rw [h2]; exact q3⟩
    rw [mapOf_hit ps nm _ i (by omega) (q1.trans h1) (fun j hj hij => by
      rw [(h.2 j (by omega) hj).1, ← h1]
      exact (names_apart hr i j hi (by omega) hij).symm), q2, h2]
end Go.Proofs.Ytlgafmgohinkbaa
/- AttrOf: what the program returns, and what the specification returns. -/
namespace Go.Proofs.Ytlgafmgohinkbaa
open Go.RowKit
attribute [local go_sem ↓] Go.wp_at_zero Go.wp_at_succ

noncomputable def attrOfL (d : RdnL) (l : List AttrV) (nm : ByteArray) : List ByteArray := if rightB d l = true then valsOf l nm else []
theorem attrOf_yes {d : RdnL} {l : List AttrV} (h : rightB d l = true) (nm : ByteArray) : attrOfL d l nm = valsOf l nm := by unfold attrOfL; rw [if_pos h]
theorem attrOf_no {d : RdnL} {l : List AttrV} (h : rightB d l = false) (nm : ByteArray) : attrOfL d l nm = [] := by unfold attrOfL; rw [h]; rfl
theorem attrOf_long {d : RdnL} {l : List AttrV} {nm : ByteArray} (h : 20 < nm.size) : attrOfL d l nm = [] := by
  unfold attrOfL
  split
  · rename_i hr
    cases ha : atN l nm with
    | none => exact (atN_none ha).2
    | some i =>
      obtain ⟨hi, h1, _⟩ := atN_some ha
      have := name_short hr (List.getElem_mem hi)
      rw [h1] at this; omega
  · rfl
theorem FitsV.nil : FitsV [] := ⟨by simp, fun s h => by simp at h⟩
theorem valsOf_fits {l : List AttrV} (h : FitsA l) (nm : ByteArray) : FitsV (valsOf l nm) := by
  cases ha : atN l nm with
  | none => rw [(atN_none ha).2]; exact .nil
  | some i =>
    obtain ⟨hi, _, h2, _⟩ := atN_some ha
    rw [h2]; exact (h.at hi).2
/-- new texts are returned -/
def GivesV (w : World) (V : List ByteArray) (e : Ending) (w' : World) : Prop := (∃ v, e = .returned v ∧ w'.ownsRow w.heap.size 9 1 v V.length (ss V)) ∧ Below w.heap.size w w'
theorem own_none (w : World) (B : Nat) : w.ownsRow B 9 1 (.slice none 0 0) 0 (ss []) := ⟨rfl, .inl ⟨rfl, rfl⟩⟩
theorem ss_one (l : List ByteArray) : ∀ u ∈ ss l, u.oneCell' = true := by
  intro u hu
  unfold ss at hu
  obtain ⟨s, _, rfl⟩ := List.mem_map.1 hu
  rfl
theorem ss_append (a b : List ByteArray) : ss (a ++ b) = ss a ++ ss b := by unfold ss; rw [List.map_append]
theorem strs_cells {w : World} {b off : Nat} {d : List ByteArray} (h : StrsAt w (some ⟨b, off, none⟩) d) : ∀ j u, (ss d)[j]? = some u → w.cell? ((⟨b, off, none⟩ : Addr).add j) = some u := by
  intro j u hu
  have ea : (⟨b, off, none⟩ : Addr).add j = ⟨b, off + j, none⟩ := by unfold Addr.add; split <;> simp_all
  rw [ea]
  unfold ss at hu
  rw [List.getElem?_map] at hu
  by_cases hj : j < d.length
  · rw [List.getElem?_eq_getElem hj] at hu
    obtain ⟨b', off', e, _, c⟩ := h.at hj
    cases e
    rw [c, ← hu]; rfl
  · rw [List.getElem?_eq_none (by omega)] at hu; cases hu
/-- append(v, texts...) onto a row that the call owns -/
theorem append_strs {ops : Array Oper} {rest : List Oper} {o : Oper} {a : Act} {Q : Exit → Act → World → Prop} {w0 wr : World} (B : Nat) (hgd : o.guard = none) (s x : Operand)
    (ho : o.op = .call { callee := .builtin .append, args := #[s, x], argTypes := #[29, 29] }) (v : Value) (pre : List ByteArray) (hs : a.eval s = v) (hown : wr.ownsRow B 9 1 v pre.length (ss pre))
    (ao : Option Addr) (d : List ByteArray) (c n : Nat) (hn : n = d.length) (hx : a.eval x = .slice ao n c) (hd : StrsAt wr ao d) (hc : ao = none → c = 0) (hlen : pre.length + d.length ≤ 1000000000) (hB : B ≤ wr.heap.size) (hbel : Below B w0 wr)
    (h : ∀ v' w', w'.ownsRow B 9 1 v' (pre ++ d).length (ss (pre ++ d)) → Below B w0 w' → wpList Try.prog ops Q rest (a.put o.dst v') w') :
    wpList Try.prog ops Q (o :: rest) a wr := by
  obtain ⟨i0, hi, hz0, hz1, hz2⟩ := info_parts Try.info9
  subst hn
  rcases ao with _ | ad
  · have hd0 : d = [] := by
      rcases hd with h | ⟨b, off, e, _⟩
      · exact h
      · cases e
    subst hd0
    have := hc rfl
    subst this
    refine wpList_append_own_none hgd s x 29 ho B 9 i0 1 Try.underlying29 hi v pre.length (ss pre) hs hown hx (h v wr (by rw [List.append_nil]; exact hown) hbel)
  · have hnews : ∀ j u, (ss d)[j]? = some u → wr.cell? (ad.add j) = some u := by
      rcases hd with hd | ⟨b, off, e, h2, h3⟩
      · subst hd; intro j u hu; simp [ss] at hu
      · cases e; exact strs_cells (.inr ⟨b, off, rfl, h2, h3⟩)
    refine wpList_append_own _ hgd s x 29 ho B 9 i0 _ 1 16 Try.underlying29 hi hz0 hz1 hz2 rfl (by decide) v pre.length (ss pre) hs hown ad d.length c (ss d) hx (by rw [ss_length]; omega) hnews (ss_one d) ?_ ?_ hB ?_
    · unfold maxLen; omega
    · omega
    · intro v' w' h1 h2 h3
      refine h v' w' ?_ (hbel.grown h2 hB (fun k hk => (hown.lt k hk).1))
      rw [ss_append, List.length_append]; exact h1
end Go.Proofs.Ytlgafmgohinkbaa
/- Names among others: what slices.Contains and the specification's look-up return. -/
namespace Go.Proofs.Ytlgafmgohinkbaa
open Go.RowKit
attribute [local go_sem ↓] Go.wp_at_zero Go.wp_at_succ

def hasS (l : List ByteArray) (x : ByteArray) : Bool := l.any fun y => y.toList == x.toList
theorem hasS_yes {l : List ByteArray} {x : ByteArray} {k : Nat} (hk : k < l.length) (h : (l[k].toList == x.toList) = true) : hasS l x = true := by
  unfold hasS
  rw [List.any_eq_true]
  exact ⟨l[k], List.getElem_mem hk, h⟩
theorem hasS_no {l : List ByteArray} {x : ByteArray} (h : ∀ j (h : j < l.length), (l[j].toList == x.toList) = false) : hasS l x = false := by
  unfold hasS
  rw [List.any_eq_false]
  intro y hy
  obtain ⟨i, hi, rfl⟩ := List.getElem_of_mem hy
  rw [h i hi]; simp
theorem beq_swap (a b : ByteArray) : (a.toList == b.toList) = (b.toList == a.toList) := by
  rw [Bool.eq_iff_iff]; simp only [beq_iff_eq]; exact ⟨Eq.symm, Eq.symm⟩
set_option maxRecDepth 100000 in
set_option maxHeartbeats 1000000 in
theorem index_any (ao : Option Addr) (l : List ByteArray) (cap : Nat) (x : ByteArray) (w : World) (hd : StrsAt w ao l) (hl : l.length ≤ 10000000) :
    Calls Try.prog 230 #[.slice ao l.length cap, .string x] w fun e w' => (∃ n : Int, e = .returned (.int .i64 n) ∧ decide (0 ≤ n) = hasS l x) ∧ w' = w := by
  have HD := Lib.hid hd; clear hd
  go_enter Try.func230, Try.ntmps230
  go_wp2
  go_loopw [5, 8] (fun _ i wr => ∃ k : Nat, k ≤ l.length ∧ i = .int .i64 k ∧ (∀ j (h : j < l.length), j < k → (l[j].toList == x.toList) = false) ∧ wr = w) (fun _ i _ => l.length - (intOf i).toNat)
  case atStart => exact ⟨0, Nat.zero_le _, rfl, fun j _ h => absurd h (Nat.not_lt_zero _), by trivial⟩
  case round =>
    obtain ⟨k, hk, rfl, ha, rfl⟩ := hrel
    have Ha := Lib.hid ha; clear ha
    by_cases hlt : k < l.length
    · obtain ⟨b, off, rfl, hb0, hc1⟩ := HD.out.at hlt
      have HY : Hid ((l[k].toList == x.toList) = true → hasS l x = true) := Lib.hid (fun h => hasS_yes hlt h)
      have HN : Hid ((l[k].toList == x.toList) = false → ∀ j (h : j < l.length), j < k + 1 → (l[j].toList == x.toList) = false) := Lib.hid (fun hn j h hj => by
        by_cases e : j = k
        · subst e; exact hn
        · exact Ha.out j h (by omega))
      generalize l[k] = A at *
      have hsw := beq_swap x A
      cases hq : (A.toList == x.toList)
      · rw [hq] at hsw
        have HN' := Lib.hid (HN.out hq)
        go_wp2
        go_roundw
        case rel => exact ⟨k + 1, by omega, by go_num, HN'.out, trivial⟩
        case measure => simp [intOf]; omega
      · rw [hq] at hsw
        have HY' := Lib.hid (HY.out hq)
        go_wp2
        go_ret
        exact ⟨⟨_, rfl, by rw [HY'.out]; exact decide_eq_true (by omega)⟩, rfl⟩
    · have HN' : Hid (hasS l x = false) := Lib.hid (hasS_no fun j h => Ha.out j h (by omega))
      go_wp2
      go_ret
      exact ⟨⟨_, rfl, by rw [HN'.out]; rfl⟩, rfl⟩
set_option maxHeartbeats 1000000 in
theorem contains_any (ao : Option Addr) (l : List ByteArray) (cap : Nat) (x : ByteArray) (w : World) (hd : StrsAt w ao l) (hl : l.length ≤ 10000000) :
    Calls Try.prog 197 #[.slice ao l.length cap, .string x] w fun e w' => e = .returned (.bool (hasS l x)) ∧ w' = w := by
  have HD := Lib.hid hd; clear hd
  go_enter Try.func197, Try.ntmps197
  go_wp2_with fail
  refine (index_any ao l cap x w HD.out hl).mono ?_
  rintro e w' ⟨⟨n, rfl, hn⟩, rfl⟩
  have HN := Lib.hid hn; clear hn
  by_cases h : 0 ≤ n
  · have HR : Hid (hasS l x = true) := Lib.hid (by rw [← HN.out]; exact decide_eq_true h)
    go_wp2
    go_ret
    exact ⟨ret_bool (by rw [HR.out]), rfl⟩
  · have HR : Hid (decide (0 ≤ n) = hasS l x) := HN
    go_wp2
    go_ret
    exact ⟨ret_bool HR.out, rfl⟩
set_option maxRecDepth 100000 in
set_option maxHeartbeats 1000000 in
theorem l04Has_any (ao : Option Addr) (l : List ByteArray) (cap : Nat) (x : ByteArray) (w : World) (hd : StrsAt w ao l) (hl : l.length ≤ 10000000) :
    Calls Try.prog 169 #[.slice ao l.length cap, .string x] w fun e w' => e = .returned (.bool (hasS l x)) ∧ w' = w := by
  have HD := Lib.hid hd; clear hd
  go_enter Try.func169, Try.ntmps169
  go_wp2
  go_loopw [5] (fun i wr => ∃ k : Nat, k ≤ l.length ∧ i = .int .i64 k ∧ (∀ j (h : j < l.length), j < k → (l[j].toList == x.toList) = false) ∧ wr = w) (fun i _ => l.length - (intOf i).toNat)
  case atStart => exact ⟨0, Nat.zero_le _, rfl, fun j _ h => absurd h (Nat.not_lt_zero _), by trivial⟩
  case round =>
    obtain ⟨k, hk, rfl, ha, rfl⟩ := hrel
    have Ha := Lib.hid ha; clear ha
    by_cases hlt : k < l.length
    · obtain ⟨b, off, rfl, hb0, hc1⟩ := HD.out.at hlt
      have HY : Hid ((l[k].toList == x.toList) = true → hasS l x = true) := Lib.hid (fun h => hasS_yes hlt h)
      have HN : Hid ((l[k].toList == x.toList) = false → ∀ j (h : j < l.length), j < k + 1 → (l[j].toList == x.toList) = false) := Lib.hid (fun hn j h hj => by
        by_cases e : j = k
        · subst e; exact hn
        · exact Ha.out j h (by omega))
      generalize l[k] = A at *
      cases hq : (A.toList == x.toList)
      · have HN' := Lib.hid (HN.out hq)
        go_wp2
        go_roundw
        case rel => exact ⟨k + 1, by omega, by go_num, HN'.out, trivial⟩
        case measure => simp [intOf]; omega
      · have HY' := Lib.hid (HY.out hq)
        go_wp2
        go_ret
        exact ⟨ret_bool (by rw [HY'.out]), rfl⟩
    · have HN' : Hid (hasS l x = false) := Lib.hid (hasS_no fun j h => Ha.out j h (by omega))
      go_wp2
      go_ret
      exact ⟨ret_bool (by rw [HN'.out]), rfl⟩
/-- those of the names that are not among the others -/
def besideV (l m : List ByteArray) : List ByteArray := l.filter fun x => !(hasS m x)
theorem besideV_succ (l m : List ByteArray) (k : Nat) (h : k < l.length) : besideV (l.take (k + 1)) m = besideV (l.take k) m ++ (if hasS m l[k] then [] else [l[k]]) := by
  unfold besideV
  rw [List.take_succ_eq_append_getElem h, List.filter_append]
  congr 1
  cases hq : hasS m l[k] <;> simp [hq]
theorem besideV_len (l m : List ByteArray) (k : Nat) : (besideV (l.take k) m).length ≤ l.length := by
  unfold besideV
  exact Nat.le_trans (List.length_filter_le _ _) (by rw [List.length_take]; omega)
set_option maxRecDepth 100000 in
set_option maxHeartbeats 2000000 in
theorem beside_any (ao bo : Option Addr) (l m : List ByteArray) (ca cb : Nat) (w : World) (hd : StrsAt w ao l) (he : StrsAt w bo m) (hl : l.length ≤ 1048576) (hm : m.length ≤ 10000000) :
    Calls Try.prog 196 #[.slice ao l.length ca, .slice bo m.length cb] w (GivesV w (besideV l m)) := by
  have HD := Lib.hid hd; have HE := Lib.hid he; clear hd he
  go_enter Try.func196, Try.ntmps196
  go_wp2_with fail
  go_loopw [5, 10] (fun v i wr => ∃ k : Nat, k ≤ l.length ∧ i = .int .i64 k ∧ wr.ownsRow w.heap.size 9 1 v (besideV (l.take k) m).length (ss (besideV (l.take k) m)) ∧ Below w.heap.size w wr) (fun _ i _ => l.length - (intOf i).toNat)
  case atStart => exact ⟨0, Nat.zero_le _, rfl, ⟨rfl, .inl ⟨rfl, rfl⟩⟩, Below.refl _ _⟩
  case round =>
    obtain ⟨k, hk, rfl, hown, hbel⟩ := hrel
    have hsz := hbel.size
    by_cases hlt : k < l.length
    · obtain ⟨p, off, rfl, hp0, hd1⟩ := HD.out.at hlt
      have c1 := (hbel.cell (p := ⟨p, off + k, none⟩) hp0).trans hd1
      have HN := Lib.hid (besideV_succ l m k hlt)
      have HL : Hid ((besideV (l.take k) m).length ≤ 1000000000) := Lib.hid (by have := besideV_len l m k; omega)
      have HE' := Lib.hid (HE.out.below hbel)
      have g1 : (0 : Int) ≤ (k : Int) := by omega
      have g2 : (k : Int) < (l.length : Int) := by omega
      clear hd1
      generalize l[k] = x at *
      generalize besideV (l.take k) m = pre at *
      cases hq : hasS m x
      · rw [hq] at HN
        go_wp2_with (first
          | (go_at_call 197; refine (contains_any bo m cb x wr HE'.out hm).mono ?_; rintro e w3 ⟨rfl, rfl⟩; rw [hq])
          | (at_builtin; refine append_str w.heap.size rfl _ _ rfl _ pre rfl hown _ rfl HL.out hsz hbel ?_; intro v4 w4 hown4 hbel4 hsz4 _ _)
          | (fail "none"))
        go_roundw
        case rel => exact ⟨k + 1, by omega, by go_num, by rw [HN.out]; exact hown4, hbel4⟩
        case measure => simp [intOf]; omega
      · rw [hq] at HN
        go_wp2_with (first
          | (go_at_call 197; refine (contains_any bo m cb x wr HE'.out hm).mono ?_; rintro e w3 ⟨rfl, rfl⟩; rw [hq])
          | (fail "none"))
        go_roundw
        case rel => exact ⟨k + 1, by omega, by go_num, by rw [HN.out]; simpa using hown, hbel⟩
        case measure => simp [intOf]; omega
    · obtain rfl : k = l.length := by omega
      have HO : Hid (wr.ownsRow w.heap.size 9 1 u5 (besideV l m).length (ss (besideV l m))) := Lib.hid (by have h := hown; rw [List.take_length] at h; exact h)
      clear hown
      go_wp2
      go_ret
      exact ⟨⟨_, rfl, HO.out⟩, hbel⟩
end Go.Proofs.Ytlgafmgohinkbaa
/- Access control: which rules are right: the program. -/
namespace Go.Proofs.Ytlgafmgohinkbaa
open Go.RowKit
attribute [local go_sem ↓] Go.wp_at_zero Go.wp_at_succ

def starB (s : ByteArray) : Bool := s.toList == [42]
def rtB (r : Int) : Bool := decide (1 ≤ r) && decide (r ≤ 4)
noncomputable def ruleB (x : RuleT) : Bool := (starB x.1 || nmL x.1) && (decide (x.2.2.1.length ≤ 8) && namesB x.2.2.1) && (dnB x.2.1 && rtB x.2.2.2.1)
noncomputable def aclB (l : List RuleT) : Bool := decide (l.length ≤ 10) && l.all ruleB
theorem isRight_any (r : Int) (w : World) : Calls Try.prog 166 #[.int .i64 r] w fun e w' => e = .returned (.bool (rtB r)) ∧ w' = w := by
  by_cases h1 : 1 ≤ r
  · by_cases h2 : r ≤ 4
    all_goals
      go_enter Try.func166, Try.ntmps166
      go_wp2
      go_ret
      exact ⟨ret_bool (by simp [rtB, h1, h2]), rfl⟩
  · go_enter Try.func166, Try.ntmps166
    go_wp2
    go_ret
    exact ⟨ret_bool (by simp [rtB, h1]; omega), rfl⟩
set_option maxRecDepth 100000 in
set_option maxHeartbeats 4000000 in
theorem ruleRight_any {S : Bs} (a0 : ByteArray) (a1 : List RdnT) (a2 : List ByteArray) (a3 : Int) (a4 : Bool) (v1 v2 : Value) (w : World) (h1 : SlAt rdnE S w a1 v1) (h2 : SlAt strE S w a2 v2) (hz : ruleE.sz (a0, a1, a2, a3, a4) ≤ 1048576) :
    Calls Try.prog 118 #[.agg #[.string a0, v1, v2, .int .i64 a3, .bool a4]] w fun e w' => e = .returned (.bool (ruleB (a0, a1, a2, a3, a4))) ∧ Below w.heap.size w w' := by
  have HE : ruleE.sz (a0, a1, a2, a3, a4) = a0.size + ((a1.length + szL rdnE a1) + ((a2.length + szL strE a2) + (0 + (0)))) := rfl
  rw [HE] at hz
  have HB : Hid (ruleB (a0, a1, a2, a3, a4) = ((starB a0 || nmL a0) && (decide (a2.length ≤ 8) && namesB a2) && (dnB a1 && rtB a3))) := Lib.hid rfl
  obtain ⟨o1, k1, rfl⟩ := h1.sl
  obtain ⟨o2, k2, rfl⟩ := h2.sl
  have CN : Hid (∀ W : World, Calls Try.prog 86 #[.string a0] W fun e w' => e = .returned (.bool (nmL a0)) ∧ W = w') := Lib.hid (fun W => NameRight_any a0 W (by unfold maxLen; omega))
  have CA : Hid (∀ W : World, Below w.heap.size w W → Calls Try.prog 170 #[.slice o2 a2.length k2] W fun e w' => e = .returned (.bool (namesB a2)) ∧ Below W.heap.size W w') := Lib.hid (fun W b => areNames_any o2 a2 k2 W ((strs_of h2).below b) (fits_str (by omega)))
  have CD : Hid (∀ W : World, Below w.heap.size w W → Calls Try.prog 165 #[.slice o1 a1.length k1] W fun e w' => e = .returned (.bool (dnB a1)) ∧ Below W.heap.size W w') := Lib.hid (fun W b => DnRight_any o1 a1 k1 W ((dn_of h1).below b) (fits_dn (by omega)))
  have hl2 : a2.length ≤ 1048576 := by omega
  clear h1 h2 hz HE
  generalize nmL a0 = nm at *
  generalize namesB a2 = nms at *
  generalize dnB a1 = dn at *
  generalize hs : starB a0 = st at *
  have hst : (a0.toList == [42]) = st := hs
  clear hs
  generalize ruleB (a0, a1, a2, a3, a4) = R at *
  have hcase : (st = false ∧ nm = false) ∨ (st || nm) = true := by cases st <;> cases nm <;> simp
  rcases hcase with ⟨e1, e2⟩ | hok
  · subst e1 e2
    go_enter Try.func118, Try.ntmps118
    go_wp2_with fail
    refine (CN.out _).mono ?_
    rintro e w1 ⟨rfl, rfl⟩
    go_wp2
    go_ret
    exact ⟨ret_bool (by rw [HB.out]; rfl), more' (Below.refl _ _) _⟩
  rw [hok] at HB
  have HB2 : Hid (R = ((decide (a2.length ≤ 8) && nms) && (dn && rtB a3))) := Lib.hid (by rw [HB.out]; simp)
  have CN2 : Hid (st = false → nm = true) := Lib.hid (fun h => by subst h; simpa using hok)
  clear HB hok
  by_cases h8 : a2.length ≤ 8
  rotate_left
  · have HR : Hid (R = false) := Lib.hid (by rw [HB2.out]; simp [h8])
    have h8' : (8 : Int) < (a2.length : Int) := by omega
    cases st
    all_goals
      first
        | (have hn := CN2.out rfl; rw [hn] at CN; clear CN2)
        | clear CN2
      go_enter Try.func118, Try.ntmps118
      go_wp2_with (first | (go_at_call 86; refine (CN.out _).mono ?_; rintro e w1 ⟨rfl, rfl⟩) | (fail "none"))
      go_ret
      exact ⟨ret_bool HR.out.symm, more' (Below.refl _ _) _⟩
  have HB3 : Hid (R = (nms && (dn && rtB a3))) := Lib.hid (by rw [HB2.out]; simp [h8])
  have h8' : ¬ (8 : Int) < (a2.length : Int) := by omega
  clear HB2
  cases st
  all_goals
    first
      | (have hn := CN2.out rfl; rw [hn] at CN; clear CN2)
      | clear CN2
    go_enter Try.func118, Try.ntmps118
    go_wp2_with (first | (go_at_call 86; refine (CN.out _).mono ?_; rintro e w1 ⟨rfl, rfl⟩) | (fail "none"))
    refine calls_by (fun W => Below w.heap.size w W ∧ Blk W w.heap.size [.string a0, .slice o1 a1.length k1, .slice o2 a2.length k2, .int .i64 a3, .bool a4]) ⟨more' (Below.refl _ _) _, Blk.new _ _ _⟩ ?_
    rintro W1 ⟨b1, t1⟩
    refine (CA.out W1 b1).mono ?_
    rintro e w2 ⟨rfl, hb⟩
    have b2 := b1.trans (hb.mono b1.size); have T2 := Lib.hid (t1.below hb)
    clear hb t1 b1
    cases nms
    · have HR : Hid (R = false) := Lib.hid (by rw [HB3.out]; rfl)
      go_wp2
      go_ret
      exact ⟨ret_bool HR.out.symm, b2⟩
    have m0 := T2.out.cell 0 rfl
    have m1 := T2.out.cell 1 rfl
    have m2 := T2.out.cell 2 rfl
    have m3 := T2.out.cell 3 rfl
    have m4 := T2.out.cell 4 rfl
    go_wp2_with fail
    refine (CD.out w2 b2).mono ?_
    rintro e w3 ⟨rfl, hb⟩
    have b3 := b2.trans (hb.mono b2.size); have T3 := Lib.hid (T2.out.below hb)
    clear hb T2 b2 m0 m1 m2 m3 m4
    cases dn
    · have HR : Hid (R = false) := Lib.hid (by rw [HB3.out]; rfl)
      go_wp2
      go_ret
      exact ⟨ret_bool HR.out.symm, b3⟩
    have HR : Hid (R = rtB a3) := Lib.hid (by rw [HB3.out]; rfl)
    have m3 := T3.out.cell 3 rfl
    go_wp2_with fail
    refine (isRight_any a3 w3).mono ?_
    rintro e w4 ⟨rfl, rfl⟩
    generalize rtB a3 = q at *
    go_wp2
    go_ret
    exact ⟨ret_bool HR.out.symm, b3⟩
end Go.Proofs.Ytlgafmgohinkbaa
/- Access control: which lists are right: the program. -/
namespace Go.Proofs.Ytlgafmgohinkbaa
open Go.RowKit
attribute [local go_sem ↓] Go.wp_at_zero Go.wp_at_succ

theorem aclB_long {l : List RuleT} (h : ¬ l.length ≤ 10) : aclB l = false := by unfold aclB; simp [h]
theorem aclB_bad {l : List RuleT} {k : Nat} (h : k < l.length) (hb : ruleB l[k] = false) : aclB l = false := by unfold aclB; rw [all_bad ruleB l k h hb]; simp
theorem aclB_all {l : List RuleT} (h1 : l.length ≤ 10) (h : l.all ruleB = true) : aclB l = true := by unfold aclB; rw [h]; simp [h1]
set_option maxRecDepth 100000 in
set_option maxHeartbeats 4000000 in
theorem AclRight_any {S : Bs} (v : Value) (d : List RuleT) (w : World) (hd : SlAt ruleE S w d v) (hz : d.length + szL ruleE d ≤ 1048576) :
    Calls Try.prog 51 #[v] w fun e w' => e = .returned (.bool (aclB d)) ∧ Below w.heap.size w w' := by
  obtain ⟨ao, ca, rfl⟩ := hd.sl
  have HD := Lib.hid hd; have HL := Lib.hid hz; clear hd
  have hl : d.length ≤ 1048576 := by omega
  clear hz
  by_cases h10 : d.length ≤ 10
  rotate_left
  · have HR := Lib.hid (aclB_long h10)
    have h10' : (10 : Int) < (d.length : Int) := by omega
    go_enter Try.func51, Try.ntmps51
    go_wp2
    go_ret
    exact ⟨ret_bool HR.out.symm, Below.refl _ _⟩
  have h10' : ¬ (10 : Int) < (d.length : Int) := by omega
  go_enter Try.func51, Try.ntmps51
  go_wp2
  go_loopw [10] (fun i wr => ∃ k : Nat, k ≤ d.length ∧ i = .int .i64 k ∧ (d.take k).all ruleB = true ∧ Below w.heap.size w wr) (fun i _ => d.length - (intOf i).toNat)
  case atStart => exact ⟨0, Nat.zero_le _, rfl, rfl, Below.refl _ _⟩
  case round =>
    obtain ⟨k, hk, rfl, ha, hbel⟩ := hrel
    have Ha := Lib.hid ha; clear ha
    have hsz := hbel.size
    by_cases hlt : k < d.length
    · obtain ⟨b, off, a0, a1, a2, a3, a4, v1, v2, rfl, _, hb0, hx, ⟨hc0, hc1, hc2, hc3, hc4⟩, s1, s2, _⟩ := rule_row (HD.out.frame (Same.of_below' hbel)) hlt
      have HZ : Hid (ruleE.sz (a0, a1, a2, a3, a4) ≤ 1048576) := Lib.hid (by have h1 := szL_mem ruleE (List.getElem_mem hlt); rw [hx] at h1; have := HL.out; omega)
      have HBad : Hid (ruleB (a0, a1, a2, a3, a4) = false → aclB d = false) := Lib.hid (fun h => aclB_bad hlt (by rw [hx]; exact h))
      have HT : Hid (ruleB (a0, a1, a2, a3, a4) = true → (d.take (k + 1)).all ruleB = true) := Lib.hid (fun h => by rw [all_take ruleB d k hlt, Ha.out, hx, h]; rfl)
      clear hx Ha
      have HC : Hid (∀ W : World, Below wr.heap.size wr W → Calls Try.prog 118 #[.agg #[.string a0, v1, v2, .int .i64 a3, .bool a4]] W fun e w' => e = .returned (.bool (ruleB (a0, a1, a2, a3, a4))) ∧ Below W.heap.size W w') := Lib.hid (fun W b => ruleRight_any a0 a1 a2 a3 a4 v1 v2 W (s1.frame (Same.of_below' b)) (s2.frame (Same.of_below' b)) HZ.out)
      obtain ⟨o1, k1, rfl⟩ := s1.sl
      obtain ⟨o2, k2, rfl⟩ := s2.sl
      clear s1 s2 HZ
      generalize ruleB (a0, a1, a2, a3, a4) = r at *
      have g1 : (0 : Int) ≤ (k : Int) := by omega
      have g2 : (k : Int) < (d.length : Int) := by omega
      go_wp2_with fail
      refine (HC.out _ (more' (Below.refl _ _) _)).mono ?_
      rintro e w2 ⟨rfl, hb2⟩
      have B2 := Lib.hid ((more' hbel _).trans (hb2.mono (more' hbel _).size)); clear hb2
      cases r
      · have HR := Lib.hid (HBad.out rfl)
        go_wp2
        go_ret
        exact ⟨ret_bool HR.out.symm, B2.out⟩
      · go_wp2
        go_roundw
        case rel => exact ⟨k + 1, by omega, by go_num, HT.out (by first | rfl | trivial), B2.out⟩
        case measure => simp [intOf]; omega
    · have HR : Hid (aclB d = true) := Lib.hid (aclB_all h10 (by have := Ha.out; rw [List.take_of_length_le (by omega)] at this; exact this))
      go_wp2
      go_ret
      exact ⟨ret_bool HR.out.symm, hbel⟩
end Go.Proofs.Ytlgafmgohinkbaa
/- Blocks of two and of four cells. -/
namespace Go.Proofs.Ytlgafmgohinkbaa
open Go.RowKit

def Two (w : World) (g : Nat) (T : TypeId) (a b : Value) : Prop := w.heap[g]? = some (.cells #[a, b] T (0, 0))
theorem Two.cells {w : World} {g : Nat} {T : TypeId} {a b : Value} (h : Two w g T a b) : (w.cell? ⟨g, 0, none⟩ = some a ∧ w.cell? ⟨g, 1, none⟩ = some b) ∧ (w.frozen? ⟨g, 0, none⟩ = false ∧ w.frozen? ⟨g, 1, none⟩ = false) := by
  unfold Two at h
  refine ⟨⟨?_, ?_⟩, ?_, ?_⟩
  · rw [cell_of_row w g _ _ T (0, 0) h]; rfl
  · rw [cell_of_row w g _ _ T (0, 0) h]; rfl
  · simp [World.frozen?, h]
  · simp [World.frozen?, h]
theorem Two.lt {w : World} {g : Nat} {T : TypeId} {a b : Value} (h : Two w g T a b) : g < w.heap.size := (Array.getElem?_eq_some_iff.1 h).1
theorem Two.below {w w' : World} {g : Nat} {T : TypeId} {a b : Value} (h : Two w g T a b) (hb : Below w.heap.size w w') : Two w' g T a b := (hb.block g h.lt).trans h
theorem Two.set0 {w : World} {g : Nat} {T : TypeId} {a b : Value} (h : Two w g T a b) (v : Value) : Two (w.setCell ⟨g, 0, none⟩ v) g T v b := heap_set v h
theorem Two.set1 {w : World} {g : Nat} {T : TypeId} {a b : Value} (h : Two w g T a b) (v : Value) : Two (w.setCell ⟨g, 1, none⟩ v) g T a v := heap_set v h
theorem Two.far {w : World} {g R j : Nat} {T : TypeId} {a b : Value} (h : Two w g T a b) (hne : g ≠ R) (v : Value) : Two (w.setCell ⟨R, j, none⟩ v) g T a b := (Below.heap_setCell _ _ _ _ hne).trans h
theorem twoNew (w : World) (T : TypeId) (a b : Value) : Two (w.alloc (.cells #[a, b] T)) w.heap.size T a b := heap_alloc_new w _
theorem Two.alloc {w : World} {g : Nat} {T : TypeId} {a b : Value} (h : Two w g T a b) (o : Obj) : Two (w.alloc o) g T a b := (heap_alloc_old w o h.lt).trans h
def Quad (w : World) (g : Nat) (T : TypeId) (a b c d : Value) : Prop := w.heap[g]? = some (.cells #[a, b, c, d] T (0, 0))
theorem Quad.cells {w : World} {g : Nat} {T : TypeId} {a b c d : Value} (h : Quad w g T a b c d) : w.cell? ⟨g, 0, none⟩ = some a ∧ w.cell? ⟨g, 1, none⟩ = some b ∧ w.cell? ⟨g, 2, none⟩ = some c ∧ w.cell? ⟨g, 3, none⟩ = some d := by
  unfold Quad at h
  refine ⟨?_, ?_, ?_, ?_⟩ <;> (rw [cell_of_row w g _ _ T (0, 0) h]; rfl)
theorem Quad.soft {w : World} {g : Nat} {T : TypeId} {a b c d : Value} (h : Quad w g T a b c d) : w.frozen? ⟨g, 0, none⟩ = false ∧ w.frozen? ⟨g, 1, none⟩ = false ∧ w.frozen? ⟨g, 2, none⟩ = false ∧ w.frozen? ⟨g, 3, none⟩ = false := by
  unfold Quad at h
  refine ⟨?_, ?_, ?_, ?_⟩ <;> simp [World.frozen?, h]
theorem Quad.lt {w : World} {g : Nat} {T : TypeId} {a b c d : Value} (h : Quad w g T a b c d) : g < w.heap.size := (Array.getElem?_eq_some_iff.1 h).1
theorem Quad.below {w w' : World} {g : Nat} {T : TypeId} {a b c d : Value} (h : Quad w g T a b c d) (hb : Below w.heap.size w w') : Quad w' g T a b c d := (hb.block g h.lt).trans h
theorem Quad.set0 {w : World} {g : Nat} {T : TypeId} {a b c d : Value} (h : Quad w g T a b c d) (v : Value) : Quad (w.setCell ⟨g, 0, none⟩ v) g T v b c d := heap_set v h
theorem Quad.set1 {w : World} {g : Nat} {T : TypeId} {a b c d : Value} (h : Quad w g T a b c d) (v : Value) : Quad (w.setCell ⟨g, 1, none⟩ v) g T a v c d := heap_set v h
theorem Quad.set2 {w : World} {g : Nat} {T : TypeId} {a b c d : Value} (h : Quad w g T a b c d) (v : Value) : Quad (w.setCell ⟨g, 2, none⟩ v) g T a b v d := heap_set v h
theorem Quad.set3 {w : World} {g : Nat} {T : TypeId} {a b c d : Value} (h : Quad w g T a b c d) (v : Value) : Quad (w.setCell ⟨g, 3, none⟩ v) g T a b c v := heap_set v h
theorem Quad.far {w : World} {g R j : Nat} {T : TypeId} {a b c d : Value} (h : Quad w g T a b c d) (hne : g ≠ R) (v : Value) : Quad (w.setCell ⟨R, j, none⟩ v) g T a b c d := (Below.heap_setCell _ _ _ _ hne).trans h
theorem Quad.alloc {w : World} {g : Nat} {T : TypeId} {a b c d : Value} (h : Quad w g T a b c d) (o : Obj) : Quad (w.alloc o) g T a b c d := (heap_alloc_old w o h.lt).trans h
theorem quadNew (w : World) (T : TypeId) (a b c d : Value) : Quad (w.alloc (.cells #[a, b, c, d] T)) w.heap.size T a b c d := heap_alloc_new w _
end Go.Proofs.Ytlgafmgohinkbaa
/- Which classes are right. -/
namespace Go.Proofs.Ytlgafmgohinkbaa
open Go.RowKit

theorem calls_any' {P : Program} {f : Nat} {args : Array Value} {w : World} {Q : Ending → World → Prop} (R : World → Prop) (h : R w) (k : ∀ W, R W → Calls P f args W Q) : Calls P f args w Q := k w h
def clsT : ByteArray := ⟨#[99, 108, 97, 115, 115]⟩
theorem hasS_append (a b : List ByteArray) (x : ByteArray) : hasS (a ++ b) x = (hasS a x || hasS b x) := by unfold hasS; rw [List.any_append]
theorem besideV_lt (l m : List ByteArray) : decide ((besideV l m).length < l.length) = !(l.all fun x => !(hasS m x)) := by
  rw [Bool.eq_iff_iff, decide_eq_true_eq, Bool.not_eq_true', List.all_eq_false]
  unfold besideV
  rw [List.length_filter_lt_length_iff_exists]
theorem besideV_zero (l m : List ByteArray) : decide ((besideV l m).length = 0) = l.all fun x => hasS m x := by
  rw [Bool.eq_iff_iff, decide_eq_true_eq, List.all_eq_true, List.length_eq_zero_iff]
  unfold besideV
  rw [List.filter_eq_nil_iff]
  simp
noncomputable def classB (c : ClassV) : Bool := nmL c.nm && (names10 c.must && (names10 c.may && (names10 c.one && ((c.must.all fun x => !(hasS c.may x)) && (!(hasS (c.must ++ c.may) clsT) && c.one.all fun x => hasS (c.must ++ c.may) x)))))
noncomputable def schemaB (l : List ClassV) : Bool := decide (l.length ≤ 6) && (l.all classB && incB clsLt l)
theorem schemaB_bad {l : List ClassV} {k : Nat} (h : k < l.length) (hb : classB l[k] = false) : schemaB l = false := by unfold schemaB; rw [all_bad classB l k h hb]; simp
theorem schemaB_inc {l : List ClassV} {m : Nat} (h : m + 1 < l.length) (hb : clsLt l[m] l[m + 1] = false) : schemaB l = false := by unfold schemaB; rw [incB_no h hb]; simp
theorem schemaB_all {l : List ClassV} (h : l.all classB = true) (hi : ∀ j (h : j + 1 < l.length), clsLt l[j] l[j + 1] = true) : schemaB l = decide (l.length ≤ 6) := by
  unfold schemaB; rw [h, incB_yes hi]; simp
end Go.Proofs.Ytlgafmgohinkbaa
