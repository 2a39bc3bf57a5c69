/- Merged texts: ClsR2, EntEq, EntOpen, EntA1, EntM2, EntA2, ClsR3, ClsB, ClsCat. -/
import Derived.Test.YtmimobniihekiaaM2
import Derived.SliceStrings
import Derived.Lib.SmallJoins
import Derived.Maps.OwnOps
import Derived.Maps.Views
import Derived.Laws.AppendOwnNone
/- SchemaRight: classes in order. -/
namespace Go.Proofs.Ytmimobniihekiaa
open Go.RowKit
attribute [local go_sem ↓] Go.wp_at_zero Go.wp_at_succ

def clsLt (x y : ClassV) : Bool := Op.bytesLess x.nm.toList y.nm.toList
def IsSl (v : Value) : Prop := ∃ o n c, v = .slice o n c
theorem SlV.sl {w : World} {v : Value} {l : List ByteArray} (h : SlV w v l) : IsSl v := by obtain ⟨vo, vc, rfl, _⟩ := h; exact ⟨_, _, _, rfl⟩
set_option maxHeartbeats 1000000 in
theorem compareClass_any (w0 : World) (x y : ClassV) (v1 v2 v3 u1 u2 u3 : Value) (w : World) (i1 : IsSl v1) (i2 : IsSl v2) (i3 : IsSl v3) (j1 : IsSl u1) (j2 : IsSl u2) (j3 : IsSl u3) (hBel : Below w0.heap.size w0 w) :
    Calls Try.prog 48 #[.agg #[.string x.nm, v1, v2, v3], .agg #[.string y.nm, u1, u2, u3]] w fun e w' => (∃ c : Int, e = .returned (.int .i64 c) ∧ decide (0 ≤ c) = !(clsLt x y)) ∧ Below w0.heap.size w0 w' := by
  obtain ⟨_, _, _, rfl⟩ := i1
  obtain ⟨_, _, _, rfl⟩ := i2
  obtain ⟨_, _, _, rfl⟩ := i3
  obtain ⟨_, _, _, rfl⟩ := j1
  obtain ⟨_, _, _, rfl⟩ := j2
  obtain ⟨_, _, _, rfl⟩ := j3
  have HC : Hid (decide (0 ≤ Lib.compareBytes x.nm.data.toList y.nm.data.toList) = !(clsLt x y)) := Lib.hid (by rw [compare_less]; unfold clsLt; rw [Lib.toList_data, Lib.toList_data])
  have HB := Lib.hid hBel; clear hBel
  generalize clsLt x y = r at *
  generalize x.nm = a at *
  generalize y.nm = b at *
  go_enter Try.func48, Try.ntmps48
  go_wp2_with (first
    | (go_at_call 41; refine (Try.strings_Compare _ _ _).mono ?_; rintro e w3 ⟨rfl, rfl⟩)
    | (fail "none"))
  go_ret
  exact ⟨⟨_, rfl, HC.out⟩, more (more HB.out _) _⟩
set_option maxRecDepth 100000 in
set_option maxHeartbeats 2000000 in
theorem incClass_any (ao : Option Addr) (l : List ClassV) (cap : Nat) (w : World) (hd : ClassesAt w ao l) (hl : l.length ≤ 1048576) :
    Calls Try.prog 47 #[.slice ao l.length cap, .func (.func 48) #[] #[]] w fun e w' => e = .returned (.bool (incB clsLt l)) ∧ Below w.heap.size w w' := by
  have HD := Lib.hid hd; clear hd
  go_enter Try.func47, Try.ntmps47
  go_wp2
  go_loopw [5] (fun i wr => ∃ m : Nat, m ≤ l.length ∧ i = .int .i64 ((m : Int) + 1) ∧ (∀ j (h : j + 1 < l.length), j < m → clsLt l[j] l[j + 1] = true) ∧ Below w.heap.size w wr) (fun i _ => l.length + 1 - (intOf i).toNat)
  case atStart => exact ⟨0, Nat.zero_le _, rfl, fun j _ h => absurd h (Nat.not_lt_zero _), Below.refl _ _⟩
  case round =>
    obtain ⟨m, hm, rfl, ha, hbel⟩ := hrel
    have Ha := Lib.hid ha; clear ha
    have hsz := hbel.size
    by_cases hlt : m + 1 < l.length
    · have hm0 : m < l.length := by omega
      obtain ⟨b, off, v1, v2, v3, rfl, hw0, hx⟩ := HD.out.at hm0
      obtain ⟨b', off', u1, u2, u3, e, _, hy⟩ := HD.out.at hlt
      cases e
      obtain ⟨d0, d1, d2, d3, s1, s2, s3⟩ := hx
      obtain ⟨e0, e1, e2, e3, t1, t2, t3⟩ := hy
      have g1 : (m : Int) + 1 < (l.length : Int) := by omega
      have g2 : (0 : Int) ≤ (m : Int) := by omega
      have g3 : (m : Int) < (l.length : Int) := by omega
      have g4 : (0 : Int) ≤ (m : Int) + 1 := by omega
      have HN : Hid (∀ j (h : j + 1 < l.length), j < m + 1 → clsLt l[m] l[m + 1] = true → clsLt l[j] l[j + 1] = true) := Lib.hid (fun j h hj hn => by
        by_cases e : j = m
        · subst e; exact hn
        · exact Ha.out j h (by omega))
      have HX : Hid (clsLt l[m] l[m + 1] = false → incB clsLt l = false) := Lib.hid (fun h => incB_no hlt h)
      generalize hx : l[m] = X at *
      generalize hy : l[m + 1] = Y at *
      clear hx hy
      have CC : Hid (∀ W : World, Below w.heap.size w W → Calls Try.prog 48 #[.agg #[.string X.nm, v1, v2, v3], .agg #[.string Y.nm, u1, u2, u3]] W fun e w' => (∃ c : Int, e = .returned (.int .i64 c) ∧ decide (0 ≤ c) = !(clsLt X Y)) ∧ Below w.heap.size w w') := Lib.hid (fun W h => compareClass_any w X Y v1 v2 v3 u1 u2 u3 W s1.sl s2.sl s3.sl t1.sl t2.sl t3.sl h)
      clear s1 s2 s3 t1 t2 t3
      have SK : Hid (∀ W : World, Below w.heap.size w W → (Below w.heap.size w W ∧ (W.cell? ⟨b, off + m * 4, none⟩ = some (.string X.nm) ∧ W.cell? ⟨b, off + m * 4 + 1, none⟩ = some v1 ∧ W.cell? ⟨b, off + m * 4 + 2, none⟩ = some v2 ∧ W.cell? ⟨b, off + m * 4 + 3, none⟩ = some v3) ∧ (W.cell? ⟨b, off + (m + 1) * 4, none⟩ = some (.string Y.nm) ∧ W.cell? ⟨b, off + (m + 1) * 4 + 1, none⟩ = some u1 ∧ W.cell? ⟨b, off + (m + 1) * 4 + 2, none⟩ = some u2 ∧ W.cell? ⟨b, off + (m + 1) * 4 + 3, none⟩ = some u3))) :=
        Lib.hid (fun W h => ⟨h, ⟨(h.cell (p := ⟨b, _, none⟩) hw0).trans d0, (h.cell (p := ⟨b, _, none⟩) hw0).trans d1, (h.cell (p := ⟨b, _, none⟩) hw0).trans d2, (h.cell (p := ⟨b, _, none⟩) hw0).trans d3⟩, ⟨(h.cell (p := ⟨b, _, none⟩) hw0).trans e0, (h.cell (p := ⟨b, _, none⟩) hw0).trans e1, (h.cell (p := ⟨b, _, none⟩) hw0).trans e2, (h.cell (p := ⟨b, _, none⟩) hw0).trans e3⟩⟩)
      have hbd := hbel.drew
      have hwr : IntKind.i64.wrap (m : Int) = (m : Int) := IntWalk.i64_in _ (by omega)
      have hwr2 : IntKind.i64.wrap ((m : Int) + 1 - 1) = (m : Int) := by rw [Int.add_sub_cancel]; exact hwr
      clear d0 d1 d2 d3 e0 e1 e2 e3
      cases hn : clsLt X Y
      · have HX' := Lib.hid (HX.out hn)
        go_wp2_with fail
        go_region_held3 (fun W => Below w.heap.size w W ∧ (W.cell? ⟨b, off + m * 4, none⟩ = some (.string X.nm) ∧ W.cell? ⟨b, off + m * 4 + 1, none⟩ = some v1 ∧ W.cell? ⟨b, off + m * 4 + 2, none⟩ = some v2 ∧ W.cell? ⟨b, off + m * 4 + 3, none⟩ = some v3) ∧ (W.cell? ⟨b, off + (m + 1) * 4, none⟩ = some (.string Y.nm) ∧ W.cell? ⟨b, off + (m + 1) * 4 + 1, none⟩ = some u1 ∧ W.cell? ⟨b, off + (m + 1) * 4 + 2, none⟩ = some u2 ∧ W.cell? ⟨b, off + (m + 1) * 4 + 3, none⟩ = some u3))
          (exact SK.out _ (by assumption))
          (first | (go_at_call 48; refine (CC.out _ (by assumption)).mono ?_; rintro e w1 ⟨⟨c, rfl, hc⟩, hb1⟩; rw [hn] at hc; have hc0 : 0 ≤ c := (by simpa using hc); clear hc) | (fail "none"))
        all_goals
          go_wp2
          go_ret
          exact ⟨ret_bool (by rw [HX'.out]), hb1⟩
      · skip
        go_wp2_with fail
        go_region_held3 (fun W => Below w.heap.size w W ∧ (W.cell? ⟨b, off + m * 4, none⟩ = some (.string X.nm) ∧ W.cell? ⟨b, off + m * 4 + 1, none⟩ = some v1 ∧ W.cell? ⟨b, off + m * 4 + 2, none⟩ = some v2 ∧ W.cell? ⟨b, off + m * 4 + 3, none⟩ = some v3) ∧ (W.cell? ⟨b, off + (m + 1) * 4, none⟩ = some (.string Y.nm) ∧ W.cell? ⟨b, off + (m + 1) * 4 + 1, none⟩ = some u1 ∧ W.cell? ⟨b, off + (m + 1) * 4 + 2, none⟩ = some u2 ∧ W.cell? ⟨b, off + (m + 1) * 4 + 3, none⟩ = some u3))
          (exact SK.out _ (by assumption))
          (first | (go_at_call 48; refine (CC.out _ (by assumption)).mono ?_; rintro e w1 ⟨⟨c, rfl, hc⟩, hb1⟩; rw [hn] at hc; have hc0 : ¬ 0 ≤ c := (by simpa using hc); clear hc) | (fail "none"))
        all_goals
          go_wp2
          go_roundw
          case rel => exact ⟨m + 1, by omega, by go_num, fun j h hj => HN.out j h hj hn, hb1⟩
          case measure => simp [intOf]; omega
    · have HT : Hid (incB clsLt l = true) := Lib.hid (incB_yes fun j h => Ha.out j h (by omega))
      have g1 : ¬ (m : Int) + 1 < (l.length : Int) := by omega
      go_wp2
      go_ret
      exact ⟨ret_bool (by rw [HT.out]), hbel⟩
end Go.Proofs.Ytmimobniihekiaa
/- The helpers of the laws over entries: comparisons; arguments that are entries. -/
namespace Go.Proofs.Ytmimobniihekiaa
open Go.RowKit
attribute [local go_sem ↓] Go.wp_at_zero Go.wp_at_succ

set_option maxRecDepth 100000 in
set_option maxHeartbeats 1000000 in
theorem eqStringS_same (ao bo : Option Addr) (d : List ByteArray) (ca cb : Nat) (w : World) (hda : StrsAt w ao d) (hdb : StrsAt w bo d) (hl : d.length ≤ 1048576) :
    Calls Try.prog 15 #[.slice ao d.length ca, .slice bo d.length cb] w fun e w' => e = .returned (.bool true) ∧ Below w.heap.size w w' := by
  have HA := Lib.hid hda; have HB := Lib.hid hdb; clear hda hdb
  go_enter Try.func15, Try.ntmps15
  go_wp2
  go_loopw [5] (fun i wr => ∃ k : Nat, k ≤ d.length ∧ i = .int .i64 k ∧ Below w.heap.size w wr) (fun i _ => d.length - (intOf i).toNat)
  case atStart => exact ⟨0, Nat.zero_le _, rfl, Below.refl _ _⟩
  case round =>
    obtain ⟨k, hk, rfl, hbel⟩ := hrel
    have hsz := hbel.size
    by_cases hlt : k < d.length
    · obtain ⟨p, off, rfl, hp0, hd1⟩ := HA.out.at hlt
      obtain ⟨q, off', rfl, hq0, he1⟩ := HB.out.at hlt
      generalize d[k] = A at *
      have c1 := (hbel.cell (p := ⟨p, off + k, none⟩) hp0).trans hd1
      have c2 := (hbel.cell (p := ⟨q, off' + k, none⟩) hq0).trans he1
      have hkk : (A.toList == A.toList) = true := by simp
      clear hd1 he1
      have g1 : (0 : Int) ≤ (k : Int) := by omega
      have g2 : (k : Int) < (d.length : Int) := by omega
      have hbd := hbel.drew
      have c1' : wr.drew.cell? ⟨p, off + k, none⟩ = some (.string A) := c1
      have c2' : wr.drew.cell? ⟨q, off' + k, none⟩ = some (.string A) := c2
      go_wp2_with fail
      go_region_held3 (fun W => Below w.heap.size w W ∧ W.cell? ⟨p, off + k, none⟩ = some (.string A) ∧ W.cell? ⟨q, off' + k, none⟩ = some (.string A))
        (first | exact ⟨hbel, c1, c2⟩ | exact ⟨hbd, c1', c2'⟩)
        (fail "none")
      all_goals
        go_wp2
        go_roundw
        case rel => exact ⟨k + 1, by omega, by go_num, by first | exact hbel | exact hbd⟩
        case measure => simp [intOf]; omega
    · go_wp2
      go_ret
      exact ⟨rfl, hbel⟩
theorem eqStringS_from (w0 : World) (ao bo : Option Addr) (d : List ByteArray) (ca cb : Nat) (w : World) (hB : Below w0.heap.size w0 w) (hda : StrsAt w ao d) (hdb : StrsAt w bo d) (hl : d.length ≤ 1048576) :
    Calls Try.prog 15 #[.slice ao d.length ca, .slice bo d.length cb] w fun e w' => e = .returned (.bool true) ∧ Below w0.heap.size w0 w' :=
  (eqStringS_same ao bo d ca cb w hda hdb hl).mono fun _ _ h => ⟨h.1, hB.trans (h.2.mono hB.size)⟩
end Go.Proofs.Ytmimobniihekiaa
/- Arguments that are entries: where they lie. -/
namespace Go.Proofs.Ytmimobniihekiaa
open Go.RowKit Go.ChangeShapes Go.WideShapes Go.Joins Go.Deep

theorem list_of {α : Type} (Q : Nat → α → Prop) (n : Nat) (h : ∀ i, i < n → ∃ a, Q i a) : ∃ l : List α, l.length = n ∧ ∀ i (hi : i < l.length), Q i l[i] := by
  induction n with
  | zero => exact ⟨[], rfl, fun i hi => by simp at hi⟩
  | succ n ih =>
    obtain ⟨l, hl, hq⟩ := ih fun i hi => h i (by omega)
    obtain ⟨a, ha⟩ := h n (by omega)
    refine ⟨l ++ [a], by simp [hl], fun i hi => ?_⟩
    by_cases e : i < l.length
    · rw [List.getElem_append_left e]; exact hq i e
    · have : i = n := by simp at hi; omega
      subst this
      rw [List.getElem_append_right (by omega)]
      simpa using ha
theorem Try.cells9 : Try.prog.cellsOf 9 = 1 := by kernel_rfl
section
variable {H : Type} {enc : TypeId × Value → H} {w : World} {base : Nat} {spare : Nat → Bool} {held : Bool}
theorem open_vals {t : TypeId} {fuel : Nat} {v : Value} {x : DataW H × List MemPlace} (ht : Try.prog.underlying t = some (.slice 9)) (h : DataW.trod enc Try.prog w base spare held fuel t [v] = some x) :
    ∃ vo vc, ∃ l : List ByteArray, v = .slice vo l.length vc ∧ ValsAt w vo vc l ∧ LongV l := by
  rcases open_strings ht Try.underlying9 Try.cells9 h with ⟨hcs, _⟩ | ⟨a, len, cap, ss, hcs, hb, hl, hm, hlen, _, hc, hs⟩
  · simp at hcs
    subst hcs
    exact ⟨none, 0, [], rfl, ⟨.inl rfl, Nat.le_refl _, fun _ => rfl⟩, by simp, by simp⟩
  · simp at hcs
    subst hcs
    have hle : len ≤ ss.length := by rw [hlen]; split <;> omega
    have htl : (ss.take len).length = len := by rw [List.length_take]; omega
    refine ⟨some a, cap, ss.take len, by rw [htl], ⟨?_, by omega, fun e => by cases e⟩, by unfold maxLen at hm; omega, fun s hs' => hs s (List.mem_of_mem_take hs')⟩
    by_cases h0 : len = 0
    · left; exact List.length_eq_zero_iff.1 (by omega)
    · obtain ⟨b, off, spot⟩ := a
      have hspot : spot = none := by
        have := hc 0 (by omega)
        simpa [Addr.add] using World.cell?_spot this
      subst hspot
      refine .inr ⟨b, off, rfl, ?_, fun i hi => ?_⟩
      · have := World.block_lt_of_cell? w _ (hc 0 (by omega))
        simpa [Addr.add] using this
      · have := hc i (by omega)
        rw [Go.WideShapes.add_plain] at this
        have hi2 : i < ss.length := by omega
        rw [this, List.getElem_take, List.getD_eq_getElem?_getD, List.getElem?_eq_getElem hi2]
        rfl
theorem slice_of {t e : TypeId} {fuel : Nat} {v : Value} {x : DataW H × List MemPlace} (ht : Try.prog.underlying t = some (.slice e)) (h : DataW.trod enc Try.prog w base spare held fuel t [v] = some x) : ∃ ao len cap, v = .slice ao len cap := by
  rcases DataW.trod_slice ht h with ⟨h0, _⟩ | ⟨a, len, cap, elems, rest, n, _, h0, _⟩
  · simp at h0; exact ⟨_, _, _, h0⟩
  · simp at h0; exact ⟨_, _, _, h0⟩
end
end Go.Proofs.Ytmimobniihekiaa
/- AttrOf: the program's copies of texts, and its map of attributes by their names. -/
namespace Go.Proofs.Ytmimobniihekiaa
open Go.RowKit
attribute [local go_sem ↓] Go.wp_at_zero Go.wp_at_succ

theorem concat_copy (a : ByteArray) (w : World) (h : a.size ≤ 10000000) :
    Calls Try.prog 38 #[.slice (some ⟨w.heap.size, 0, none⟩) 1 1] (w.alloc (.cells #[.string a] 9)) fun e w' => e = .returned (.string a) ∧ Below w.heap.size w w' := by
  have := concat_any w.heap.size 0 1 [a] (w.alloc (.cells #[.string a] 9)) (by simp) (by simp) (by simp [joinL]; omega) (fun i hi => by
    match i, hi with
    | 0, _ => simp)
  rw [joinS_one] at this
  exact this.mono fun e w' ⟨he, hb⟩ => ⟨he, ((Below.refl _ _).alloc (Nat.le_refl _) _).trans (hb.mono (by simp))⟩
theorem take_snoc' {α : Type} (l : List α) (k : Nat) (h : k < l.length) : l.take (k + 1) = l.take k ++ [l[k]] := List.take_succ_eq_append_getElem h
set_option maxRecDepth 100000 in
set_option maxHeartbeats 1000000 in
theorem copyTexts_any (vo : Option Addr) (V : List ByteArray) (vc : Nat) (w : World) (hd : StrsAt w vo V) (hf : FitsV V) :
    Calls Try.prog 52 #[.slice vo V.length vc] w fun e w' => (∃ v, e = .returned v ∧ w'.ownsRow w.heap.size 9 1 v V.length (ss V)) ∧ Below w.heap.size w w' := by
  have hl := hf.1
  have HD := Lib.hid hd; have HF := Lib.hid hf; clear hd hf
  go_enter Try.func52, Try.ntmps52
  go_wp2_with fail
  go_loopw [3, 8] (fun v i wr => ∃ k : Nat, k ≤ V.length ∧ i = .int .i64 k ∧ wr.ownsRow w.heap.size 9 1 v (V.take k).length (ss (V.take k)) ∧ Below w.heap.size w wr) (fun _ i _ => V.length - (intOf i).toNat)
  case atStart => exact ⟨0, Nat.zero_le _, rfl, ⟨rfl, .inl ⟨rfl, rfl⟩⟩, Below.refl _ _⟩
  case round =>
    obtain ⟨k, hk, rfl, hown, hbel⟩ := hrel
    have hsz := hbel.size
    by_cases hlt : k < V.length
    · obtain ⟨p, off, rfl, hp0, hd1⟩ := HD.out.at hlt
      have hz := HF.out.at hlt
      have c1 := (hbel.cell (p := ⟨p, off + k, none⟩) hp0).trans hd1
      have HN := Lib.hid (take_snoc' V k hlt)
      have HL : Hid ((V.take k).length ≤ 1000000000) := Lib.hid (by simp; omega)
      have g1 : (0 : Int) ≤ (k : Int) := by omega
      have g2 : (k : Int) < (V.length : Int) := by omega
      clear hd1
      generalize V[k] = x at *
      generalize V.take k = pre at *
      go_wp2_with (first
        | (go_at_call 38; refine (concat_copy x wr (by omega)).mono ?_; rintro e w3 ⟨rfl, hb3⟩; have O3 := own_below hown hb3; have L3 := Nat.le_trans hsz hb3.size; have B3 := hbel.trans (hb3.mono hsz); clear hb3)
        | (at_builtin; refine append_str w.heap.size rfl _ _ rfl _ pre rfl O3 _ rfl HL.out L3 B3 ?_; intro v4 w4 hown4 hbel4 hsz4 _ _)
        | (fail "none"))
      go_roundw
      case rel => exact ⟨k + 1, by omega, by go_num, by rw [HN.out]; exact hown4, hbel4⟩
      case measure => simp [intOf]; omega
    · obtain rfl : k = V.length := by omega
      have HO : Hid (wr.ownsRow w.heap.size 9 1 u3 V.length (ss V)) := Lib.hid (by have h := hown; rw [List.take_length] at h; exact h)
      clear hown
      go_wp2
      go_ret
      exact ⟨⟨_, rfl, HO.out⟩, hbel⟩

/-- how an element of the map reads: as itself -/
def valR (v : Value) : Option (DataW Value × List MemPlace) := some (.held v, [])
def putP (D : DataW Value) (p : ByteArray × Value) : DataW Value := D.put (.string p.1.data.toList) (.held p.2)
/-- the map that a list of pairs lays -/
def mapOf (l : List (ByteArray × Value)) : DataW Value := l.foldl putP (.map [])
theorem mapOf_snoc (l : List (ByteArray × Value)) (p : ByteArray × Value) : mapOf (l ++ [p]) = (mapOf l).put (.string p.1.data.toList) (.held p.2) := by
  unfold mapOf; rw [List.foldl_append]; rfl
/-- what lies in the map of an entry's attributes -/
def AttrVals (w : World) (l : List AttrV) (ps : List (ByteArray × Value)) : Prop :=
  ps.length = l.length ∧ ∀ i (h : i < l.length) (h' : i < ps.length), ps[i].1 = l[i].1 ∧ ∃ vo vc, ps[i].2 = .agg #[.string l[i].1, .slice vo l[i].2.length vc] ∧ ValsAt w vo vc l[i].2
theorem AttrVals.snoc {w : World} {l : List AttrV} {ps : List (ByteArray × Value)} (h : AttrVals w l ps) (a : AttrV) (vo : Option Addr) (vc : Nat) (hv : ValsAt w vo vc a.2) : AttrVals w (l ++ [a]) (ps ++ [(a.1, .agg #[.string a.1, .slice vo a.2.length vc])]) := by
  refine ⟨by simp [h.1], fun i h1 h2 => ?_⟩
  by_cases e : i < l.length
  · have e' : i < ps.length := by rw [h.1]; exact e
    rw [List.getElem_append_left e, List.getElem_append_left e']
    exact h.2 i e e'
  · have hi : i = l.length := by simp at h1; omega
    subst hi
    have hl := h.1
    rw [List.getElem_append_right (Nat.le_refl _), List.getElem_append_right (by omega)]
    simp only [hl, Nat.sub_self, List.getElem_cons_zero]
    exact ⟨trivial, vo, vc, rfl, hv⟩
theorem Try.keyed9 : Maps.Keyed Try.prog 9 := Maps.string_keyed Try.underlying9
end Go.Proofs.Ytmimobniihekiaa
/- Attributes by their names: plain facts. -/
namespace Go.Proofs.Ytmimobniihekiaa
open Go.RowKit

theorem less_irrefl : ∀ a : List UInt8, Op.bytesLess a a = false
  | [] => rfl
  | a :: xs => by
    have ih := less_irrefl xs
    unfold Op.bytesLess
    simp [ih]
theorem less_trans : ∀ a b c : List UInt8, Op.bytesLess a b = true → Op.bytesLess b c = true → Op.bytesLess a c = true
  | [], [], _, h, _ => by simp [Op.bytesLess] at h
  | [], _ :: _, [], _, h => by simp [Op.bytesLess] at h
  | [], _ :: _, _ :: _, _, _ => by simp [Op.bytesLess]
  | _ :: _, [], _, h, _ => by simp [Op.bytesLess] at h
  | _ :: _, _ :: _, [], _, h => by simp [Op.bytesLess] at h
  | a :: xs, b :: ys, c :: zs, h1, h2 => by
    have ih := less_trans xs ys zs
    unfold Op.bytesLess at h1 h2 ⊢
    simp at h1 h2 ⊢
    rcases h1 with h1 | ⟨rfl, h1⟩
    · rcases h2 with h2 | ⟨rfl, h2⟩
      · exact .inl (UInt8.lt_trans h1 h2)
      · exact .inl h1
    · rcases h2 with h2 | ⟨rfl, h2⟩
      · exact .inl h2
      · exact .inr ⟨rfl, ih h1 h2⟩
theorem inc_far {α : Type} {lt : α → α → Bool} (tr : ∀ a b c, lt a b = true → lt b c = true → lt a c = true) {l : List α} (h : incB lt l = true) : ∀ (i j : Nat) (hi : i < l.length) (hj : j < l.length), i < j → lt l[i] l[j] = true := by
  have h1 : ∀ i (h : i + 1 < l.length), lt l[i] l[i + 1] = true := @of_decide_eq_true _ (Classical.propDecidable _) h
  intro i j
  induction j with
  | zero => intro _ _ h; omega
  | succ j ih =>
    intro hi hj hij
    by_cases e : i = j
    · subst e; exact h1 i hj
    · exact tr _ _ _ (ih hi (by omega) (by omega)) (h1 j hj)
theorem names_apart {d : RdnL} {l : List AttrV} (h : rightB d l = true) : ∀ (i j : Nat) (hi : i < l.length) (hj : j < l.length), i < j → l[i].1 ≠ l[j].1 := by
  unfold rightB attrsB at h
  simp only [Bool.and_eq_true] at h
  intro i j hi hj hij e
  have := inc_far (lt := nameLt) (fun a b c => less_trans _ _ _) h.2.2 i j hi hj hij
  unfold nameLt at this
  rw [e, less_irrefl] at this
  cases this
theorem name_short {d : RdnL} {l : List AttrV} (h : rightB d l = true) {a : AttrV} (ha : a ∈ l) : a.1.size ≤ 20 := by
  unfold rightB attrsB at h
  simp only [Bool.and_eq_true, List.all_eq_true] at h
  have := h.2.1.2 a ha
  unfold attrB nmL at this
  simp only [Bool.and_eq_true, decide_eq_true_eq] at this
  exact this.1.1.1.2
/-- the number of the attribute of a name -/
def atN (l : List AttrV) (nm : ByteArray) : Option Nat := l.findIdx? (fun a => decide (a.1 = nm))
def valsOf (l : List AttrV) (nm : ByteArray) : List ByteArray := match atN l nm with | some i => (l.getD i (ByteArray.empty, [])).2 | none => []
theorem atN_some {l : List AttrV} {nm : ByteArray} {i : Nat} (h : atN l nm = some i) : ∃ hi : i < l.length, l[i].1 = nm ∧ valsOf l nm = l[i].2 ∧ ∀ j (hj : j < i), l[j].1 ≠ nm := by
  have h' := h
  unfold atN at h'
  rw [List.findIdx?_eq_some_iff_getElem] at h'
  obtain ⟨hi, h1, h2⟩ := h'
  refine ⟨hi, by simpa using h1, ?_, fun j hj => by simpa using h2 j hj⟩
  unfold valsOf
  rw [h]
  simp [hi]
theorem atN_none {l : List AttrV} {nm : ByteArray} (h : atN l nm = none) : (∀ a ∈ l, a.1 ≠ nm) ∧ valsOf l nm = [] := by
  have h' := h
  unfold atN at h'
  rw [List.findIdx?_eq_none_iff] at h'
  refine ⟨fun a ha => by simpa using h' a ha, ?_⟩
  unfold valsOf
  rw [h]
theorem isMap_mapOf (ps : List (ByteArray × Value)) : Maps.IsMap (mapOf ps) := by
  have : ∀ (ps : List (ByteArray × Value)) (D : DataW Value), Maps.IsMap D → Maps.IsMap (ps.foldl putP D) := by
    intro ps
    induction ps with
    | nil => intro D h; exact h
    | cons p ps ih => intro D h; exact ih _ (h.put _ _)
  exact this ps _ Maps.isMap_empty
theorem key_ne {a b : ByteArray} (h : a ≠ b) : Lit.string a.data.toList ≠ Lit.string b.data.toList := by
  intro e
  injection e with e
  exact h (ByteArray.ext (Array.toList_inj.1 e))
theorem snoc_rec {α : Type} {P : List α → Prop} (h0 : P []) (h1 : ∀ l a, P l → P (l ++ [a])) (l : List α) : P l := by
  have : ∀ r : List α, P r.reverse := by
    intro r
    induction r with
    | nil => exact h0
    | cons a r ih => rw [List.reverse_cons]; exact h1 _ _ ih
  simpa using this l.reverse
theorem mapOf_miss (ps : List (ByteArray × Value)) (nm : ByteArray) (z : DataW Value) (h : ∀ p ∈ ps, p.1 ≠ nm) : (mapOf ps).atKey (.string nm.data.toList) z = z := by
  revert h
  refine snoc_rec (P := fun ps => (∀ p ∈ ps, p.1 ≠ nm) → (mapOf ps).atKey (.string nm.data.toList) z = z) ?_ ?_ ps
  · intro _; rfl
  · intro ps p ih h
    rw [mapOf_snoc, Maps.atKey_put_other (key_ne (h p (by simp)).symm)]
    exact ih fun q hq => h q (by simp [hq])
theorem mapOf_hit (ps : List (ByteArray × Value)) (nm : ByteArray) (z : DataW Value) (i : Nat) (hi : i < ps.length) (h1 : ps[i].1 = nm) (h2 : ∀ j (hj : j < ps.length), i < j → ps[j].1 ≠ nm) : (mapOf ps).atKey (.string nm.data.toList) z = .held ps[i].2 := by
  revert hi h1 h2
  refine snoc_rec (P := fun ps => ∀ (hi : i < ps.length), ps[i].1 = nm → (∀ j (hj : j < ps.length), i < j → ps[j].1 ≠ nm) → (mapOf ps).atKey (.string nm.data.toList) z = .held ps[i].2) ?_ ?_ ps
  · intro hi; simp at hi
  · intro ps p ih hi h1 h2
    by_cases e : i < ps.length
    · rw [mapOf_snoc]
      have hp : p.1 ≠ nm := by
        have := h2 ps.length (by simp) e
        simpa using this
      rw [Maps.atKey_put_other (key_ne hp.symm)]
      rw [List.getElem_append_left e] at h1 ⊢
      exact ih e h1 (fun j hj hij => by have := h2 j (by simp; omega) hij; rwa [List.getElem_append_left hj] at this)
    · have hi' : i = ps.length := by simp at hi; omega
      subst hi'
      rw [mapOf_snoc]
      simp only [List.getElem_append_right (Nat.le_refl _), Nat.sub_self, List.getElem_cons_zero] at h1 ⊢
      rw [← h1]
      exact Maps.atKey_put_same (isMap_mapOf ps) (by trivial) _ _
/-- what the map of a valid entry's attributes holds at a name -/
theorem map_at {w : World} {d : RdnL} {l : List AttrV} {ps : List (ByteArray × Value)} (h : AttrVals w l ps) (hr : rightB d l = true) (nm : ByteArray) :
    ∃ x vo vc, (mapOf ps).atKey (.string nm.data.toList) (.held (.agg #[.string ByteArray.empty, .slice none 0 0])) = .held (.agg #[.string x, .slice vo (valsOf l nm).length vc]) ∧ ValsAt w vo vc (valsOf l nm) := by
  have hl := h.1
  cases ha : atN l nm with
  | none =>
    obtain ⟨h1, h2⟩ := atN_none ha
    refine ⟨ByteArray.empty, none, 0, ?_, ?_⟩
    · rw [h2]
      refine mapOf_miss ps nm _ fun p hp => ?_
      obtain ⟨i, hi, rfl⟩ := List.getElem_of_mem hp
      rw [(h.2 i (by omega) hi).1]
      exact h1 _ (List.getElem_mem _)
    · rw [h2]; exact ⟨.inl rfl, Nat.le_refl _, fun _ => rfl⟩
  | some i =>
    obtain ⟨hi, h1, h2, _⟩ := atN_some ha
    obtain ⟨q1, vo, vc, q2, q3⟩ := h.2 i hi (by omega)
    refine ⟨l[i].1, vo, vc, ?_, by rw [h2]; exact q3⟩
    rw [mapOf_hit ps nm _ i (by omega) (q1.trans h1) (fun j hj hij => by
      rw [(h.2 j (by omega) hj).1, ← h1]
      exact (names_apart hr i j hi (by omega) hij).symm), q2, h2]
end Go.Proofs.Ytmimobniihekiaa
/- AttrOf: what the program returns, and what the specification returns. -/
namespace Go.Proofs.Ytmimobniihekiaa
open Go.RowKit
attribute [local go_sem ↓] Go.wp_at_zero Go.wp_at_succ

noncomputable def attrOfL (d : RdnL) (l : List AttrV) (nm : ByteArray) : List ByteArray := if rightB d l = true then valsOf l nm else []
theorem attrOf_yes {d : RdnL} {l : List AttrV} (h : rightB d l = true) (nm : ByteArray) : attrOfL d l nm = valsOf l nm := by unfold attrOfL; rw [if_pos h]
theorem attrOf_no {d : RdnL} {l : List AttrV} (h : rightB d l = false) (nm : ByteArray) : attrOfL d l nm = [] := by unfold attrOfL; rw [h]; rfl
theorem attrOf_long {d : RdnL} {l : List AttrV} {nm : ByteArray} (h : 20 < nm.size) : attrOfL d l nm = [] := by
  unfold attrOfL
  split
  · rename_i hr
    cases ha : atN l nm with
    | none => exact (atN_none ha).2
    | some i =>
      obtain ⟨hi, h1, _⟩ := atN_some ha
      have := name_short hr (List.getElem_mem hi)
      rw [h1] at this; omega
  · rfl
theorem FitsV.nil : FitsV [] := ⟨by simp, fun s h => by simp at h⟩
theorem valsOf_fits {l : List AttrV} (h : FitsA l) (nm : ByteArray) : FitsV (valsOf l nm) := by
  cases ha : atN l nm with
  | none => rw [(atN_none ha).2]; exact .nil
  | some i =>
    obtain ⟨hi, _, h2, _⟩ := atN_some ha
    rw [h2]; exact (h.at hi).2
/-- new texts are returned -/
def GivesV (w : World) (V : List ByteArray) (e : Ending) (w' : World) : Prop := (∃ v, e = .returned v ∧ w'.ownsRow w.heap.size 9 1 v V.length (ss V)) ∧ Below w.heap.size w w'
theorem own_none (w : World) (B : Nat) : w.ownsRow B 9 1 (.slice none 0 0) 0 (ss []) := ⟨rfl, .inl ⟨rfl, rfl⟩⟩
theorem ss_one (l : List ByteArray) : ∀ u ∈ ss l, u.oneCell' = true := by
  intro u hu
  unfold ss at hu
  obtain ⟨s, _, rfl⟩ := List.mem_map.1 hu
  rfl
theorem ss_append (a b : List ByteArray) : ss (a ++ b) = ss a ++ ss b := by unfold ss; rw [List.map_append]
theorem strs_cells {w : World} {b off : Nat} {d : List ByteArray} (h : StrsAt w (some ⟨b, off, none⟩) d) : ∀ j u, (ss d)[j]? = some u → w.cell? ((⟨b, off, none⟩ : Addr).add j) = some u := by
  intro j u hu
  have ea : (⟨b, off, none⟩ : Addr).add j = ⟨b, off + j, none⟩ := by unfold Addr.add; split <;> simp_all
  rw [ea]
  unfold ss at hu
  rw [List.getElem?_map] at hu
  by_cases hj : j < d.length
  · rw [List.getElem?_eq_getElem hj] at hu
    obtain ⟨b', off', e, _, c⟩ := h.at hj
    cases e
    rw [c, ← hu]; rfl
  · rw [List.getElem?_eq_none (by omega)] at hu; cases hu
/-- append(v, texts...) onto a row that the call owns -/
theorem append_strs {ops : Array Oper} {rest : List Oper} {o : Oper} {a : Act} {Q : Exit → Act → World → Prop} {w0 wr : World} (B : Nat) (hgd : o.guard = none) (s x : Operand)
    (ho : o.op = .call { callee := .builtin .append, args := #[s, x], argTypes := #[29, 29] }) (v : Value) (pre : List ByteArray) (hs : a.eval s = v) (hown : wr.ownsRow B 9 1 v pre.length (ss pre))
    (ao : Option Addr) (d : List ByteArray) (c n : Nat) (hn : n = d.length) (hx : a.eval x = .slice ao n c) (hd : StrsAt wr ao d) (hc : ao = none → c = 0) (hlen : pre.length + d.length ≤ 1000000000) (hB : B ≤ wr.heap.size) (hbel : Below B w0 wr)
    (h : ∀ v' w', w'.ownsRow B 9 1 v' (pre ++ d).length (ss (pre ++ d)) → Below B w0 w' → wpList Try.prog ops Q rest (a.put o.dst v') w') :
    wpList Try.prog ops Q (o :: rest) a wr := by
  obtain ⟨i0, hi, hz0, hz1, hz2⟩ := info_parts Try.info9
  subst hn
  rcases ao with _ | ad
  · have hd0 : d = [] := by
      rcases hd with h | ⟨b, off, e, _⟩
      · exact h
      · cases e
    subst hd0
    have := hc rfl
    subst this
    refine wpList_append_own_none hgd s x 29 ho B 9 i0 1 Try.underlying29 hi v pre.length (ss pre) hs hown hx (h v wr (by rw [List.append_nil]; exact hown) hbel)
  · have hnews : ∀ j u, (ss d)[j]? = some u → wr.cell? (ad.add j) = some u := by
      rcases hd with hd | ⟨b, off, e, h2, h3⟩
      · subst hd; intro j u hu; simp [ss] at hu
      · cases e; exact strs_cells (.inr ⟨b, off, rfl, h2, h3⟩)
    refine wpList_append_own _ hgd s x 29 ho B 9 i0 _ 1 16 Try.underlying29 hi hz0 hz1 hz2 rfl (by decide) v pre.length (ss pre) hs hown ad d.length c (ss d) hx (by rw [ss_length]; omega) hnews (ss_one d) ?_ ?_ hB ?_
    · unfold maxLen; omega
    · omega
    · intro v' w' h1 h2 h3
      refine h v' w' ?_ (hbel.grown h2 hB (fun k hk => (hown.lt k hk).1))
      rw [ss_append, List.length_append]; exact h1
end Go.Proofs.Ytmimobniihekiaa
/- Names among others: what slices.Contains and the specification's look-up return. -/
namespace Go.Proofs.Ytmimobniihekiaa
open Go.RowKit
attribute [local go_sem ↓] Go.wp_at_zero Go.wp_at_succ

def hasS (l : List ByteArray) (x : ByteArray) : Bool := l.any fun y => y.toList == x.toList
theorem hasS_yes {l : List ByteArray} {x : ByteArray} {k : Nat} (hk : k < l.length) (h : (l[k].toList == x.toList) = true) : hasS l x = true := by
  unfold hasS
  rw [List.any_eq_true]
  exact ⟨l[k], List.getElem_mem hk, h⟩
theorem hasS_no {l : List ByteArray} {x : ByteArray} (h : ∀ j (h : j < l.length), (l[j].toList == x.toList) = false) : hasS l x = false := by
  unfold hasS
  rw [List.any_eq_false]
  intro y hy
  obtain ⟨i, hi, rfl⟩ := List.getElem_of_mem hy
  rw [h i hi]; simp
theorem beq_swap (a b : ByteArray) : (a.toList == b.toList) = (b.toList == a.toList) := by
  rw [Bool.eq_iff_iff]; simp only [beq_iff_eq]; exact ⟨Eq.symm, Eq.symm⟩
set_option maxRecDepth 100000 in
set_option maxHeartbeats 1000000 in
theorem index_any (ao : Option Addr) (l : List ByteArray) (cap : Nat) (x : ByteArray) (w : World) (hd : StrsAt w ao l) (hl : l.length ≤ 10000000) :
    Calls Try.prog 82 #[.slice ao l.length cap, .string x] w fun e w' => (∃ n : Int, e = .returned (.int .i64 n) ∧ decide (0 ≤ n) = hasS l x) ∧ w' = w := by
  have HD := Lib.hid hd; clear hd
  go_enter Try.func82, Try.ntmps82
  go_wp2
  go_loopw [5, 8] (fun _ i wr => ∃ k : Nat, k ≤ l.length ∧ i = .int .i64 k ∧ (∀ j (h : j < l.length), j < k → (l[j].toList == x.toList) = false) ∧ wr = w) (fun _ i _ => l.length - (intOf i).toNat)
  case atStart => exact ⟨0, Nat.zero_le _, rfl, fun j _ h => absurd h (Nat.not_lt_zero _), by trivial⟩
  case round =>
    obtain ⟨k, hk, rfl, ha, rfl⟩ := hrel
    have Ha := Lib.hid ha; clear ha
    by_cases hlt : k < l.length
    · obtain ⟨b, off, rfl, hb0, hc1⟩ := HD.out.at hlt
      have HY : Hid ((l[k].toList == x.toList) = true → hasS l x = true) := Lib.hid (fun h => hasS_yes hlt h)
      have HN : Hid ((l[k].toList == x.toList) = false → ∀ j (h : j < l.length), j < k + 1 → (l[j].toList == x.toList) = false) := Lib.hid (fun hn j h hj => by
        by_cases e : j = k
        · subst e; exact hn
        · exact Ha.out j h (by omega))
      generalize l[k] = A at *
      have hsw := beq_swap x A
      cases hq : (A.toList == x.toList)
      · rw [hq] at hsw
        have HN' := Lib.hid (HN.out hq)
        go_wp2
        go_roundw
        case rel => exact ⟨k + 1, by omega, by go_num, HN'.out, trivial⟩
        case measure => simp [intOf]; omega
      · rw [hq] at hsw
        have HY' := Lib.hid (HY.out hq)
        go_wp2
        go_ret
        exact ⟨⟨_, rfl, by rw [HY'.out]; exact decide_eq_true (by omega)⟩, rfl⟩
    · have HN' : Hid (hasS l x = false) := Lib.hid (hasS_no fun j h => Ha.out j h (by omega))
      go_wp2
      go_ret
      exact ⟨⟨_, rfl, by rw [HN'.out]; rfl⟩, rfl⟩
set_option maxHeartbeats 1000000 in
theorem contains_any (ao : Option Addr) (l : List ByteArray) (cap : Nat) (x : ByteArray) (w : World) (hd : StrsAt w ao l) (hl : l.length ≤ 10000000) :
    Calls Try.prog 69 #[.slice ao l.length cap, .string x] w fun e w' => e = .returned (.bool (hasS l x)) ∧ w' = w := by
  have HD := Lib.hid hd; clear hd
  go_enter Try.func69, Try.ntmps69
  go_wp2_with fail
  refine (index_any ao l cap x w HD.out hl).mono ?_
  rintro e w' ⟨⟨n, rfl, hn⟩, rfl⟩
  have HN := Lib.hid hn; clear hn
  by_cases h : 0 ≤ n
  · have HR : Hid (hasS l x = true) := Lib.hid (by rw [← HN.out]; exact decide_eq_true h)
    go_wp2
    go_ret
    exact ⟨ret_bool (by rw [HR.out]), rfl⟩
  · have HR : Hid (decide (0 ≤ n) = hasS l x) := HN
    go_wp2
    go_ret
    exact ⟨ret_bool HR.out, rfl⟩
set_option maxRecDepth 100000 in
set_option maxHeartbeats 1000000 in
theorem l04Has_any (ao : Option Addr) (l : List ByteArray) (cap : Nat) (x : ByteArray) (w : World) (hd : StrsAt w ao l) (hl : l.length ≤ 10000000) :
    Calls Try.prog 64 #[.slice ao l.length cap, .string x] w fun e w' => e = .returned (.bool (hasS l x)) ∧ w' = w := by
  have HD := Lib.hid hd; clear hd
  go_enter Try.func64, Try.ntmps64
  go_wp2
  go_loopw [5] (fun i wr => ∃ k : Nat, k ≤ l.length ∧ i = .int .i64 k ∧ (∀ j (h : j < l.length), j < k → (l[j].toList == x.toList) = false) ∧ wr = w) (fun i _ => l.length - (intOf i).toNat)
  case atStart => exact ⟨0, Nat.zero_le _, rfl, fun j _ h => absurd h (Nat.not_lt_zero _), by trivial⟩
  case round =>
    obtain ⟨k, hk, rfl, ha, rfl⟩ := hrel
    have Ha := Lib.hid ha; clear ha
    by_cases hlt : k < l.length
    · obtain ⟨b, off, rfl, hb0, hc1⟩ := HD.out.at hlt
      have HY : Hid ((l[k].toList == x.toList) = true → hasS l x = true) := Lib.hid (fun h => hasS_yes hlt h)
      have HN : Hid ((l[k].toList == x.toList) = false → ∀ j (h : j < l.length), j < k + 1 → (l[j].toList == x.toList) = false) := Lib.hid (fun hn j h hj => by
        by_cases e : j = k
        · subst e; exact hn
        · exact Ha.out j h (by omega))
      generalize l[k] = A at *
      cases hq : (A.toList == x.toList)
      · have HN' := Lib.hid (HN.out hq)
        go_wp2
        go_roundw
        case rel => exact ⟨k + 1, by omega, by go_num, HN'.out, trivial⟩
        case measure => simp [intOf]; omega
      · have HY' := Lib.hid (HY.out hq)
        go_wp2
        go_ret
        exact ⟨ret_bool (by rw [HY'.out]), rfl⟩
    · have HN' : Hid (hasS l x = false) := Lib.hid (hasS_no fun j h => Ha.out j h (by omega))
      go_wp2
      go_ret
      exact ⟨ret_bool (by rw [HN'.out]), rfl⟩
/-- those of the names that are not among the others -/
def besideV (l m : List ByteArray) : List ByteArray := l.filter fun x => !(hasS m x)
theorem besideV_succ (l m : List ByteArray) (k : Nat) (h : k < l.length) : besideV (l.take (k + 1)) m = besideV (l.take k) m ++ (if hasS m l[k] then [] else [l[k]]) := by
  unfold besideV
  rw [List.take_succ_eq_append_getElem h, List.filter_append]
  congr 1
  cases hq : hasS m l[k] <;> simp [hq]
theorem besideV_len (l m : List ByteArray) (k : Nat) : (besideV (l.take k) m).length ≤ l.length := by
  unfold besideV
  exact Nat.le_trans (List.length_filter_le _ _) (by rw [List.length_take]; omega)
set_option maxRecDepth 100000 in
set_option maxHeartbeats 2000000 in
theorem beside_any (ao bo : Option Addr) (l m : List ByteArray) (ca cb : Nat) (w : World) (hd : StrsAt w ao l) (he : StrsAt w bo m) (hl : l.length ≤ 1048576) (hm : m.length ≤ 10000000) :
    Calls Try.prog 68 #[.slice ao l.length ca, .slice bo m.length cb] w (GivesV w (besideV l m)) := by
  have HD := Lib.hid hd; have HE := Lib.hid he; clear hd he
  go_enter Try.func68, Try.ntmps68
  go_wp2_with fail
  go_loopw [5, 10] (fun v i wr => ∃ k : Nat, k ≤ l.length ∧ i = .int .i64 k ∧ wr.ownsRow w.heap.size 9 1 v (besideV (l.take k) m).length (ss (besideV (l.take k) m)) ∧ Below w.heap.size w wr) (fun _ i _ => l.length - (intOf i).toNat)
  case atStart => exact ⟨0, Nat.zero_le _, rfl, ⟨rfl, .inl ⟨rfl, rfl⟩⟩, Below.refl _ _⟩
  case round =>
    obtain ⟨k, hk, rfl, hown, hbel⟩ := hrel
    have hsz := hbel.size
    by_cases hlt : k < l.length
    · obtain ⟨p, off, rfl, hp0, hd1⟩ := HD.out.at hlt
      have c1 := (hbel.cell (p := ⟨p, off + k, none⟩) hp0).trans hd1
      have HN := Lib.hid (besideV_succ l m k hlt)
      have HL : Hid ((besideV (l.take k) m).length ≤ 1000000000) := Lib.hid (by have := besideV_len l m k; omega)
      have HE' := Lib.hid (HE.out.below hbel)
      have g1 : (0 : Int) ≤ (k : Int) := by omega
      have g2 : (k : Int) < (l.length : Int) := by omega
      clear hd1
      generalize l[k] = x at *
      generalize besideV (l.take k) m = pre at *
      cases hq : hasS m x
      · rw [hq] at HN
        go_wp2_with (first
          | (go_at_call 69; refine (contains_any bo m cb x wr HE'.out hm).mono ?_; rintro e w3 ⟨rfl, rfl⟩; rw [hq])
          | (at_builtin; refine append_str w.heap.size rfl _ _ rfl _ pre rfl hown _ rfl HL.out hsz hbel ?_; intro v4 w4 hown4 hbel4 hsz4 _ _)
          | (fail "none"))
        go_roundw
        case rel => exact ⟨k + 1, by omega, by go_num, by rw [HN.out]; exact hown4, hbel4⟩
        case measure => simp [intOf]; omega
      · rw [hq] at HN
        go_wp2_with (first
          | (go_at_call 69; refine (contains_any bo m cb x wr HE'.out hm).mono ?_; rintro e w3 ⟨rfl, rfl⟩; rw [hq])
          | (fail "none"))
        go_roundw
        case rel => exact ⟨k + 1, by omega, by go_num, by rw [HN.out]; simpa using hown, hbel⟩
        case measure => simp [intOf]; omega
    · obtain rfl : k = l.length := by omega
      have HO : Hid (wr.ownsRow w.heap.size 9 1 u5 (besideV l m).length (ss (besideV l m))) := Lib.hid (by have h := hown; rw [List.take_length] at h; exact h)
      clear hown
      go_wp2
      go_ret
      exact ⟨⟨_, rfl, HO.out⟩, hbel⟩
end Go.Proofs.Ytmimobniihekiaa
/- Which classes are right. -/
namespace Go.Proofs.Ytmimobniihekiaa
open Go.RowKit

def clsT : ByteArray := ⟨#[99, 108, 97, 115, 115]⟩
theorem hasS_append (a b : List ByteArray) (x : ByteArray) : hasS (a ++ b) x = (hasS a x || hasS b x) := by unfold hasS; rw [List.any_append]
theorem besideV_lt (l m : List ByteArray) : decide ((besideV l m).length < l.length) = !(l.all fun x => !(hasS m x)) := by
  rw [Bool.eq_iff_iff, decide_eq_true_eq, Bool.not_eq_true', List.all_eq_false]
  unfold besideV
  rw [List.length_filter_lt_length_iff_exists]
theorem besideV_zero (l m : List ByteArray) : decide ((besideV l m).length = 0) = l.all fun x => hasS m x := by
  rw [Bool.eq_iff_iff, decide_eq_true_eq, List.all_eq_true, List.length_eq_zero_iff]
  unfold besideV
  rw [List.filter_eq_nil_iff]
  simp
noncomputable def classB (c : ClassV) : Bool := nmL c.nm && (names10 c.must && (names10 c.may && (names10 c.one && ((c.must.all fun x => !(hasS c.may x)) && (!(hasS (c.must ++ c.may) clsT) && c.one.all fun x => hasS (c.must ++ c.may) x)))))
noncomputable def schemaB (l : List ClassV) : Bool := decide (l.length ≤ 6) && (l.all classB && incB clsLt l)
theorem schemaB_bad {l : List ClassV} {k : Nat} (h : k < l.length) (hb : classB l[k] = false) : schemaB l = false := by unfold schemaB; rw [all_bad classB l k h hb]; simp
theorem schemaB_inc {l : List ClassV} {m : Nat} (h : m + 1 < l.length) (hb : clsLt l[m] l[m + 1] = false) : schemaB l = false := by unfold schemaB; rw [incB_no h hb]; simp
theorem schemaB_all {l : List ClassV} (h : l.all classB = true) (hi : ∀ j (h : j + 1 < l.length), clsLt l[j] l[j + 1] = true) : schemaB l = decide (l.length ≤ 6) := by
  unfold schemaB; rw [h, incB_yes hi]; simp
end Go.Proofs.Ytmimobniihekiaa
/- slices.Concat of two rows of texts. -/
namespace Go.Proofs.Ytmimobniihekiaa
open Go.RowKit
attribute [local go_sem ↓] Go.wp_at_zero Go.wp_at_succ

theorem own_grown (w : World) (n : Nat) (hn : n ≤ 10000000) : (w.alloc (.cells (Builtin.zeroCells #[.string ⟨#[]⟩] n ++ Builtin.zeroCells #[.string ⟨#[]⟩] (grownCap w n 0 9 - n)) 9)).drew.ownsRow w.heap.size 9 1 (.slice (some ⟨w.heap.size, 0, none⟩) 0 (grownCap w n 0 9)) 0 (ss []) := by
  have h1 := grownCap_ge w n 0 9
  have h2 := grownCap_le_maxLen w n 0 9 (by unfold maxLen; omega)
  refine ⟨rfl, .inr ⟨_, _, _, rfl, Nat.le_refl _, heap_alloc_new w _, Nat.zero_le _, h2, ?_, by simp [ss]⟩⟩
  simp [Builtin.zeroCells]
  omega
set_option maxRecDepth 100000 in
set_option maxHeartbeats 1000000 in
theorem grow_any (n : Nat) (w : World) (hn : n ≤ 10000000) : Calls Try.prog 83 #[.slice none 0 0, .int .i64 (n : Int)] w (GivesV w []) := by
  by_cases h0 : n = 0
  · subst h0
    go_enter Try.func83, Try.ntmps83
    go_wp2
    go_ret
    exact ⟨⟨_, rfl, own_none _ _⟩, Below.refl _ _⟩
  · have g0 : 0 < (n : Int) := by omega
    have g1 : ¬ (n : Int) < 0 := by omega
    have hby : Try.t9.bytes = 16 := rfl
    have c1 : ¬ 281474976710656 < (n : Int) * (Try.t9.bytes : Int) := by rw [hby]; omega
    have c2 : ¬ 281474976710656 < Builtin.nextslicecap n 0 * Try.t9.bytes := by rw [hby, nextslicecap_zero (by omega)]; omega
    clear hby
    have HO := Lib.hid (own_grown w n hn)
    have HB : Hid (∀ C : Array Value, Below w.heap.size w (w.alloc (.cells C 9)).drew) := Lib.hid (fun C => (more (Below.refl _ _) _).drew)
    go_enter Try.func83, Try.ntmps83
    go_wp2
    go_ret
    exact ⟨⟨_, rfl, HO.out⟩, HB.out _⟩
/-- a slice of slices of texts -/
structure Part where
  ao : Option Addr
  cap : Nat
  txt : List ByteArray
def PartsV (w : World) (b off : Nat) (ps : List Part) : Prop :=
  b < w.heap.size ∧ ∀ i (h : i < ps.length), w.cell? ⟨b, off + i, none⟩ = some (.slice ps[i].ao ps[i].txt.length ps[i].cap) ∧ StrsAt w ps[i].ao ps[i].txt ∧ (ps[i].ao = none → ps[i].cap = 0) ∧ ps[i].txt.length ≤ 1048576
theorem PartsV.below {w w' : World} {b off : Nat} {ps : List Part} (h : PartsV w b off ps) (hb : Below w.heap.size w w') : PartsV w' b off ps :=
  ⟨Nat.lt_of_lt_of_le h.1 hb.size, fun i hi => ⟨(hb.cell (p := ⟨b, _, none⟩) h.1).trans (h.2 i hi).1, (h.2 i hi).2.1.below hb, (h.2 i hi).2.2⟩⟩
def flatV (ps : List Part) : List ByteArray := ps.flatMap (·.txt)
theorem flatV_succ (ps : List Part) (k : Nat) (h : k < ps.length) : flatV (ps.take (k + 1)) = flatV (ps.take k) ++ ps[k].txt := by
  unfold flatV; rw [List.take_succ_eq_append_getElem h, List.flatMap_append]; simp
theorem flatV_len (ps : List Part) (h : ∀ p ∈ ps, p.txt.length ≤ 1048576) : (flatV ps).length ≤ ps.length * 1048576 := by
  induction ps with
  | nil => simp [flatV]
  | cons p ps ih =>
    have h1 := ih (fun x hx => h x (List.mem_cons_of_mem _ hx))
    have h2 := h p (List.mem_cons_self ..)
    have e : flatV (p :: ps) = p.txt ++ flatV ps := by unfold flatV; simp
    rw [e, List.length_append, List.length_cons, Nat.add_mul]; omega
theorem PartsV.len {w : World} {b off : Nat} {ps : List Part} (h : PartsV w b off ps) (hm : ps.length ≤ 4) (k : Nat) : (flatV (ps.take k)).length ≤ 5000000 := by
  have := flatV_len (ps.take k) (fun p hp => by
    obtain ⟨i, hi, rfl⟩ := List.getElem_of_mem (List.mem_of_mem_take hp)
    exact (h.2 i hi).2.2.2)
  have h2 : (ps.take k).length ≤ 4 := by rw [List.length_take]; omega
  omega
set_option maxRecDepth 100000 in
set_option maxHeartbeats 1000000 in
theorem concatV_any (b off cap : Nat) (ps : List Part) (w : World) (hp : PartsV w b off ps) (hm : ps.length ≤ 4) :
    Calls Try.prog 71 #[.slice (some ⟨b, off, none⟩) ps.length cap] w (GivesV w (flatV ps)) := by
  have HP := Lib.hid hp
  have HL : Hid (∀ k, (flatV (ps.take k)).length ≤ 5000000) := Lib.hid (fun k => hp.len hm k)
  clear hp
  go_enter Try.func71, Try.ntmps71
  go_wp2_with fail
  go_loopw [3, 11] (fun t i wr => ∃ k : Nat, k ≤ ps.length ∧ i = .int .i64 k ∧ t = .int .i64 ((flatV (ps.take k)).length : Nat) ∧ wr = w) (fun _ i _ => ps.length - (intOf i).toNat)
  case atStart => exact ⟨0, Nat.zero_le _, rfl, rfl, rfl⟩
  case round =>
    obtain ⟨k, hk, rfl, rfl, hw0⟩ := hrel
    have hw1 := hw0.symm
    clear hw0
    subst hw1
    by_cases hlt : k < ps.length
    · obtain ⟨hc, _, _, hz⟩ := HP.out.2 k hlt
      have HS : Hid ((flatV (ps.take (k + 1))).length = (flatV (ps.take k)).length + ps[k].txt.length) := Lib.hid (by rw [flatV_succ ps k hlt, List.length_append])
      have hq0 := HL.out k
      generalize ps[k] = p at *
      generalize hq : (flatV (ps.take k)).length = q at *
      clear hq
      have g1 : ¬ (q : Int) + (p.txt.length : Int) < 0 := by omega
      go_wp2
      go_roundw
      case rel => exact ⟨k + 1, by omega, by go_num, by rw [HS.out]; go_num, by trivial⟩
      case measure => simp [intOf]; omega
    · have e : ps.take k = ps := List.take_of_length_le (by omega)
      have hq0 := HL.out k
      rw [e] at hq0 ⊢
      clear e
      generalize hq : (flatV ps).length = q at *
      have Hq := Lib.hid hq; clear hq
      go_wp2_with fail
      refine (grow_any q _ (by omega)).mono ?_
      rintro e w1 ⟨⟨v, rfl, hown⟩, hb⟩
      have HO := Lib.hid hown; have HB := Lib.hid hb; clear hown hb
      go_wp2_with fail
      go_loopw [6, 27] (fun v i wr => ∃ j : Nat, j ≤ ps.length ∧ i = .int .i64 j ∧ wr.ownsRow w.heap.size 9 1 v (flatV (ps.take j)).length (ss (flatV (ps.take j))) ∧ Below w.heap.size w wr) (fun _ i _ => ps.length - (intOf i).toNat)
      case atStart => exact ⟨0, Nat.zero_le _, rfl, HO.out, HB.out⟩
      case round =>
        clear HO HB
        obtain ⟨j, hj, rfl, hown, hbel⟩ := hrel
        have hsz := hbel.size
        by_cases hjl : j < ps.length
        · obtain ⟨hc, hs, hn, hz⟩ := (HP.out.below hbel).2 j hjl
          have HS : Hid (flatV (ps.take (j + 1)) = flatV (ps.take j) ++ ps[j].txt) := Lib.hid (flatV_succ ps j hjl)
          have hq1 : (flatV (ps.take j)).length ≤ 5000000 := HL.out j
          have HSt := Lib.hid hs; clear hs
          generalize ps[j] = p at *
          generalize flatV (ps.take j) = pre at *
          go_wp2_with (first
            | (at_builtin; refine append_strs w.heap.size rfl _ _ rfl _ pre rfl hown p.ao p.txt p.cap _ rfl rfl HSt.out hn (by omega) hsz hbel ?_; intro v4 w4 hown4 hbel4)
            | (fail "none"))
          go_roundw
          case rel => exact ⟨j + 1, by omega, by go_num, by rw [HS.out]; exact hown4, hbel4⟩
          case measure => simp [intOf]; omega
        · have e : ps.take j = ps := List.take_of_length_le (by omega)
          rw [e] at hown
          have HO := Lib.hid hown
          clear e hown
          go_wp2
          go_ret
          exact ⟨⟨_, rfl, HO.out⟩, hbel⟩
end Go.Proofs.Ytmimobniihekiaa
