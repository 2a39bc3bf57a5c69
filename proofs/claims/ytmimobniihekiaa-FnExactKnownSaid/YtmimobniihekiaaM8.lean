/- Merged texts: ClsQ1, ClsMk, ClsEq, ClsMk2, ClsOpen, KnMath, KnSort. -/
import Derived.Test.YtmimobniihekiaaM4
import Derived.Test.YtmimobniihekiaaM7
import Derived.Test.YtmimobniihekiaaM2
import Derived.Test.YtmimobniihekiaaM3
import Derived.Lib.SlicesCompact
import Derived.Shelf.SlSortCmp.Whole1
import Derived.Shelf.SlicesG.CompactS
import Derived.Sort.OwnSorted
/- ClassOf: what the specification returns. -/
namespace Go.Proofs.Ytmimobniihekiaa
open Go.RowKit
attribute [local go_sem ↓] Go.wp_at_zero Go.wp_at_succ

def ofI (l : List ClassV) (nm : ByteArray) : Int := match atC l nm with | some i => (i : Int) | none => -1
theorem bytes_eq (x y : ByteArray) : (x.toList == y.toList) = true ↔ x = y := by
  rw [beq_iff_eq, ByteArray.toList_eq, ByteArray.toList_eq]
  exact ⟨fun h => ByteArray.ext (Array.toList_inj.mp h), fun h => by rw [h]⟩
theorem name_beq (a b : ByteArray) : (a.toList == b.toList) = decide (a = b) := by
  rw [Bool.eq_iff_iff, decide_eq_true_eq]; exact bytes_eq a b
theorem atC_hit {l : List ClassV} {nm : ByteArray} {k : Nat} (hk : k < l.length) (h : l[k].nm = nm) (h' : ∀ j (hj : j < l.length), j < k → l[j].nm ≠ nm) : ofI l nm = (k : Int) := by
  have : atC l nm = some k := by
    unfold atC
    rw [List.findIdx?_eq_some_iff_getElem]
    exact ⟨hk, by simpa using h, fun j hj => by simpa using h' j (by omega) hj⟩
  unfold ofI; rw [this]
theorem atC_miss {l : List ClassV} {nm : ByteArray} (h : ∀ j (hj : j < l.length), l[j].nm ≠ nm) : ofI l nm = -1 := by
  have : atC l nm = none := by
    unfold atC
    rw [List.findIdx?_eq_none_iff]
    intro c hc
    obtain ⟨i, hi, rfl⟩ := List.getElem_of_mem hc
    simpa using h i hi
  unfold ofI; rw [this]
set_option maxRecDepth 100000 in
set_option maxHeartbeats 1000000 in
theorem l05Of_any (ao : Option Addr) (l : List ClassV) (cap : Nat) (nm : ByteArray) (w : World) (hd : ClassesAt w ao l) (hl : l.length ≤ 1048576) :
    Calls Try.prog 49 #[.slice ao l.length cap, .string nm] w fun e w' => e = .returned (.int .i64 (ofI l nm)) ∧ w' = w := by
  have HD := Lib.hid hd; clear hd
  go_enter Try.func49, Try.ntmps49
  go_wp2
  go_loopw [5] (fun i wr => ∃ k : Nat, k ≤ l.length ∧ i = .int .i64 k ∧ (∀ j (hj : j < l.length), j < k → l[j].nm ≠ nm) ∧ wr = w) (fun i _ => l.length - (intOf i).toNat)
  case atStart => exact ⟨0, Nat.zero_le _, rfl, fun j _ h => absurd h (Nat.not_lt_zero _), by trivial⟩
  case round =>
    obtain ⟨k, hk, rfl, ha, rfl⟩ := hrel
    have Ha := Lib.hid ha; clear ha
    by_cases hlt : k < l.length
    · obtain ⟨b, off, v1, v2, v3, rfl, hb0, hc⟩ := HD.out.at hlt
      obtain ⟨c0, c1, c2, c3, s1, s2, s3⟩ := hc
      have HY : Hid (l[k].nm = nm → ofI l nm = (k : Int)) := Lib.hid (fun h => atC_hit hlt h Ha.out)
      have HN : Hid (l[k].nm ≠ nm → ∀ j (hj : j < l.length), j < k + 1 → l[j].nm ≠ nm) := Lib.hid (fun hn j h hj => by
        by_cases e : j = k
        · subst e; exact hn
        · exact Ha.out j h (by omega))
      clear c1 c2 c3 s1 s2 s3
      generalize l[k].nm = A at *
      have hbe := name_beq A nm
      by_cases hq : A = nm
      · rw [decide_eq_true hq] at hbe
        have HY' := Lib.hid (HY.out hq)
        clear hq
        go_wp2
        go_ret
        exact ⟨ret_int' (by rw [HY'.out]), by trivial⟩
      · rw [decide_eq_false hq] at hbe
        have HN' := Lib.hid (HN.out hq)
        clear hq
        go_wp2
        go_roundw
        case rel => exact ⟨k + 1, by omega, by go_num, HN'.out, by trivial⟩
        case measure => simp [intOf]; omega
    · have HN' : Hid (ofI l nm = -1) := Lib.hid (atC_miss fun j h => Ha.out j h (by omega))
      go_wp2
      go_ret
      exact ⟨ret_int' (by rw [HN'.out]), by trivial⟩
theorem own_zeroS (w : World) {B g : Nat} (hg : g = w.heap.size) (hB : B ≤ g) : (w.alloc (.cells #[] 9)).ownsRow B 9 1 (.slice (some ⟨g, 0, none⟩) 0 0) 0 (ss []) := by
  subst hg
  exact ⟨rfl, .inr ⟨_, 0, #[], rfl, hB, heap_alloc_new w _, Nat.le_refl _, Nat.zero_le _, rfl, rfl⟩⟩
theorem wpList_world {P : Program} {ops : Array Oper} {Q : Exit → Act → World → Prop} {l : List Oper} {a : Act} {w : World} (R : World → Prop) (h : R w) (k : ∀ W, R W → wpList P ops Q l a W) : wpList P ops Q l a w := k w h
theorem StrsAt.setB {w : World} {ao : Option Addr} {R j B : Nat} {l : List ByteArray} (h : StrsAt w ao l) (hlt : ∀ b off, ao = some ⟨b, off, none⟩ → l ≠ [] → b < B) (hne : B ≤ R) (v : Value) : StrsAt (w.setCell ⟨R, j, none⟩ v) ao l := by
  rcases h with h | ⟨b, off, rfl, h2, h3⟩
  · exact .inl h
  · by_cases hl : l = []
    · exact .inl hl
    · exact (StrsAt.set (.inr ⟨b, off, rfl, h2, h3⟩) (by have := hlt b off rfl hl; omega) v)
theorem StrsAt.lt {w : World} {ao : Option Addr} {l : List ByteArray} (h : StrsAt w ao l) : ∀ b off, ao = some ⟨b, off, none⟩ → l ≠ [] → b < w.heap.size := by
  intro b off e hl
  rcases h with h | ⟨b', off', h1, h2, h3⟩
  · exact absurd h hl
  · rw [e] at h1; cases h1; exact h2
set_option maxRecDepth 100000 in
set_option maxHeartbeats 2000000 in
theorem l05Copy_any (c : ClassV) (v1 v2 v3 : Value) (w : World) (h1 : SlV w v1 c.must) (h2 : SlV w v2 c.may) (h3 : SlV w v3 c.one) (f : FitsC1 c) :
    Calls Try.prog 50 #[.agg #[.string c.nm, v1, v2, v3]] w (GivesC w c) := by
  obtain ⟨o1, k1, rfl, s1, _, z1⟩ := h1
  obtain ⟨o2, k2, rfl, s2, _, z2⟩ := h2
  obtain ⟨o3, k3, rfl, s3, _, z3⟩ := h3
  have S1 := Lib.hid s1; have S2 := Lib.hid s2; have S3 := Lib.hid s3
  have Z1 := Lib.hid z1; have Z2 := Lib.hid z2; have Z3 := Lib.hid z3
  have l1 := f.must.1; have l2 := f.may.1; have l3 := f.one.1
  clear s1 s2 s3 z1 z2 z3 f
  have e0 : ([] : List ByteArray).length = 0 := rfl
  go_enter Try.func50, Try.ntmps50
  go_wp2_with (first
    | (at_builtin; refine wpList_world (fun W => ∃ V, W = V.alloc (.cells #[] 9) ∧ V.heap.size = w5.heap.size ∧ Below w.heap.size w V ∧ Quad V w.heap.size 42 (.string c.nm) (.slice a1 a2 a3) (.slice e1 e2 e3) (.slice o3 c.one.length k3) ∧ Quad V (w.heap.size + 1) 42 (.string ⟨#[]⟩) (.slice none 0 0) (.slice none 0 0) (.slice none 0 0) ∧ StrsAt V o3 c.one ∧ V.ownsRow m0 9 1 (.slice a1 a2 a3) c.must.length (ss c.must) ∧ V.ownsRow m1 9 1 (.slice e1 e2 e3) c.may.length (ss c.may)) ⟨_, rfl, by simp [World.setCell], B5.out, T5.out, R5.out, S5c.out, O5a.out, O5b.out⟩ ?_; rintro _ ⟨V6, rfl, hz6, b6, t6, r6, s6c, o6a, o6b⟩; refine append_strs V6.heap.size rfl _ _ rfl _ [] rfl (own_zeroS V6 (by omega) (by omega)) o3 c.one k3 _ rfl rfl (s6c.below (more (Below.refl _ _) _)) Z3.out (by omega) (by simp) (more (Below.refl _ _) _) ?_; rw [List.nil_append]; intro u3 w7 ho7 hb7; obtain ⟨p7, p8, p9, rfl⟩ := own_slice3 ho7; have hm2 : w5.heap.size = V6.heap.size := hz6.symm; have hs7 : V6.heap.size ≤ w7.heap.size := hb7.size; have K2a : Hid (∀ g, (Value.slice e1 e2 e3).ownBlock = some g → g < V6.heap.size) := Lib.hid (fun g h => by have := K2b.out g h; omega); have T7 := Lib.hid (t6.below hb7); have R7 := Lib.hid (r6.below hb7); have B7 := Lib.hid (b6.trans (hb7.mono b6.size)); have O7a := Lib.hid (own_below o6a hb7); have O7b := Lib.hid (own_below o6b hb7); have O7c := Lib.hid ho7; clear b6 t6 r6 s6c o6a o6b hb7 ho7 T5 R5 B5 S5c O5a O5b; obtain ⟨q0, q1, q2, q3⟩ := T7.out.cells; obtain ⟨f0, f1, f2, f3⟩ := T7.out.soft; obtain ⟨y0, y1, y2, y3⟩ := (R7.out.far (R := w.heap.size) (j := 3) (by omega) (.slice p7 p8 p9)).cells; obtain ⟨x0, x1, x2, x3⟩ := (R7.out.far (R := w.heap.size) (j := 3) (by omega) (.slice p7 p8 p9)).soft; obtain ⟨d0, d1, d2, d3⟩ := (T7.out.set3 (.slice p7 p8 p9)).cells)
    | (at_builtin; refine wpList_world (fun W => ∃ V, W = V.alloc (.cells #[] 9) ∧ V.heap.size = w3.heap.size ∧ Below w.heap.size w V ∧ Quad V w.heap.size 42 (.string c.nm) (.slice a1 a2 a3) (.slice o2 c.may.length k2) (.slice o3 c.one.length k3) ∧ Quad V (w.heap.size + 1) 42 (.string ⟨#[]⟩) (.slice none 0 0) (.slice none 0 0) (.slice none 0 0) ∧ StrsAt V o2 c.may ∧ StrsAt V o3 c.one ∧ V.ownsRow m0 9 1 (.slice a1 a2 a3) c.must.length (ss c.must)) ⟨_, rfl, by simp [World.setCell], B3.out, T3.out, R3.out, S3b.out, S3c.out, O3a.out⟩ ?_; rintro _ ⟨V4, rfl, hz4, b4, t4, r4, s4b, s4c, o4a⟩; refine append_strs V4.heap.size rfl _ _ rfl _ [] rfl (own_zeroS V4 (by omega) (by omega)) o2 c.may k2 _ rfl rfl (s4b.below (more (Below.refl _ _) _)) Z2.out (by omega) (by simp) (more (Below.refl _ _) _) ?_; rw [List.nil_append]; intro u2 w5 ho5 hb5; obtain ⟨e1, e2, e3, rfl⟩ := own_slice3 ho5; obtain ⟨m1, hm1⟩ : ∃ m, m = V4.heap.size := ⟨_, rfl⟩; have K2b := Lib.hid (fun g h => (ho5.lt g h).2); have K1a : Hid (∀ g, (Value.slice a1 a2 a3).ownBlock = some g → g < m1) := Lib.hid (fun g h => by have := K1b.out g h; omega); have hs1 := hb5.size; have T5 := Lib.hid ((t4.below hb5).set2 (.slice e1 e2 e3)); have R5 := Lib.hid ((r4.below hb5).far (R := w.heap.size) (j := 2) (by omega) (.slice e1 e2 e3)); have B5 := Lib.hid ((b4.trans (hb5.mono b4.size)).setCell (p := ⟨w.heap.size, 2, none⟩) (Nat.le_refl _) (.slice e1 e2 e3)); have S5c := Lib.hid ((s4c.below hb5).setB (j := 2) S3.out.lt (Nat.le_refl _) (.slice e1 e2 e3)); have O5a := Lib.hid (own_set (j := 2) (u := .slice e1 e2 e3) (own_below o4a hb5) (by omega : w.heap.size < m0)); have O5b := Lib.hid (own_set (j := 2) (u := .slice e1 e2 e3) ho5 (by omega : w.heap.size < V4.heap.size)); rw [← hm1] at O5b; obtain ⟨q0, q1, q2, q3⟩ := (t4.below hb5).cells; obtain ⟨f0, f1, f2, f3⟩ := (t4.below hb5).soft; obtain ⟨d0, d1, d2, d3⟩ := (T5.out.alloc (.cells #[] 9)).cells; clear b4 t4 r4 s4b s4c o4a hb5 ho5 T3 R3 B3 S3b S3c O3a)
    | (at_builtin; refine wpList_world (fun W => ∃ V, W = V.alloc (.cells #[] 9) ∧ V.heap.size = w.heap.size + 1 + 1 ∧ Below w.heap.size w V ∧ Quad V w.heap.size 42 (.string c.nm) (.slice o1 c.must.length k1) (.slice o2 c.may.length k2) (.slice o3 c.one.length k3) ∧ Quad V (w.heap.size + 1) 42 (.string ⟨#[]⟩) (.slice none 0 0) (.slice none 0 0) (.slice none 0 0)) ⟨_, rfl, by simp, more (more (Below.refl _ _) _) _, (quadNew _ _ _ _ _ _).alloc _, (by have := quadNew (w.alloc (Obj.cells #[.string c.nm, .slice o1 c.must.length k1, .slice o2 c.may.length k2, .slice o3 c.one.length k3] 42)) 42 (.string ⟨#[]⟩) (.slice none 0 0) (.slice none 0 0) (.slice none 0 0); simpa using this)⟩ ?_; rintro _ ⟨V2, rfl, hz2, b2, t2, r2⟩; refine append_strs V2.heap.size rfl _ _ rfl _ [] rfl (own_zeroS V2 (by omega) (by omega)) o1 c.must k1 _ rfl rfl (S1.out.below (more b2 _)) Z1.out (by omega) (by simp) (more (Below.refl _ _) _) ?_; rw [List.nil_append]; intro u1 w3 ho3 hb3; obtain ⟨a1, a2, a3, rfl⟩ := own_slice3 ho3; obtain ⟨m0, hm0⟩ : ∃ m, m = V2.heap.size := ⟨_, rfl⟩; have K1b := Lib.hid (fun g h => (ho3.lt g h).2); have hs0 := hb3.size; have T3 := Lib.hid ((t2.below hb3).set1 (.slice a1 a2 a3)); have R3 := Lib.hid ((r2.below hb3).far (R := w.heap.size) (j := 1) (by omega) (.slice a1 a2 a3)); have B3 := Lib.hid ((b2.trans (hb3.mono b2.size)).setCell (p := ⟨w.heap.size, 1, none⟩) (Nat.le_refl _) (.slice a1 a2 a3)); have S3b := Lib.hid ((S2.out.below (b2.trans (hb3.mono b2.size))).setB (j := 1) S2.out.lt (Nat.le_refl _) (.slice a1 a2 a3)); have S3c := Lib.hid ((S3.out.below (b2.trans (hb3.mono b2.size))).setB (j := 1) S3.out.lt (Nat.le_refl _) (.slice a1 a2 a3)); have O3a := Lib.hid (own_set (j := 1) (u := .slice a1 a2 a3) ho3 (by omega : w.heap.size < V2.heap.size)); rw [← hm0] at O3a; obtain ⟨q0, q1, q2, q3⟩ := (t2.below hb3).cells; obtain ⟨f0, f1, f2, f3⟩ := (t2.below hb3).soft; obtain ⟨d0, d1, d2, d3⟩ := (T3.out.alloc (.cells #[] 9)).cells; clear b2 t2 r2 hb3 ho3)
    | (fail "none"))
  have TE := ((((R7.out.far (R := w.heap.size) (j := 3) (by omega) (.slice p7 p8 p9)).set0 (.string c.nm)).set1 (.slice a1 a2 a3)).set2 (.slice e1 e2 e3)).set3 (.slice p7 p8 p9)
  obtain ⟨j0, j1, j2, j3⟩ := TE.cells
  clear TE
  (try simp only [Act.put, List.setIfInBounds_toArray, List.set_cons_zero, List.set_cons_succ])
  go_wp2_with fail
  have hV : w.heap.size + 1 < V6.heap.size := by omega
  have X1 := O7a.out.lt; have X2 := O7b.out.lt
  refine bodyPost_ret (v := .agg #[.string c.nm, .slice a1 a2 a3, .slice e1 e2 e3, .slice p7 p8 p9]) (by simp [results, Try.results50, go_sem, j0, j1, j2, j3]) rfl ⟨⟨_, _, _, rfl, ⟨⟨m1, V6.heap.size, ?_, ?_, ?_, ?_, ?_, by omega, by omega, by simpa [World.setCell] using hs7⟩⟩⟩, ?_⟩
  · exact own_mono (own_set (own_set (own_set (own_set (own_set O7a.out (by omega)) (by omega)) (by omega)) (by omega)) (by omega)) (by omega)
  · exact own_set (own_set (own_set (own_set (own_set O7b.out (by omega)) (by omega)) (by omega)) (by omega)) (by omega)
  · exact own_set (own_set (own_set (own_set (own_set O7c.out (by omega)) (by omega)) (by omega)) (by omega)) (by omega)
  · exact fun g h => (K1a.out g h)
  · exact fun g h => (K2a.out g h)
  · exact (((((B7.out.setCell (p := ⟨w.heap.size, 3, none⟩) (Nat.le_refl _) _).setCell (p := ⟨w.heap.size + 1, 0, none⟩) (Nat.le_succ _) _).setCell (p := ⟨w.heap.size + 1, 1, none⟩) (Nat.le_succ _) _).setCell (p := ⟨w.heap.size + 1, 2, none⟩) (Nat.le_succ _) _).setCell (p := ⟨w.heap.size + 1, 3, none⟩) (Nat.le_succ _) _)
theorem clsR_zero {l : List ClassV} {nm : ByteArray} (h : schemaB l = false ∨ atC l nm = none) : clsR l nm = zeroC := by
  unfold clsR
  split
  · rename_i hs
    rcases h with h | h
    · rw [h] at hs; cases hs
    · exact (atC_none h).2
  · rfl
theorem cls_short {l : List ClassV} (h : schemaB l = true) {a : ClassV} (ha : a ∈ l) : a.nm.size ≤ 20 := by
  unfold schemaB at h
  simp only [Bool.and_eq_true, List.all_eq_true] at h
  have := h.2.1 a ha
  unfold classB nmL at this
  simp only [Bool.and_eq_true, decide_eq_true_eq] at this
  exact this.1.1.1.2
theorem clsR_long {l : List ClassV} {nm : ByteArray} (h : 20 < nm.size) : clsR l nm = zeroC := by
  cases hs : schemaB l with
  | false => exact clsR_zero (.inl hs)
  | true =>
    refine clsR_zero (.inr ?_)
    cases ha : atC l nm with
    | none => rfl
    | some i =>
      obtain ⟨hi, h1, _, _⟩ := atC_some ha
      have := cls_short hs (List.getElem_mem hi)
      rw [h1] at this
      omega
theorem schemaB_six {l : List ClassV} (h : 6 < l.length) : schemaB l = false := by unfold schemaB; rw [decide_eq_false (by omega)]; rfl
theorem ofI_neg {l : List ClassV} {nm : ByteArray} (h : ofI l nm < 0) : atC l nm = none := by
  unfold ofI at h
  cases ha : atC l nm with
  | none => rfl
  | some i => rw [ha] at h; simp only at h; omega
theorem ofI_pos {l : List ClassV} {nm : ByteArray} (h : ¬ ofI l nm < 0) : ∃ k : Nat, ofI l nm = (k : Int) ∧ ∃ hk : k < l.length, clsAt l nm = l[k] := by
  unfold ofI at h ⊢
  cases ha : atC l nm with
  | none => rw [ha] at h; simp only at h; omega
  | some i =>
    obtain ⟨hi, _, h2, _⟩ := atC_some ha
    exact ⟨i, rfl, hi, h2⟩
set_option maxRecDepth 100000 in
set_option maxHeartbeats 2000000 in
theorem SpecClassOf_any (ao : Option Addr) (l : List ClassV) (cap : Nat) (nm : ByteArray) (w : World) (hd : ClassesAt w ao l) (hf : FitsC l) (hn : nm.size ≤ maxLen) :
    Calls Try.prog 24 #[.slice ao l.length cap, .string nm] w (GivesC w (clsR l nm)) := by
  have HD := Lib.hid hd; have HF := Lib.hid hf
  have hl := hf.1
  clear hd hf
  unfold maxLen at hn
  go_enter Try.func24, Try.ntmps24
  go_wp2_with fail
  refine calls_any' (fun W => Below w.heap.size w W ∧ Quad W w.heap.size 42 (.string ⟨#[]⟩) (.slice none 0 0) (.slice none 0 0) (.slice none 0 0)) ⟨more (Below.refl _ _) _, quadNew _ _ _ _ _ _⟩ ?_
  rintro W1 ⟨b1, t1⟩
  refine (l05Of_any ao l cap nm W1 (HD.out.below b1) hl).mono ?_
  rintro e w2 ⟨rfl, rfl⟩
  have B2 := Lib.hid b1; have R2 := Lib.hid t1
  obtain ⟨r0, r1, r2, r3⟩ := R2.out.cells
  obtain ⟨f0, f1, f2, f3⟩ := R2.out.soft
  have ZB : Hid (∀ V : World, Below w.heap.size w V → Below w.heap.size w ((((V.setCell ⟨w.heap.size, 0, none⟩ (.string ⟨#[]⟩)).setCell ⟨w.heap.size, 1, none⟩ (.slice none 0 0)).setCell ⟨w.heap.size, 2, none⟩ (.slice none 0 0)).setCell ⟨w.heap.size, 3, none⟩ (.slice none 0 0))) := Lib.hid (fun V h => (((h.setCell (p := ⟨w.heap.size, 0, none⟩) (Nat.le_refl _) _).setCell (p := ⟨w.heap.size, 1, none⟩) (Nat.le_refl _) _).setCell (p := ⟨w.heap.size, 2, none⟩) (Nat.le_refl _) _).setCell (p := ⟨w.heap.size, 3, none⟩) (Nat.le_refl _) _)
  have ZG : Hid (∀ V : World, Below w.heap.size w V → ClsOwn V w.heap.size zeroC (.slice none 0 0) (.slice none 0 0) (.slice none 0 0)) := Lib.hid (fun V h => ⟨⟨w.heap.size, w.heap.size, own_none _ _, own_none _ _, own_none _ _, (fun g h => by cases h), (fun g h => by cases h), Nat.le_refl _, Nat.le_refl _, h.size⟩⟩)
  clear b1 t1
  have TE := (((R2.out.set0 (.string ⟨#[]⟩)).set1 (.slice none 0 0)).set2 (.slice none 0 0)).set3 (.slice none 0 0)
  obtain ⟨j0, j1, j2, j3⟩ := TE.cells
  clear TE
  by_cases h4 : 400 < l.length
  · have g4 : 400 < (l.length : Int) := by omega
    have HE : Hid (clsR l nm = zeroC) := Lib.hid (clsR_zero (.inl (schemaB_six (by omega))))
    go_wp2_with fail
    refine bodyPost_ret (v := .agg #[.string ⟨#[]⟩, .slice none 0 0, .slice none 0 0, .slice none 0 0]) (by simp [results, Try.results24, go_sem, j0, j1, j2, j3]) rfl ?_
    rw [HE.out]
    exact ⟨⟨_, _, _, rfl, ZG.out _ (ZB.out _ B2.out)⟩, ZB.out _ B2.out⟩
  have g4 : ¬ 400 < (l.length : Int) := by omega
  by_cases h8 : 8000 < nm.size
  · have g8 : 8000 < (nm.size : Int) := by omega
    have HE : Hid (clsR l nm = zeroC) := Lib.hid (clsR_long (by omega))
    go_wp2_with fail
    refine bodyPost_ret (v := .agg #[.string ⟨#[]⟩, .slice none 0 0, .slice none 0 0, .slice none 0 0]) (by simp [results, Try.results24, go_sem, j0, j1, j2, j3]) rfl ?_
    rw [HE.out]
    exact ⟨⟨_, _, _, rfl, ZG.out _ (ZB.out _ B2.out)⟩, ZB.out _ B2.out⟩
  have g8 : ¬ 8000 < (nm.size : Int) := by omega
  by_cases hk0 : ofI l nm < 0
  · have HE : Hid (clsR l nm = zeroC) := Lib.hid (clsR_zero (.inr (ofI_neg hk0)))
    go_wp2_with fail
    refine bodyPost_ret (v := .agg #[.string ⟨#[]⟩, .slice none 0 0, .slice none 0 0, .slice none 0 0]) (by simp [results, Try.results24, go_sem, j0, j1, j2, j3]) rfl ?_
    rw [HE.out]
    exact ⟨⟨_, _, _, rfl, ZG.out _ (ZB.out _ B2.out)⟩, ZB.out _ B2.out⟩
  obtain ⟨k, hk, hkl, hck⟩ := ofI_pos hk0
  rw [hk] at hk0 ⊢
  have HCk := Lib.hid hck
  clear hk hck j0 j1 j2 j3
  go_wp2_with fail
  refine (SpecSchemaRight_any ao l cap _ (HD.out.below B2.out) HF.out).mono ?_
  rintro e w3 ⟨rfl, hb3⟩
  have B3 := Lib.hid (B2.out.trans (hb3.mono B2.out.size)); have R3 := Lib.hid (R2.out.below hb3)
  clear hb3 B2 R2 r0 r1 r2 r3 f0 f1 f2 f3
  obtain ⟨r0, r1, r2, r3⟩ := R3.out.cells
  obtain ⟨f0, f1, f2, f3⟩ := R3.out.soft
  cases hr : schemaB l
  · have HE : Hid (clsR l nm = zeroC) := Lib.hid (clsR_zero (.inl hr))
    have TE := (((R3.out.set0 (.string ⟨#[]⟩)).set1 (.slice none 0 0)).set2 (.slice none 0 0)).set3 (.slice none 0 0)
    obtain ⟨j0, j1, j2, j3⟩ := TE.cells
    clear TE
    go_wp2_with fail
    refine bodyPost_ret (v := .agg #[.string ⟨#[]⟩, .slice none 0 0, .slice none 0 0, .slice none 0 0]) (by simp [results, Try.results24, go_sem, j0, j1, j2, j3]) rfl ?_
    rw [HE.out]
    exact ⟨⟨_, _, _, rfl, ZG.out _ (ZB.out _ B3.out)⟩, ZB.out _ B3.out⟩
  have HE : Hid (clsR l nm = l[k]) := Lib.hid (by unfold clsR; rw [if_pos hr]; exact HCk.out)
  have FC := Lib.hid (HF.out.at hkl)
  obtain ⟨b, off, v1, v2, v3, rfl, hb0, hc⟩ := (HD.out.below B3.out).at hkl
  obtain ⟨c0, c1, c2, c3, s1, s2, s3⟩ := hc
  clear HD
  have i1 := s1.sl; have i2 := s2.sl; have i3 := s3.sl
  obtain ⟨o1, n1, k1, rfl⟩ := i1
  obtain ⟨o2, n2, k2, rfl⟩ := i2
  obtain ⟨o3, n3, k3, rfl⟩ := i3
  have S1 := Lib.hid s1; have S2 := Lib.hid s2; have S3 := Lib.hid s3
  clear s1 s2 s3 HCk
  have g1 : (0 : Int) ≤ (k : Int) := by omega
  have g2 : (k : Int) < (l.length : Int) := by omega
  generalize l[k] = c at *
  go_wp2_with fail
  refine (l05Copy_any c _ _ _ w3 S1.out S2.out S3.out FC.out).mono ?_
  rintro e w4 ⟨⟨u1, u2, u3, rfl, ⟨m1, m2, q1, q2, q3, x1, x2, y1, y2, y3⟩⟩, hb4⟩
  have B4 := Lib.hid (B3.out.trans (hb4.mono B3.out.size)); have R4 := Lib.hid (R3.out.below hb4)
  have hz := R3.out.lt
  clear hb4 r0 r1 r2 r3 f0 f1 f2 f3
  have Q1 := Lib.hid q1; have Q2 := Lib.hid q2; have Q3 := Lib.hid q3
  clear q1 q2 q3
  obtain ⟨p1, p2, p3, rfl⟩ := own_slice3 Q1.out
  obtain ⟨p4, p5, p6, rfl⟩ := own_slice3 Q2.out
  obtain ⟨p7, p8, p9, rfl⟩ := own_slice3 Q3.out
  have TE := (((R4.out.set0 (.string c.nm)).set1 (.slice p1 p2 p3)).set2 (.slice p4 p5 p6)).set3 (.slice p7 p8 p9)
  obtain ⟨j0, j1, j2, j3⟩ := TE.cells
  obtain ⟨r0, r1, r2, r3⟩ := R4.out.cells
  obtain ⟨f0, f1, f2, f3⟩ := R4.out.soft
  clear TE
  go_wp2_with fail
  refine bodyPost_ret (v := .agg #[.string c.nm, .slice p1 p2 p3, .slice p4 p5 p6, .slice p7 p8 p9]) (by simp [results, Try.results24, go_sem, j0, j1, j2, j3]) rfl ?_
  rw [HE.out]
  refine ⟨⟨_, _, _, rfl, ⟨⟨m1, m2, ?_, ?_, ?_, x1, x2, by omega, y2, by simpa [World.setCell] using y3⟩⟩⟩, ?_⟩
  · exact own_mono (own_set (own_set (own_set (own_set Q1.out (by omega)) (by omega)) (by omega)) (by omega)) (by omega)
  · exact own_set (own_set (own_set (own_set Q2.out (by omega)) (by omega)) (by omega)) (by omega)
  · exact own_set (own_set (own_set (own_set Q3.out (by omega)) (by omega)) (by omega)) (by omega)
  · exact (((B4.out.setCell (p := ⟨w.heap.size, 0, none⟩) (Nat.le_refl _) _).setCell (p := ⟨w.heap.size, 1, none⟩) (Nat.le_refl _) _).setCell (p := ⟨w.heap.size, 2, none⟩) (Nat.le_refl _) _).setCell (p := ⟨w.heap.size, 3, none⟩) (Nat.le_refl _) _
end Go.Proofs.Ytmimobniihekiaa
/- The helpers of the laws over classes: marks. -/
namespace Go.Proofs.Ytmimobniihekiaa
open Go.RowKit
attribute [local go_sem ↓] Go.wp_at_zero Go.wp_at_succ

/-- texts of the law's own, in a block from lo to below hi -/
def OwnV (w : World) (lo hi : Nat) (v : Value) (V : List ByteArray) : Prop := w.ownsRow lo 9 1 v V.length (ss V) ∧ ∀ g, v.ownBlock = some g → g < hi
theorem OwnV.below {w w' : World} {lo hi : Nat} {v : Value} {V : List ByteArray} (h : OwnV w lo hi v V) (hb : Below w.heap.size w w') : OwnV w' lo hi v V := ⟨own_below h.1 hb, h.2⟩
theorem OwnV.mid {w w' : World} {lo hi a b : Nat} {v : Value} {V : List ByteArray} (h : OwnV w lo hi v V) (hm : Mid a b w w') (hx : hi ≤ a ∨ b ≤ lo) : OwnV w' lo hi v V := by
  refine ⟨⟨h.1.1, ?_⟩, h.2⟩
  rcases h.1.2 with h0 | ⟨g, cap, cur, e, hB, hk, hr⟩
  · exact .inl h0
  · have h1 := h.2 g (by rw [e]; rfl)
    exact .inr ⟨g, cap, cur, e, hB, (hm.2.2.2.2 g (Array.getElem?_eq_some_iff.1 hk).1 (by omega)).trans hk, hr⟩
theorem mid_of_mark {w w' : World} {lo hi : Nat} {v : Value} {V : List ByteArray} (h : OwnV w lo hi v V) (hg : w.grownBy w' v.ownBlock) : Mid lo hi w w' := by
  refine ⟨hg.os, hg.tape, hg.output, hg.size, fun k hk hx => hg.block k hk ?_⟩
  intro e
  have h1 := h.2 k e.symm
  have h2 := (h.1.lt k e.symm).1
  omega
theorem Mid.wide {a b lo hi : Nat} {w w' : World} (h : Mid a b w w') (h1 : lo ≤ a) (h2 : b ≤ hi) : Mid lo hi w w' :=
  ⟨h.1, h.2.1, h.2.2.1, h.2.2.2.1, fun k hk hx => h.2.2.2.2 k hk (by omega)⟩
theorem OwnV.slv {w : World} {lo hi : Nat} {v : Value} {V : List ByteArray} (h : OwnV w lo hi v V) : SlV w v V := by
  obtain ⟨ao, cap, rfl, hs⟩ := own_slv h.1
  rcases h.1.2 with ⟨e, hn⟩ | ⟨g, cp, cur, e, _, _, hc, _⟩
  · injection e with e1 e2 e3
    subst e1 e3
    exact ⟨none, 0, rfl, hs, by omega, fun _ => rfl⟩
  · injection e with e1 e2 e3
    subst e1 e3
    exact ⟨_, _, rfl, hs, hc, fun e => by cases e⟩
/-- a class of the law's own -/
def OwnC (w : World) (lo hi : Nat) (c : ClassV) (u1 u2 u3 : Value) : Prop := ∃ m1 m2, OwnV w lo m1 u1 c.must ∧ OwnV w m1 m2 u2 c.may ∧ OwnV w m2 hi u3 c.one ∧ lo ≤ m1 ∧ m1 ≤ m2 ∧ m2 ≤ hi
theorem ClsOwn.own {w : World} {B : Nat} {c : ClassV} {u1 u2 u3 : Value} (h : ClsOwn w B c u1 u2 u3) : OwnC w B w.heap.size c u1 u2 u3 := by
  obtain ⟨m1, m2, q1, q2, q3, x1, x2, y1, y2, y3⟩ := h.ex
  exact ⟨m1, m2, ⟨q1, x1⟩, ⟨q2, x2⟩, ⟨q3, fun g hg => (q3.lt g hg).2⟩, y1, y2, y3⟩
theorem OwnC.below {w w' : World} {lo hi : Nat} {c : ClassV} {u1 u2 u3 : Value} (h : OwnC w lo hi c u1 u2 u3) (hb : Below w.heap.size w w') : OwnC w' lo hi c u1 u2 u3 := by
  obtain ⟨m1, m2, q1, q2, q3, y⟩ := h
  exact ⟨m1, m2, q1.below hb, q2.below hb, q3.below hb, y⟩
theorem OwnC.mid {w w' : World} {lo hi a b : Nat} {c : ClassV} {u1 u2 u3 : Value} (h : OwnC w lo hi c u1 u2 u3) (hm : Mid a b w w') (hx : hi ≤ a ∨ b ≤ lo) : OwnC w' lo hi c u1 u2 u3 := by
  obtain ⟨m1, m2, q1, q2, q3, y1, y2, y3⟩ := h
  exact ⟨m1, m2, q1.mid hm (by omega), q2.mid hm (by omega), q3.mid hm (by omega), y1, y2, y3⟩
theorem OwnC.sl {w : World} {lo hi : Nat} {c : ClassV} {u1 u2 u3 : Value} (h : OwnC w lo hi c u1 u2 u3) : SlV w u1 c.must ∧ SlV w u2 c.may ∧ SlV w u3 c.one := by
  obtain ⟨m1, m2, q1, q2, q3, _⟩ := h
  exact ⟨q1.slv, q2.slv, q3.slv⟩
/-- the shape of a block of classes -/
def ClsSh (w : World) (g lo hi : Nat) (l : List ClassV) : Prop := ∃ C : Array Value, w.heap[g]? = some (.cells C 42 (0, 0)) ∧ C.size = l.length * 4 ∧
  ∀ i (h : i < l.length), ∃ b1 b2 b3, C[i * 4 + 1]? = some (.slice (some ⟨b1, 0, none⟩) l[i].must.length l[i].must.length) ∧ C[i * 4 + 2]? = some (.slice (some ⟨b2, 0, none⟩) l[i].may.length l[i].may.length) ∧ C[i * 4 + 3]? = some (.slice (some ⟨b3, 0, none⟩) l[i].one.length l[i].one.length) ∧
    (lo ≤ b1 ∧ b1 < hi ∧ StrSh w b1 l[i].must.length) ∧ (lo ≤ b2 ∧ b2 < hi ∧ StrSh w b2 l[i].may.length) ∧ (lo ≤ b3 ∧ b3 < hi ∧ StrSh w b3 l[i].one.length)
theorem ClsSh.below {w w' : World} {g lo hi : Nat} {l : List ClassV} (h : ClsSh w g lo hi l) (hb : Below w.heap.size w w') : ClsSh w' g lo hi l := by
  obtain ⟨C, h1, h2, h3⟩ := h
  refine ⟨C, (hb.block g (Array.getElem?_eq_some_iff.1 h1).1).trans h1, h2, fun i hi => ?_⟩
  obtain ⟨b1, b2, b3, q1, q2, q3, ⟨p1, p2, p3⟩, ⟨r1, r2, r3⟩, s1, s2, s3⟩ := h3 i hi
  exact ⟨b1, b2, b3, q1, q2, q3, ⟨p1, p2, p3.below hb⟩, ⟨r1, r2, r3.below hb⟩, s1, s2, s3.below hb⟩
theorem RowD.sh {w : World} {g lo : Nat} {l : List ClassV} (h : RowD w g l.length l) (hlo : lo ≤ g) : ClsSh w g lo w.heap.size l := by
  obtain ⟨C, h1, h2, h3⟩ := h
  refine ⟨C, h1, h2, fun i hi => ?_⟩
  obtain ⟨b1, b2, b3, _, q1, q2, q3, r1, r2, r3, s1, s2, s3⟩ := h3 i hi
  exact ⟨b1, b2, b3, q1, q2, q3, ⟨by omega, s1.sh.lt, s1.sh⟩, ⟨by omega, s2.sh.lt, s2.sh⟩, by omega, s3.sh.lt, s3.sh⟩
theorem shC_apart {w : World} {g b n : Nat} {C : Array Value} (h : w.heap[g]? = some (.cells C 42 (0, 0))) (hb : StrSh w b n) : b ≠ g := by
  rintro rfl
  obtain ⟨C', h1, _⟩ := hb
  rw [h] at h1
  injection h1 with h1
  injection h1 with _ h1
  cases h1
theorem StrSh.far {w : World} {b n R j : Nat} (h : StrSh w b n) (hne : b ≠ R) (v : Value) : StrSh (w.setCell ⟨R, j, none⟩ v) b n := by
  obtain ⟨C', r1, r2⟩ := h
  exact ⟨C', (Below.heap_setCell _ _ _ _ hne).trans r1, r2⟩
/-- a name is set -/
theorem ClsSh.name {w : World} {g lo hi : Nat} {l : List ClassV} (h : ClsSh w g lo hi l) (j : Nat) (v : Value) : ClsSh (w.setCell ⟨g, j * 4, none⟩ v) g lo hi l := by
  obtain ⟨C, h1, h2, h3⟩ := h
  refine ⟨_, heap_set v h1, by simp [h2], fun i hi => ?_⟩
  obtain ⟨b1, b2, b3, q1, q2, q3, ⟨p1, p2, p3⟩, ⟨r1, r2, r3⟩, s1, s2, s3⟩ := h3 i hi
  refine ⟨b1, b2, b3, ?_, ?_, ?_, ⟨p1, p2, p3.far (shC_apart h1 p3) v⟩, ⟨r1, r2, r3.far (shC_apart h1 r3) v⟩, s1, s2, s3.far (shC_apart h1 s3) v⟩
  · rw [Array.getElem?_setIfInBounds, if_neg (by omega)]; exact q1
  · rw [Array.getElem?_setIfInBounds, if_neg (by omega)]; exact q2
  · rw [Array.getElem?_setIfInBounds, if_neg (by omega)]; exact q3
theorem StrSh.texts {w w' : World} {b n b' n' : Nat} (q4 : StrSh w b' n') (hb : StrSh w b n) (hb' : StrSh w' b n) (hg : w.grownBy w' (some b)) : StrSh w' b' n' := by
  by_cases e : b' = b
  · subst e
    obtain ⟨X, x1, x2⟩ := q4
    obtain ⟨Y, y1, y2⟩ := hb
    rw [x1] at y1
    injection y1 with y1
    injection y1 with y1
    subst y1
    obtain ⟨Z, z1, z2⟩ := hb'
    exact ⟨Z, z1, by omega⟩
  · obtain ⟨X, x1, x2⟩ := q4
    exact ⟨X, (hg.block b' (Array.getElem?_eq_some_iff.1 x1).1 (by intro e'; injection e' with e'; exact e e')).trans x1, x2⟩
/-- the texts of one are marked -/
theorem ClsSh.texts {w w' : World} {g lo hi b n : Nat} {l : List ClassV} (h : ClsSh w g lo hi l) (hb : StrSh w b n) (hb' : StrSh w' b n) (hg : w.grownBy w' (some b)) : ClsSh w' g lo hi l := by
  obtain ⟨C, h1, h2, h3⟩ := h
  have hne := shC_apart h1 hb
  refine ⟨C, (hg.block g (Array.getElem?_eq_some_iff.1 h1).1 (by intro e; injection e with e; exact hne e.symm)).trans h1, h2, fun i hi => ?_⟩
  obtain ⟨b1, b2, b3, q1, q2, q3, ⟨p1, p2, p3⟩, ⟨r1, r2, r3⟩, s1, s2, s3⟩ := h3 i hi
  exact ⟨b1, b2, b3, q1, q2, q3, ⟨p1, p2, p3.texts hb hb' hg⟩, ⟨r1, r2, r3.texts hb hb' hg⟩, s1, s2, s3.texts hb hb' hg⟩
theorem ClsSh.at {w : World} {g lo hi k : Nat} {l : List ClassV} (h : ClsSh w g lo hi l) (hk : k < l.length) :
    ((∃ x, w.cell? ⟨g, k * 4, none⟩ = some x) ∧ w.frozen? ⟨g, k * 4, none⟩ = false) ∧ ∃ b1 b2 b3, w.cell? ⟨g, k * 4 + 1, none⟩ = some (.slice (some ⟨b1, 0, none⟩) l[k].must.length l[k].must.length) ∧ w.cell? ⟨g, k * 4 + 2, none⟩ = some (.slice (some ⟨b2, 0, none⟩) l[k].may.length l[k].may.length) ∧ w.cell? ⟨g, k * 4 + 3, none⟩ = some (.slice (some ⟨b3, 0, none⟩) l[k].one.length l[k].one.length) ∧
      (lo ≤ b1 ∧ b1 < hi ∧ StrSh w b1 l[k].must.length) ∧ (lo ≤ b2 ∧ b2 < hi ∧ StrSh w b2 l[k].may.length) ∧ (lo ≤ b3 ∧ b3 < hi ∧ StrSh w b3 l[k].one.length) := by
  obtain ⟨C, h1, h2, h3⟩ := h
  obtain ⟨b1, b2, b3, q1, q2, q3, q⟩ := h3 k hk
  refine ⟨⟨⟨C[k * 4]'(by omega), ?_⟩, ?_⟩, b1, b2, b3, ?_, ?_, ?_, q⟩
  · rw [cell_of_row w g _ C 42 (0, 0) h1]; exact Array.getElem?_eq_getElem (by omega)
  · simp [World.frozen?, h1]
  · rw [cell_of_row w g _ C 42 (0, 0) h1]; exact q1
  · rw [cell_of_row w g _ C 42 (0, 0) h1]; exact q2
  · rw [cell_of_row w g _ C 42 (0, 0) h1]; exact q3
/-- how many marks the first j take -/
def cntK (a : ClassV) : Nat := 1 + (a.must.length + (a.may.length + a.one.length))
def cntC (l : List ClassV) (j : Nat) : Nat := ((l.take j).map cntK).sum
theorem cntC_succ (l : List ClassV) (j : Nat) (h : j < l.length) : cntC l (j + 1) = cntC l j + cntK l[j] := by
  unfold cntC; rw [List.take_succ_eq_append_getElem h, List.map_append, List.sum_append]; simp
theorem cntC_le (l : List ClassV) (j : Nat) : cntC l j ≤ cntC l l.length := by
  unfold cntC
  rw [List.take_length]
  have h := List.take_append_drop j l
  have : (l.map cntK).sum = ((l.take j).map cntK).sum + ((l.drop j).map cntK).sum := by
    rw [← List.sum_append, ← List.map_append, h]
  omega
theorem cntC_size (l : List ClassV) : cntC l l.length ≤ l.length + sizeCs l := by
  unfold cntC sizeCs
  rw [List.take_length]
  induction l with
  | nil => simp
  | cons a l ih =>
    simp only [List.map_cons, List.sum_cons, List.length_cons]
    unfold sizeC szV cntK at *
    omega
set_option maxRecDepth 100000 in
set_option maxHeartbeats 2000000 in
theorem markClassS_any (g lo hi : Nat) (l : List ClassV) (w : World) (hS : ClsSh w g lo hi l) (hg1 : lo ≤ g) (hg2 : g < hi) (hz : l.length + sizeCs l ≤ 1048576) :
    Calls Try.prog 27 #[.slice (some ⟨g, 0, none⟩) l.length l.length, .int .i64 1] w fun e w' => (∃ n : Nat, n ≤ 10000000 ∧ e = .returned (.int .i64 (n : Int))) ∧ Mid lo hi w w' := by
  have HS := Lib.hid hS; clear hS
  have hcz := cntC_size l
  go_enter Try.func27, Try.ntmps27
  go_wp2
  go_loopw [1, 5] (fun t i wr => ∃ j : Nat, j ≤ l.length ∧ i = .int .i64 j ∧ t = .int .i64 ((1 + cntC l j : Nat) : Int) ∧ ClsSh wr g lo hi l ∧ Mid lo hi w wr) (fun _ i _ => l.length - (intOf i).toNat)
  case atStart => exact ⟨0, Nat.zero_le _, rfl, by simp [cntC], HS.out, Mid.refl _ _ _⟩
  case round =>
    obtain ⟨j, hj, rfl, rfl, hA, hM⟩ := hrel
    have HA := Lib.hid hA; have HM := Lib.hid hM; clear hA hM
    have hcj := cntC_le l j
    by_cases hlt : j < l.length
    · have HCs := Lib.hid (cntC_succ l j hlt)
      have hcs : cntC l j + cntK l[j] ≤ cntC l l.length := by have := cntC_le l (j + 1); rw [HCs.out] at this; exact this
      have HK : Hid (cntK l[j] = 1 + (l[j].must.length + (l[j].may.length + l[j].one.length))) := Lib.hid rfl
      have g1 : (0 : Int) ≤ (j : Int) := by omega
      have g2 : (j : Int) < (l.length : Int) := by omega
      generalize cntC l j = c at *
      go_wp2_with fail
      refine (markText_any (1 + c) wr (by omega) (by omega)).mono ?_
      rintro e w2 ⟨rfl, hb2⟩
      have HA2 := Lib.hid (HA.out.below hb2)
      have HM2 := Lib.hid (HM.out.trans (Mid.of_below hb2))
      clear hb2
      obtain ⟨⟨⟨x0, c0⟩, f0⟩, _⟩ := HA2.out.at hlt
      generalize mkT (1 + c) = A at *
      have HA3 := Lib.hid (HA2.out.name j (.string A))
      have HM3 := Lib.hid (HM2.out.trans (Mid.of_grown (grown_set w2 g (j * 4) (.string A)) hg1 hg2))
      have hkk := HK.out
      have HAt : Hid (∀ X : World, ClsSh X g lo hi l → ∃ b1 b2 b3, X.cell? ⟨g, j * 4 + 1, none⟩ = some (.slice (some ⟨b1, 0, none⟩) l[j].must.length l[j].must.length) ∧ X.cell? ⟨g, j * 4 + 2, none⟩ = some (.slice (some ⟨b2, 0, none⟩) l[j].may.length l[j].may.length) ∧ X.cell? ⟨g, j * 4 + 3, none⟩ = some (.slice (some ⟨b3, 0, none⟩) l[j].one.length l[j].one.length) ∧
        (lo ≤ b1 ∧ b1 < hi ∧ StrSh X b1 l[j].must.length) ∧ (lo ≤ b2 ∧ b2 < hi ∧ StrSh X b2 l[j].may.length) ∧ (lo ≤ b3 ∧ b3 < hi ∧ StrSh X b3 l[j].one.length)) := Lib.hid (fun X h => (h.at hlt).2)
      generalize l[j].must.length = n1 at *
      generalize l[j].may.length = n2 at *
      generalize l[j].one.length = n3 at *
      generalize cntK l[j] = K at *
      have HMS : Hid (∀ (X : World) (b n m : Nat) (q : Int), q = ((m : Nat) : Int) → 0 < m → m ≤ 2000000 → n ≤ 1048576 → StrSh X b n → Calls Try.prog 17 #[.slice (some ⟨b, 0, none⟩) n n, .int .i64 q] X fun e w' => e = .returned (.int .i64 ((m + n : Nat) : Int)) ∧ StrSh w' b n ∧ X.grownBy w' (some b)) :=
        Lib.hid (fun X b n m q e h1 h2 h3 h => by subst e; exact (markStringS_some b n n m X (Nat.le_refl _) h3 h1 (by omega) h).mono fun e w' ⟨p1, p2, p3⟩ => ⟨p1, p2.sh, p3⟩)
      obtain ⟨b1, b2, b3, c1, c2, c3, ⟨d1, d2, d3⟩, _, _⟩ := HAt.out _ HA3.out
      have HD := Lib.hid d3; clear d3
      go_wp2_with fail
      refine (HMS.out _ b1 n1 (1 + c + 1) _ (by omega) (by omega) (by omega) (by omega) HD.out).mono ?_
      rintro e w3 ⟨rfl, hr3, hg3⟩
      have HA4 := Lib.hid (HA3.out.texts HD.out hr3 hg3)
      have HM4 := Lib.hid (HM3.out.trans (Mid.of_grown hg3 d1 d2))
      clear hr3 hg3 HD c0 f0 c1 c2 c3 d1 d2
      obtain ⟨e1, e2, e3, c1, c2, c3, _, ⟨d1, d2, d3⟩, _⟩ := HAt.out _ HA4.out
      have HD := Lib.hid d3; clear d3
      go_wp2_with fail
      refine (HMS.out _ e2 n2 (1 + c + 1 + n1) _ (by omega) (by omega) (by omega) (by omega) HD.out).mono ?_
      rintro e w4 ⟨rfl, hr3, hg3⟩
      have HA5 := Lib.hid (HA4.out.texts HD.out hr3 hg3)
      have HM5 := Lib.hid (HM4.out.trans (Mid.of_grown hg3 d1 d2))
      clear hr3 hg3 HD c1 c2 c3 d1 d2
      obtain ⟨i1, i2, i3, c1, c2, c3, _, _, ⟨d1, d2, d3⟩⟩ := HAt.out _ HA5.out
      have HD := Lib.hid d3; clear d3
      go_wp2_with fail
      refine (HMS.out _ i3 n3 (1 + c + 1 + n1 + n2) _ (by omega) (by omega) (by omega) (by omega) HD.out).mono ?_
      rintro e w5 ⟨rfl, hr3, hg3⟩
      have HA6 := Lib.hid (HA5.out.texts HD.out hr3 hg3)
      have HM6 := Lib.hid (HM5.out.trans (Mid.of_grown hg3 d1 d2))
      clear hr3 hg3 HD c1 c2 c3 d1 d2
      go_wp2
      go_roundw
      case rel => exact ⟨j + 1, by omega, by go_num, by rw [HCs.out]; exact congrArg (Value.int .i64) (by omega), HA6.out, HM6.out⟩
      case measure => simp [intOf]; omega
    · have e : j = l.length := by omega
      subst e
      have hle : 1 + cntC l l.length ≤ 10000000 := by omega
      generalize 1 + cntC l l.length = q at *
      go_wp2
      go_ret
      exact ⟨⟨q, hle, rfl⟩, HM.out⟩
end Go.Proofs.Ytmimobniihekiaa
/- The helpers of the laws over classes: comparisons; arguments that are classes. -/
namespace Go.Proofs.Ytmimobniihekiaa
open Go.RowKit
attribute [local go_sem ↓] Go.wp_at_zero Go.wp_at_succ

set_option maxRecDepth 100000 in
set_option maxHeartbeats 2000000 in
theorem eqClass_same (w0 : World) (c : ClassV) (v1 v2 v3 u1 u2 u3 : Value) (w : World) (hB : Below w0.heap.size w0 w) (h1 : SlV w0 v1 c.must) (h2 : SlV w0 v2 c.may) (h3 : SlV w0 v3 c.one) (j1 : SlV w0 u1 c.must) (j2 : SlV w0 u2 c.may) (j3 : SlV w0 u3 c.one) (f : FitsC1 c) :
    Calls Try.prog 26 #[.agg #[.string c.nm, v1, v2, v3], .agg #[.string c.nm, u1, u2, u3]] w fun e w' => e = .returned (.bool true) ∧ Below w0.heap.size w0 w' := by
  have C1 : Hid (∀ W : World, Below w0.heap.size w0 W → Calls Try.prog 15 #[v1, u1] W fun e w' => e = .returned (.bool true) ∧ Below W.heap.size W w') := Lib.hid (fun W b => by obtain ⟨vo, vc, rfl, h⟩ := h1; obtain ⟨uo, uc, rfl, h'⟩ := j1; exact eqStringS_same vo uo c.must vc uc W (h.1.below b) (h'.1.below b) f.must.1)
  have C2 : Hid (∀ W : World, Below w0.heap.size w0 W → Calls Try.prog 15 #[v2, u2] W fun e w' => e = .returned (.bool true) ∧ Below W.heap.size W w') := Lib.hid (fun W b => by obtain ⟨vo, vc, rfl, h⟩ := h2; obtain ⟨uo, uc, rfl, h'⟩ := j2; exact eqStringS_same vo uo c.may vc uc W (h.1.below b) (h'.1.below b) f.may.1)
  have C3 : Hid (∀ W : World, Below w0.heap.size w0 W → Calls Try.prog 15 #[v3, u3] W fun e w' => e = .returned (.bool true) ∧ Below W.heap.size W w') := Lib.hid (fun W b => by obtain ⟨vo, vc, rfl, h⟩ := h3; obtain ⟨uo, uc, rfl, h'⟩ := j3; exact eqStringS_same vo uo c.one vc uc W (h.1.below b) (h'.1.below b) f.one.1)
  obtain ⟨p1, pc1, rfl, _⟩ := h1
  obtain ⟨p2, pc2, rfl, _⟩ := h2
  obtain ⟨p3, pc3, rfl, _⟩ := h3
  obtain ⟨q1, qc1, rfl, _⟩ := j1
  obtain ⟨q2, qc2, rfl, _⟩ := j2
  obtain ⟨q3, qc3, rfl, _⟩ := j3
  have HB := Lib.hid hB
  clear f hB
  have hkk : (c.nm.toList == c.nm.toList) = true := by simp
  go_enter Try.func26, Try.ntmps26
  go_wp2_with fail
  refine calls_any' (fun W => Below w0.heap.size w0 W ∧ Quad W w.heap.size 42 (.string c.nm) (.slice p1 c.must.length pc1) (.slice p2 c.may.length pc2) (.slice p3 c.one.length pc3) ∧ Quad W (w.heap.size + 1) 42 (.string c.nm) (.slice q1 c.must.length qc1) (.slice q2 c.may.length qc2) (.slice q3 c.one.length qc3)) ⟨more (more HB.out _) _, (quadNew _ _ _ _ _ _).alloc _, (by have := quadNew (w.alloc (Obj.cells #[.string c.nm, .slice p1 c.must.length pc1, .slice p2 c.may.length pc2, .slice p3 c.one.length pc3] 42)) 42 (.string c.nm) (.slice q1 c.must.length qc1) (.slice q2 c.may.length qc2) (.slice q3 c.one.length qc3); simpa using this)⟩ ?_
  rintro W1 ⟨b1, x1, y1⟩
  refine (C1.out W1 b1).mono ?_
  rintro e w2 ⟨rfl, hb2⟩
  have X2 := Lib.hid (x1.below hb2); have Y2 := Lib.hid (y1.below hb2); have b2 := b1.trans (hb2.mono b1.size)
  clear x1 y1 hb2 b1 C1
  obtain ⟨m0, m1, m2, m3⟩ := X2.out.cells
  obtain ⟨n0, n1, n2, n3⟩ := Y2.out.cells
  go_wp2_with fail
  refine (C2.out w2 b2).mono ?_
  rintro e w3 ⟨rfl, hb3⟩
  have X3 := Lib.hid (X2.out.below hb3); have Y3 := Lib.hid (Y2.out.below hb3); have b3 := b2.trans (hb3.mono b2.size)
  clear X2 Y2 hb3 b2 C2 m0 m1 m2 m3 n0 n1 n2 n3
  obtain ⟨m0, m1, m2, m3⟩ := X3.out.cells
  obtain ⟨n0, n1, n2, n3⟩ := Y3.out.cells
  go_wp2_with fail
  refine (C3.out w3 b3).mono ?_
  rintro e w4 ⟨rfl, hb4⟩
  have b4 := b3.trans (hb4.mono b3.size)
  clear X3 Y3 hb4 b3 C3 m0 m1 m2 m3 n0 n1 n2 n3
  go_wp2
  go_ret
  exact ⟨rfl, b4⟩
set_option maxRecDepth 100000 in
set_option maxHeartbeats 2000000 in
theorem eqClassS_same (ao bo : Option Addr) (d : List ClassV) (ca cb : Nat) (w : World) (hda : ClassesAt w ao d) (hdb : ClassesAt w bo d) (hf : FitsC d) :
    Calls Try.prog 23 #[.slice ao d.length ca, .slice bo d.length cb] w fun e w' => e = .returned (.bool true) ∧ Below w.heap.size w w' := by
  have hl := hf.1
  have HA := Lib.hid hda; have HB := Lib.hid hdb; have HF := Lib.hid hf; clear hda hdb hf
  go_enter Try.func23, Try.ntmps23
  go_wp2
  go_loopw [5] (fun i wr => ∃ k : Nat, k ≤ d.length ∧ i = .int .i64 k ∧ Below w.heap.size w wr) (fun i _ => d.length - (intOf i).toNat)
  case atStart => exact ⟨0, Nat.zero_le _, rfl, Below.refl _ _⟩
  case round =>
    obtain ⟨k, hk, rfl, hbel⟩ := hrel
    have hsz := hbel.size
    by_cases hlt : k < d.length
    · obtain ⟨p, off, v1, v2, v3, rfl, hp0, hc⟩ := HA.out.at hlt
      obtain ⟨q, off', u1, u2, u3, rfl, hq0, hd'⟩ := HB.out.at hlt
      obtain ⟨c0, c1, c2, c3, s1, s2, s3⟩ := hc
      obtain ⟨d0, d1, d2, d3, t1, t2, t3⟩ := hd'
      have HZ := Lib.hid (HF.out.at hlt)
      generalize d[k] = A at *
      have C : Hid (∀ W : World, Below w.heap.size w W → Calls Try.prog 26 #[.agg #[.string A.nm, v1, v2, v3], .agg #[.string A.nm, u1, u2, u3]] W fun e w' => e = .returned (.bool true) ∧ Below w.heap.size w w') := Lib.hid (fun W b => eqClass_same w A v1 v2 v3 u1 u2 u3 W b s1 s2 s3 t1 t2 t3 HZ.out)
      clear s1 s2 s3 t1 t2 t3 HZ
      have SK : Hid (∀ W : World, Below w.heap.size w W → (Below w.heap.size w W ∧ (W.cell? ⟨p, off + k * 4, none⟩ = some (.string A.nm) ∧ W.cell? ⟨p, off + k * 4 + 1, none⟩ = some v1 ∧ W.cell? ⟨p, off + k * 4 + 2, none⟩ = some v2 ∧ W.cell? ⟨p, off + k * 4 + 3, none⟩ = some v3) ∧ (W.cell? ⟨q, off' + k * 4, none⟩ = some (.string A.nm) ∧ W.cell? ⟨q, off' + k * 4 + 1, none⟩ = some u1 ∧ W.cell? ⟨q, off' + k * 4 + 2, none⟩ = some u2 ∧ W.cell? ⟨q, off' + k * 4 + 3, none⟩ = some u3))) :=
        Lib.hid (fun W h => ⟨h, ⟨(h.cell (p := ⟨p, _, none⟩) hp0).trans c0, (h.cell (p := ⟨p, _, none⟩) hp0).trans c1, (h.cell (p := ⟨p, _, none⟩) hp0).trans c2, (h.cell (p := ⟨p, _, none⟩) hp0).trans c3⟩, ⟨(h.cell (p := ⟨q, _, none⟩) hq0).trans d0, (h.cell (p := ⟨q, _, none⟩) hq0).trans d1, (h.cell (p := ⟨q, _, none⟩) hq0).trans d2, (h.cell (p := ⟨q, _, none⟩) hq0).trans d3⟩⟩)
      have hbd := hbel.drew
      clear c0 c1 c2 c3 d0 d1 d2 d3
      have g1 : (0 : Int) ≤ (k : Int) := by omega
      have g2 : (k : Int) < (d.length : Int) := by omega
      go_wp2_with fail
      go_region_held3 (fun W => Below w.heap.size w W ∧ (W.cell? ⟨p, off + k * 4, none⟩ = some (.string A.nm) ∧ W.cell? ⟨p, off + k * 4 + 1, none⟩ = some v1 ∧ W.cell? ⟨p, off + k * 4 + 2, none⟩ = some v2 ∧ W.cell? ⟨p, off + k * 4 + 3, none⟩ = some v3) ∧ (W.cell? ⟨q, off' + k * 4, none⟩ = some (.string A.nm) ∧ W.cell? ⟨q, off' + k * 4 + 1, none⟩ = some u1 ∧ W.cell? ⟨q, off' + k * 4 + 2, none⟩ = some u2 ∧ W.cell? ⟨q, off' + k * 4 + 3, none⟩ = some u3))
        (exact SK.out _ (by assumption))
        (first | (go_at_call 26; refine (C.out _ (by assumption)).mono ?_; rintro e w2 ⟨rfl, hb2⟩) | (fail "none"))
      all_goals
        go_wp2
        go_roundw
        case rel => exact ⟨k + 1, by omega, by go_num, hb2⟩
        case measure => simp [intOf]; omega
    · go_wp2
      go_ret
      exact ⟨rfl, hbel⟩
end Go.Proofs.Ytmimobniihekiaa
/- The helpers of the laws over classes: a class of the law's own is marked, and its marks are asked. -/
namespace Go.Proofs.Ytmimobniihekiaa
open Go.RowKit
attribute [local go_sem ↓] Go.wp_at_zero Go.wp_at_succ

def markC (c : ClassV) : ClassV := ⟨c.nm, marksS 1 c.must.length, marksS (1 + c.must.length) c.may.length, marksS (1 + c.must.length + c.may.length) c.one.length⟩
theorem Quad.mid {w w' : World} {g lo hi : Nat} {T : TypeId} {a b c d : Value} (h : Quad w g T a b c d) (hm : Mid lo hi w w') (hx : g < lo ∨ hi ≤ g) : Quad w' g T a b c d := (hm.2.2.2.2 g h.lt hx).trans h
structure Ten (c : ClassV) : Prop where
  must : c.must.length ≤ 10
  may : c.may.length ≤ 10
  one : c.one.length ≤ 10
set_option maxRecDepth 100000 in
set_option maxHeartbeats 2000000 in
theorem markClass_own (c : ClassV) (u1 u2 u3 : Value) (lo hi : Nat) (w : World) (h : OwnC w lo hi c u1 u2 u3) (hhi : hi ≤ w.heap.size) (ht : Ten c) :
    Calls Try.prog 28 #[.agg #[.string c.nm, u1, u2, u3], .int .i64 1] w fun e w' => e = .returned (.int .i64 ((1 + c.must.length + c.may.length + c.one.length : Nat) : Int)) ∧ OwnC w' lo hi (markC c) u1 u2 u3 ∧ Mid lo hi w w' := by
  obtain ⟨m1, m2, q1, q2, q3, y1, y2, y3⟩ := h
  have Q1 := Lib.hid q1; have Q2 := Lib.hid q2; have Q3 := Lib.hid q3
  clear q1 q2 q3
  obtain ⟨t1, t2, t3⟩ := ht
  have HMS : Hid (∀ (X : World) (u : Value) (V : List ByteArray) (a b m : Nat) (q : Int), q = ((m : Nat) : Int) → 0 < m → m ≤ 100 → V.length ≤ 10 → OwnV X a b u V → Calls Try.prog 17 #[u, .int .i64 q] X fun e w' => e = .returned (.int .i64 ((m + V.length : Nat) : Int)) ∧ OwnV w' a b u (marksS m V.length) ∧ Mid a b X w') :=
    Lib.hid (fun X u V a b m q e h1 h2 h3 h => by subst e; exact (markStringS_any u V a m X h.1 (by omega) h1 (by omega)).mono fun e w' ⟨p1, p2, p3⟩ => ⟨p1, ⟨p2, h.2⟩, mid_of_mark h p3⟩)
  obtain ⟨p1, p2, p3, rfl⟩ := own_slice3 Q1.out.1
  obtain ⟨p4, p5, p6, rfl⟩ := own_slice3 Q2.out.1
  obtain ⟨p7, p8, p9, rfl⟩ := own_slice3 Q3.out.1
  go_enter Try.func28, Try.ntmps28
  go_wp2_with fail
  refine calls_any' (fun W => Below w.heap.size w W ∧ Quad W w.heap.size 42 (.string c.nm) (.slice p1 p2 p3) (.slice p4 p5 p6) (.slice p7 p8 p9)) ⟨more (Below.refl _ _) _, quadNew _ _ _ _ _ _⟩ ?_
  rintro W1 ⟨b1, t0⟩
  refine (HMS.out W1 _ c.must lo m1 1 _ (by omega) (by omega) (by omega) t1 (Q1.out.below b1)).mono ?_
  rintro e w2 ⟨rfl, o1, n1⟩
  have M2 := Lib.hid ((Mid.of_below (lo := lo) (hi := hi) b1).trans (n1.wide (Nat.le_refl _) (by omega))); have O2 := Lib.hid o1
  have P2 := Lib.hid ((Q2.out.below b1).mid n1 (.inr (Nat.le_refl _))); have P3 := Lib.hid ((Q3.out.below b1).mid n1 (.inr y2)); have T2 := Lib.hid (t0.mid n1 (.inr (by omega)))
  clear o1 n1 b1 t0 Q1 Q2 Q3
  obtain ⟨c0, c1, c2, c3⟩ := T2.out.cells
  go_wp2_with fail
  refine (HMS.out w2 _ c.may m1 m2 (1 + c.must.length) _ (by omega) (by omega) (by omega) t2 P2.out).mono ?_
  rintro e w3 ⟨rfl, o1, n1⟩
  have M3 := Lib.hid (M2.out.trans (n1.wide y1 (by omega))); have O3 := Lib.hid (O2.out.mid n1 (.inl (Nat.le_refl _))); have O3' := Lib.hid o1
  have P3' := Lib.hid (P3.out.mid n1 (.inr (Nat.le_refl _))); have T3 := Lib.hid (T2.out.mid n1 (.inr (by omega)))
  clear o1 n1 M2 O2 P2 P3 T2 c0 c1 c2 c3
  obtain ⟨c0, c1, c2, c3⟩ := T3.out.cells
  go_wp2_with fail
  refine (HMS.out w3 _ c.one m2 hi (1 + c.must.length + c.may.length) _ (by omega) (by omega) (by omega) t3 P3'.out).mono ?_
  rintro e w4 ⟨rfl, o1, n1⟩
  have M4 := Lib.hid (M3.out.trans (n1.wide (by omega) (Nat.le_refl _))); have O4 := Lib.hid (O3.out.mid n1 (.inl (by omega))); have O4' := Lib.hid (O3'.out.mid n1 (.inl (Nat.le_refl _))); have O4'' := Lib.hid o1
  clear o1 n1 M3 O3 O3' P3' T3 c0 c1 c2 c3
  go_wp2
  go_ret
  exact ⟨ret_int' (by omega), ⟨m1, m2, O4.out, O4'.out, O4''.out, y1, y2, y3⟩, M4.out⟩
set_option maxRecDepth 100000 in
set_option maxHeartbeats 2000000 in
theorem heldClass_own (c : ClassV) (u1 u2 u3 : Value) (lo hi : Nat) (w : World) (h : OwnC w lo hi (markC c) u1 u2 u3) (ht : Ten c) :
    Calls Try.prog 29 #[.agg #[.string c.nm, u1, u2, u3], .int .i64 1] w fun e w' => e = .returned (.int .i64 ((1 + c.must.length + c.may.length + c.one.length : Nat) : Int)) ∧ Below w.heap.size w w' := by
  obtain ⟨s1, s2, s3⟩ := h.sl
  obtain ⟨t1, t2, t3⟩ := ht
  clear h
  have HHS : Hid (∀ (X : World) (u : Value) (m n : Nat) (q : Int), q = ((m : Nat) : Int) → 0 < m → m ≤ 100 → n ≤ 10 → Below w.heap.size w X → SlV w u (marksS m n) → Calls Try.prog 18 #[u, .int .i64 q] X fun e w' => e = .returned (.int .i64 ((m + n : Nat) : Int)) ∧ Below X.heap.size X w') :=
    Lib.hid (fun X u m n q e h1 h2 h3 hb h => by
      subst e
      obtain ⟨vo, vc, rfl, hs⟩ := h
      rw [marksS_len]
      exact heldStringS_any vo n vc m X (hs.1.below hb) (by omega) h1 (by omega))
  have H1 := Lib.hid s1; have H2 := Lib.hid s2; have H3 := Lib.hid s3
  obtain ⟨p1, p2, p3, rfl⟩ := s1.sl
  obtain ⟨p4, p5, p6, rfl⟩ := s2.sl
  obtain ⟨p7, p8, p9, rfl⟩ := s3.sl
  clear s1 s2 s3
  go_enter Try.func29, Try.ntmps29
  go_wp2_with fail
  refine calls_any' (fun W => Below w.heap.size w W ∧ Quad W w.heap.size 42 (.string c.nm) (.slice p1 p2 p3) (.slice p4 p5 p6) (.slice p7 p8 p9)) ⟨more (Below.refl _ _) _, quadNew _ _ _ _ _ _⟩ ?_
  rintro W1 ⟨b1, t0⟩
  refine (HHS.out W1 _ 1 c.must.length _ (by omega) (by omega) (by omega) t1 b1 H1.out).mono ?_
  rintro e w2 ⟨rfl, hb⟩
  have b2 := b1.trans (hb.mono b1.size); have T2 := Lib.hid (t0.below hb)
  clear hb b1 t0
  obtain ⟨c0, c1, c2, c3⟩ := T2.out.cells
  have g1 : ¬ ((1 + c.must.length : Nat) : Int) < 0 := by omega
  go_wp2_with fail
  refine (HHS.out w2 _ (1 + c.must.length) c.may.length _ (by omega) (by omega) (by omega) t2 b2 H2.out).mono ?_
  rintro e w3 ⟨rfl, hb⟩
  have b3 := b2.trans (hb.mono b2.size); have T3 := Lib.hid (T2.out.below hb)
  clear hb b2 T2 c0 c1 c2 c3
  obtain ⟨c0, c1, c2, c3⟩ := T3.out.cells
  have g2 : ¬ ((1 + c.must.length + c.may.length : Nat) : Int) < 0 := by omega
  go_wp2_with fail
  refine (HHS.out w3 _ (1 + c.must.length + c.may.length) c.one.length _ (by omega) (by omega) (by omega) t3 b3 H3.out).mono ?_
  rintro e w4 ⟨rfl, hb⟩
  have b4 := b3.trans (hb.mono b3.size)
  clear hb b3 T3 c0 c1 c2 c3
  have g3 : ¬ ((1 + c.must.length + c.may.length + c.one.length : Nat) : Int) < 0 := by omega
  go_wp2
  go_ret
  exact ⟨ret_int' (by omega), b4⟩
theorem clsR_ten (l : List ClassV) (nm : ByteArray) : Ten (clsR l nm) := by
  unfold clsR
  split
  · rename_i hs
    cases ha : atC l nm with
    | none => rw [(atC_none ha).2]; exact ⟨by simp [zeroC], by simp [zeroC], by simp [zeroC]⟩
    | some i =>
      obtain ⟨hi, _, h2, _⟩ := atC_some ha
      rw [h2]
      unfold schemaB at hs
      simp only [Bool.and_eq_true, List.all_eq_true] at hs
      have := hs.2.1 _ (List.getElem_mem hi)
      unfold classB names10 at this
      simp only [Bool.and_eq_true, decide_eq_true_eq] at this
      exact ⟨this.2.1.1, this.2.2.1.1, this.2.2.2.1.1⟩
  · exact ⟨by simp [zeroC], by simp [zeroC], by simp [zeroC]⟩
theorem clsR_fits {l : List ClassV} (h : FitsC l) (nm : ByteArray) : FitsC1 (clsR l nm) := by
  unfold clsR
  split
  · exact clsAt_fits h nm
  · exact FitsC1.zero
end Go.Proofs.Ytmimobniihekiaa
/- Arguments that are classes: where they lie. -/
namespace Go.Proofs.Ytmimobniihekiaa
open Go.RowKit Go.ChangeShapes Go.WideShapes Go.Joins Go.Deep

theorem Try.structCls : ∃ f0 f1 f2 f3 : Field, Try.prog.underlying 66 = some (.struct #[f0, f1, f2, f3]) ∧ (f0.offset = 0 ∧ f1.offset = 1 ∧ f2.offset = 2 ∧ f3.offset = 3) ∧ (Try.prog.underlying f0.type = some .string ∧ Try.prog.underlying f1.type = some (.slice 9) ∧ Try.prog.underlying f2.type = some (.slice 9) ∧ Try.prog.underlying f3.type = some (.slice 9)) ∧ Try.prog.cellsOf f0.type = 1 ∧ Try.prog.cellsOf f1.type = 1 ∧ Try.prog.cellsOf f2.type = 1 ∧ Try.prog.cellsOf f3.type = 1 := by
  refine ⟨_, _, _, _, Try.underlying66, ⟨?_, ?_, ?_, ?_⟩, ⟨?_, ?_, ?_, ?_⟩, ?_, ?_, ?_, ?_⟩
  all_goals kernel_rfl
theorem Try.cellsCls : Try.prog.cellsOf 66 = 4 := by kernel_rfl
section
set_option maxRecDepth 100000
variable {H : Type} {enc : TypeId × Value → H} {w : World} {base : Nat} {spare : Nat → Bool} {held : Bool}
theorem open_classes {fuel : Nat} {ao : Option Addr} {len cap : Nat} {x : DataW H × List MemPlace} (h : DataW.trod enc Try.prog w base spare held fuel 34 [.slice ao len cap] = some x) :
    ∃ l : List ClassV, len = l.length ∧ ClassesAt w ao l ∧ LongC l ∧ len ≤ cap ∧ (ao = none → cap = 0) := by
  obtain ⟨f0, f1, f2, f3, hst, ⟨o0, o1, o2, o3⟩, ⟨u0, u1, u2, u3⟩, c0, c1, c2, c3⟩ := Try.structCls
  rcases open_slice Try.underlying34 h with ⟨hcs, _⟩ | ⟨a, l, c, m, n, D, Pl, hcs, hb, hl, hm, hmm, _, hx⟩
  · simp at hcs
    obtain ⟨rfl, rfl, rfl⟩ := hcs
    exact ⟨[], rfl, .inl rfl, ⟨by simp, by simp⟩, Nat.le_refl _, fun _ => rfl⟩
  · simp at hcs
    obtain ⟨rfl, rfl, rfl⟩ := hcs
    have hle : len ≤ m := by rw [hmm]; split <;> omega
    have hC := Try.cellsCls
    obtain ⟨L, hL, hq⟩ := list_of (fun i (k : ClassV) => ∃ v1 v2 v3, w.cell? (a.add (i * 4)) = some (.string k.nm) ∧ w.cell? (a.add (i * 4 + 1)) = some v1 ∧ w.cell? (a.add (i * 4 + 2)) = some v2 ∧ w.cell? (a.add (i * 4 + 3)) = some v3 ∧ SlV w v1 k.must ∧ SlV w v2 k.may ∧ SlV w v3 k.one ∧ k.nm.size ≤ maxLen ∧ LongV k.must ∧ LongV k.may ∧ LongV k.one) len (by
      intro i hi
      obtain ⟨cs', h1, h2⟩ := hx i (by omega)
      rw [hC] at h1
      obtain ⟨_, hlen, hcell⟩ := World.cells?_some h1
      obtain ⟨xs, k, hk, hxy, _, hxl, hf⟩ := DataW.trod_struct hst h2
      match xs, hxl, cs', hlen with
      | [y0, y1, y2, y3], _, [v0, v1, v2, v3], _ =>
        have g0 := hf 0 f0 rfl
        have g1 := hf 1 f1 rfl
        have g2 := hf 2 f2 rfl
        have g3 := hf 3 f3 rfl
        simp [o0, o1, o2, o3, c0, c1, c2, c3] at g0 g1 g2 g3
        have e0 := hcell 0 (by omega)
        have e1 := hcell 1 (by omega)
        have e2 := hcell 2 (by omega)
        have e3 := hcell 3 (by omega)
        rw [add_add] at e0 e1 e2 e3
        obtain ⟨s, es, _, z0⟩ := DataW.trod_string u0 g0
        obtain ⟨p1, q1, l1, r1, t1, z1⟩ := open_vals u1 g1
        obtain ⟨p2, q2, l2, r2, t2, z2⟩ := open_vals u2 g2
        obtain ⟨p3, q3, l3, r3, t3, z3⟩ := open_vals u3 g3
        simp at es
        exact ⟨⟨s, l1, l2, l3⟩, v1, v2, v3, by simpa [es] using e0, by simpa using e1, by simpa using e2, by simpa using e3, ⟨p1, q1, r1, t1⟩, ⟨p2, q2, r2, t2⟩, ⟨p3, q3, r3, t3⟩, z0, z1, z2, z3⟩)
    refine ⟨L, hL.symm, ?_, ⟨by unfold maxLen at hm; omega, ?_⟩, hl, fun h => by cases h⟩
    · by_cases h0 : len = 0
      · left; exact List.length_eq_zero_iff.1 (by omega)
      · obtain ⟨b, off, spot⟩ := a
        have hspot : spot = none := by
          obtain ⟨_, _, _, this, _⟩ := hq 0 (by omega)
          simpa [Addr.add] using World.cell?_spot this
        subst hspot
        refine .inr ⟨b, off, rfl, ?_, fun i hi => ?_⟩
        · obtain ⟨_, _, _, this, _⟩ := hq 0 (by omega)
          have := World.block_lt_of_cell? w _ this
          simpa [Addr.add] using this
        · obtain ⟨v1, v2, v3, e0, e1, e2, e3, t1, t2, t3, _⟩ := hq i hi
          rw [Go.WideShapes.add_plain] at e0 e1 e2 e3
          exact ⟨v1, v2, v3, e0, e1, e2, e3, t1, t2, t3⟩
    · intro r hr
      obtain ⟨i, hi, rfl⟩ := List.getElem_of_mem hr
      obtain ⟨_, _, _, _, _, _, _, _, _, _, z⟩ := hq i hi
      exact z
end
end Go.Proofs.Ytmimobniihekiaa
/- Names in order, each once: plain facts. -/
namespace Go.Proofs.Ytmimobniihekiaa
open Go.RowKit

theorem less_total : ∀ a b : List UInt8, Op.bytesLess a b = false → Op.bytesLess b a = false → a = b
  | [], [], _, _ => rfl
  | [], _ :: _, h, _ => by simp [Op.bytesLess] at h
  | _ :: _, [], _, h => by simp [Op.bytesLess] at h
  | a :: xs, b :: ys, h1, h2 => by
    unfold Op.bytesLess at h1 h2
    simp at h1 h2
    obtain ⟨h3, h4⟩ := h1
    obtain ⟨h5, h6⟩ := h2
    have e : a = b := UInt8.le_antisymm h5 h3
    subst e
    rw [less_total xs ys (h4 rfl) (h6 rfl)]
theorem strLt_irrefl (a : ByteArray) : strLt a a = false := less_irrefl _
theorem strLt_trans (a b c : ByteArray) (h1 : strLt a b = true) (h2 : strLt b c = true) : strLt a c = true := less_trans _ _ _ h1 h2
theorem strLt_total {a b : ByteArray} (h1 : strLt a b = false) (h2 : strLt b a = false) : a = b := by
  have := less_total _ _ h1 h2
  rw [ByteArray.toList_eq, ByteArray.toList_eq] at this
  exact ByteArray.ext (Array.toList_inj.mp this)
def Inc (l : List ByteArray) : Prop := l.Pairwise fun a b => strLt a b = true
theorem Inc.nodup {l : List ByteArray} (h : Inc l) : l.Nodup := by
  rw [List.nodup_iff_pairwise_ne]
  exact h.imp fun h e => by subst e; rw [strLt_irrefl] at h; cases h
theorem inc_ext {a b : List ByteArray} (ha : Inc a) (hb : Inc b) (h : ∀ y, y ∈ a ↔ y ∈ b) : a = b := by
  refine List.Perm.eq_of_pairwise (le := fun x y => strLt x y = true) (fun x y _ _ h1 h2 => ?_) ha hb ((List.perm_ext_iff_of_nodup ha.nodup hb.nodup).2 h)
  have := strLt_trans _ _ _ h1 h2; rw [strLt_irrefl] at this; cases this
/-- how many of the first are less -/
def kOf : List ByteArray → ByteArray → Nat
  | [], _ => 0
  | x :: l, t => if strLt x t = true then kOf l t + 1 else 0
def putS (l : List ByteArray) (t : ByteArray) : List ByteArray := if l[kOf l t]? = some t then l else l.take (kOf l t) ++ t :: l.drop (kOf l t)
theorem kOf_le (l : List ByteArray) (t : ByteArray) : kOf l t ≤ l.length := by
  induction l with
  | nil => simp [kOf]
  | cons x l ih => unfold kOf; split <;> simp; omega
theorem kOf_lt {l : List ByteArray} {t : ByteArray} {j : Nat} (h : j < l.length) (hj : j < kOf l t) : strLt l[j] t = true := by
  induction l generalizing j with
  | nil => simp at h
  | cons x l ih =>
    unfold kOf at hj
    split at hj
    · rename_i hx
      cases j with
      | zero => exact hx
      | succ j => exact ih (by simpa using h) (by omega)
    · omega
theorem kOf_at {l : List ByteArray} {t : ByteArray} (h : kOf l t < l.length) : strLt l[kOf l t] t = false := by
  induction l with
  | nil => simp at h
  | cons x l ih =>
    by_cases hx : strLt x t = true
    · have e : kOf (x :: l) t = kOf l t + 1 := by simp [kOf, hx]
      have h' : kOf l t < l.length := by rw [e] at h; simpa using h
      have := ih h'
      simp only [e, List.getElem_cons_succ]
      exact this
    · have e : kOf (x :: l) t = 0 := by simp [kOf, hx]
      simp only [e, List.getElem_cons_zero]
      simpa using hx
theorem kOf_is {l : List ByteArray} {t : ByteArray} {k : Nat} (hk : k ≤ l.length) (h1 : ∀ j (h : j < l.length), j < k → strLt l[j] t = true) (h2 : ∀ h : k < l.length, strLt l[k] t = false) : kOf l t = k := by
  rcases Nat.lt_trichotomy (kOf l t) k with h | h | h
  · have := kOf_at (t := t) (Nat.lt_of_lt_of_le h hk)
    rw [h1 _ _ h] at this; cases this
  · exact h
  · have hk' : k < l.length := Nat.lt_of_lt_of_le h (kOf_le l t)
    have := kOf_lt hk' h
    rw [h2 hk'] at this; cases this
theorem putS_mem {l : List ByteArray} {t y : ByteArray} : y ∈ putS l t ↔ y = t ∨ y ∈ l := by
  unfold putS
  split
  · rename_i h
    exact ⟨.inr, fun hy => by rcases hy with rfl | hy; exact List.mem_of_getElem? h; exact hy⟩
  · rw [List.mem_append, List.mem_cons]
    conv => rhs; rw [← List.take_append_drop (kOf l t) l, List.mem_append]
    constructor
    · rintro (h | h | h)
      · exact .inr (.inl h)
      · exact .inl h
      · exact .inr (.inr h)
    · rintro (h | h | h)
      · exact .inr (.inl h)
      · exact .inl h
      · exact .inr (.inr h)
theorem putS_inc {l : List ByteArray} (h : Inc l) (t : ByteArray) : Inc (putS l t) := by
  unfold putS
  split
  · exact h
  · rename_i hne
    have hs : Inc (l.take (kOf l t) ++ l.drop (kOf l t)) := by rw [List.take_append_drop]; exact h
    unfold Inc at hs ⊢
    rw [List.pairwise_append] at hs ⊢
    have hlt : ∀ a ∈ l.take (kOf l t), strLt a t = true := by
      intro a ha
      obtain ⟨i, hi, rfl⟩ := List.getElem_of_mem ha
      rw [List.length_take] at hi
      rw [List.getElem_take]
      exact kOf_lt (by omega) (by omega)
    have hgt : ∀ b ∈ l.drop (kOf l t), strLt t b = true := by
      intro b hb
      by_cases hk : kOf l t < l.length
      · have h1 := kOf_at hk
        rw [List.getElem?_eq_getElem hk] at hne
        have h2 : strLt t l[kOf l t] = true := by
          cases hx : strLt t l[kOf l t] with
          | true => rfl
          | false => exact absurd (congrArg some (strLt_total h1 hx)) hne
        rw [List.drop_eq_getElem_cons hk] at hb hs
        rcases List.mem_cons.1 hb with rfl | hb
        · exact h2
        · exact strLt_trans _ _ _ h2 ((List.pairwise_cons.1 hs.2.1).1 b hb)
      · rw [List.drop_eq_nil_of_le (by omega)] at hb; simp at hb
    refine ⟨hs.1, List.pairwise_cons.2 ⟨hgt, hs.2.1⟩, fun a ha b hb => ?_⟩
    rcases List.mem_cons.1 hb with rfl | hb
    · exact hlt a ha
    · exact hs.2.2 a ha b hb
def putAll (acc l : List ByteArray) : List ByteArray := l.foldl putS acc
theorem putAll_snoc (acc l : List ByteArray) (x : ByteArray) : putAll acc (l ++ [x]) = putS (putAll acc l) x := by unfold putAll; rw [List.foldl_append]; rfl
theorem putAll_append (acc a b : List ByteArray) : putAll acc (a ++ b) = putAll (putAll acc a) b := by unfold putAll; rw [List.foldl_append]
theorem putAll_ok (l acc : List ByteArray) (h : Inc acc) : Inc (putAll acc l) ∧ ∀ y, y ∈ putAll acc l ↔ y ∈ l ∨ y ∈ acc := by
  induction l generalizing acc with
  | nil => exact ⟨h, fun y => by simp [putAll]⟩
  | cons x l ih =>
    obtain ⟨h1, h2⟩ := ih (putS acc x) (putS_inc h x)
    refine ⟨h1, fun y => ?_⟩
    have e : putAll acc (x :: l) = putAll (putS acc x) l := rfl
    rw [e, h2, putS_mem, List.mem_cons]
    constructor
    · rintro (h | h | h)
      · exact .inl (.inr h)
      · exact .inl (.inl h)
      · exact .inr h
    · rintro ((h | h) | h)
      · exact .inr (.inl h)
      · exact .inl h
      · exact .inr (.inr h)
theorem putS_len (l : List ByteArray) (t : ByteArray) : (putS l t).length ≤ l.length + 1 := by
  unfold putS
  split
  · omega
  · rw [List.length_append, List.length_cons, List.length_take, List.length_drop]; omega
theorem putAll_len (l acc : List ByteArray) : (putAll acc l).length ≤ acc.length + l.length := by
  induction l generalizing acc with
  | nil => simp [putAll]
  | cons x l ih =>
    have e : putAll acc (x :: l) = putAll (putS acc x) l := rfl
    rw [e, List.length_cons]
    have := ih (putS acc x); have := putS_len acc x
    omega
/-- all names of a schema -/
def allN (l : List ClassV) : List ByteArray := l.flatMap fun c => c.must ++ c.may
def knownL (l : List ClassV) : List ByteArray := putAll [clsT] (allN l)
noncomputable def knownR (l : List ClassV) : List ByteArray := if schemaB l = true then knownL l else []
theorem allN_succ (l : List ClassV) (k : Nat) (h : k < l.length) : allN (l.take (k + 1)) = allN (l.take k) ++ (l[k].must ++ l[k].may) := by
  unfold allN; rw [List.take_succ_eq_append_getElem h, List.flatMap_append]; simp
theorem known_of {l : List ClassV} {K : List ByteArray} (hi : Inc K) (hm : ∀ y, y ∈ K ↔ y ∈ clsT :: allN l) : K = knownL l := by
  have h0 : Inc [clsT] := by unfold Inc; simp
  obtain ⟨h1, h2⟩ := putAll_ok (allN l) [clsT] h0
  refine inc_ext hi h1 fun y => ?_
  rw [hm]
  unfold knownL
  rw [h2, List.mem_cons, List.mem_singleton]
  exact ⟨fun h => h.symm, fun h => h.symm⟩
/-- runs of equals, once each -/
theorem compact_ok (d : Array (List UInt8)) (hs : ∀ i j, i < j → j < d.size → Op.bytesLess d[j]! d[i]! = false) (m : Nat) (hm : m ≤ d.size) :
    (Lib.compactUpTo d m).Pairwise (fun a b => Op.bytesLess a b = true) ∧ ∀ y, y ∈ Lib.compactUpTo d m ↔ ∃ j, j < m ∧ y = d[j]! := by
  induction m with
  | zero => exact ⟨by simp [Lib.compactUpTo], fun y => by simp [Lib.compactUpTo]⟩
  | succ m ih =>
    obtain ⟨h1, h2⟩ := ih (by omega)
    rw [Lib.compactUpTo_succ]
    by_cases hk : Lib.keeps d m = true
    · rw [if_pos hk]
      refine ⟨?_, fun y => ?_⟩
      · rw [List.pairwise_append]
        refine ⟨h1, by simp, fun a ha b hb => ?_⟩
        obtain ⟨j, hj, rfl⟩ := (h2 a).1 ha
        have hb' : b = d[m]! := by simpa using hb
        subst hb'
        cases hx : Op.bytesLess d[j]! d[m]! with
        | true => rfl
        | false =>
          exfalso
          have e := less_total _ _ hx (hs j m hj (by omega))
          have hne : d[m]! ≠ d[m - 1]! := by
            intro e'
            rw [Lib.keeps_neg (by omega) e'] at hk; cases hk
          apply hne
          refine less_total _ _ (hs (m - 1) m (by omega) (by omega)) ?_
          by_cases ej : j = m - 1
          · subst ej; exact hx
          · rw [← e]; exact hs j (m - 1) (by omega) (by omega)
      · rw [List.mem_append, h2, List.mem_singleton]
        constructor
        · rintro (⟨j, hj, rfl⟩ | rfl)
          · exact ⟨j, by omega, rfl⟩
          · exact ⟨m, by omega, rfl⟩
        · rintro ⟨j, hj, rfl⟩
          by_cases e : j = m
          · subst e; exact .inr rfl
          · exact .inl ⟨j, by omega, rfl⟩
    · rw [if_neg hk, List.append_nil]
      refine ⟨h1, fun y => ?_⟩
      rw [h2]
      have hm0 : 0 < m := by
        rcases Nat.eq_zero_or_pos m with e | e
        · subst e; exact absurd (Lib.keeps_lt_one d 0 (by omega)) hk
        · exact e
      have heq : d[m]! = d[m - 1]! := by
        apply Classical.byContradiction
        intro hne
        exact hk (Lib.keeps_pos hne)
      constructor
      · rintro ⟨j, hj, rfl⟩; exact ⟨j, by omega, rfl⟩
      · rintro ⟨j, hj, rfl⟩
        by_cases e : j = m
        · subst e; exact ⟨j - 1, by omega, heq⟩
        · exact ⟨j, by omega, rfl⟩
end Go.Proofs.Ytmimobniihekiaa
/- slices.SortFunc and slices.Compact at texts, laid. -/
namespace Go.Proofs
open Go.Shelf
def Try.laysSort_ren : Go.Shelf.Ren := ⟨fun | 6 => 59 | 14 => 76 | 15 => 77 | 20 => 86 | 21 => 87 | 22 => 88 | 23 => 89 | 24 => 90 | 25 => 91 | 26 => 92 | 27 => 93 | 28 => 94 | 29 => 95 | 46 => 100 | 47 => 101 | 48 => 102 | 49 => 103 | 50 => 104 | 57 => 108 | n => n, fun | 0 => 0 | 3 => 3 | 4 => 4 | 5 => 5 | 9 => 9 | 22 => 29 | 24 => 9 | 25 => 63 | 39 => 93 | 45 => 106 | 46 => 107 | 50 => 111 | 53 => 114 | 55 => 116 | 66 => 118 | 70 => 122 | 76 => 126 | 77 => 127 | n => n, fun | n => n⟩
theorem Try.laysSort : Go.Proofs.SlLaysF.n6 Try.prog Try.laysSort_ren := {
  mixed := by kernel_rfl
  f6 := ⟨Try.f59.name, by kernel_rfl, Try.func59.trans (congrArg some (by kernel_rfl))⟩
  f14 := ⟨Try.f76.name, by kernel_rfl, Try.func76.trans (congrArg some (by kernel_rfl))⟩
  f15 := Try.func77.trans (congrArg some (by kernel_rfl))
  f20 := ⟨Try.f86.name, by kernel_rfl, Try.func86.trans (congrArg some (by kernel_rfl))⟩
  f21 := ⟨Try.f87.name, by kernel_rfl, Try.func87.trans (congrArg some (by kernel_rfl))⟩
  f22 := ⟨Try.f88.name, by kernel_rfl, Try.func88.trans (congrArg some (by kernel_rfl))⟩
  f23 := ⟨Try.f89.name, by kernel_rfl, Try.func89.trans (congrArg some (by kernel_rfl))⟩
  f24 := ⟨Try.f90.name, by kernel_rfl, Try.func90.trans (congrArg some (by kernel_rfl))⟩
  f25 := ⟨Try.f91.name, by kernel_rfl, Try.func91.trans (congrArg some (by kernel_rfl))⟩
  f26 := ⟨Try.f92.name, by kernel_rfl, Try.func92.trans (congrArg some (by kernel_rfl))⟩
  f27 := ⟨Try.f93.name, by kernel_rfl, Try.func93.trans (congrArg some (by kernel_rfl))⟩
  f28 := Try.func94.trans (congrArg some (by kernel_rfl))
  f29 := Try.func95.trans (congrArg some (by kernel_rfl))
  f46 := ⟨Try.f100.name, by kernel_rfl, Try.func100.trans (congrArg some (by kernel_rfl))⟩
  f47 := Try.func101.trans (congrArg some (by kernel_rfl))
  f48 := Try.func102.trans (congrArg some (by kernel_rfl))
  f49 := ⟨Try.f103.name, by kernel_rfl, Try.func103.trans (congrArg some (by kernel_rfl))⟩
  f50 := ⟨Try.f104.name, by kernel_rfl, Try.func104.trans (congrArg some (by kernel_rfl))⟩
  f57 := ⟨Try.f108.name, by kernel_rfl, Try.func108.trans (congrArg some (by kernel_rfl))⟩
  t0 := Try.underlying0
  a0 := Try.isAgg0
  z0 := Try.sizeOf0
  v0 := Try.zeroValue0
  t3 := Try.underlying3
  a3 := Try.isAgg3
  z3 := Try.sizeOf3
  v3 := Try.zeroValue3
  t4 := Try.underlying4
  a4 := Try.isAgg4
  z4 := Try.sizeOf4
  v4 := Try.zeroValue4
  t5 := Try.underlying5
  a5 := Try.isAgg5
  z5 := Try.sizeOf5
  v5 := Try.zeroValue5
  t9 := Try.underlying9
  a9 := Try.isAgg9
  z9 := Try.sizeOf9
  v9 := Try.zeroValue9
  t22 := Try.underlying29
  a22 := Try.isAgg29
  z22 := Try.sizeOf29
  v22 := Try.zeroValue29
  a24 := Try.isAgg9
  z24 := Try.sizeOf9
  t25 := Try.underlying63
  a25 := Try.isAgg63
  z25 := Try.sizeOf63
  v25 := Try.zeroValue63
  t39 := Try.underlying93
  a39 := Try.isAgg93
  z39 := Try.sizeOf93
  v39 := Try.zeroValue93
  t45 := Try.underlying106
  a45 := Try.isAgg106
  z45 := Try.sizeOf106
  v45 := Try.zeroValue106
  t46 := Try.underlying107
  a46 := Try.isAgg107
  z46 := Try.sizeOf107
  v46 := Try.zeroValue107
  t50 := Try.underlying111
  a50 := Try.isAgg111
  z50 := Try.sizeOf111
  v50 := Try.zeroValue111
  t53 := Try.underlying114
  a53 := Try.isAgg114
  z53 := Try.sizeOf114
  v53 := Try.zeroValue114
  t55 := Try.underlying116
  a55 := Try.isAgg116
  z55 := Try.sizeOf116
  v55 := Try.zeroValue116
  t66 := Try.underlying118
  a66 := Try.isAgg118
  z66 := Try.sizeOf118
  v66 := Try.zeroValue118
  t70 := Try.underlying122
  a70 := Try.isAgg122
  z70 := Try.sizeOf122
  v70 := Try.zeroValue122
  t76 := Try.underlying126
  a76 := Try.isAgg126
  z76 := Try.sizeOf126
  v76 := Try.zeroValue126
  t77 := Try.underlying127
  a77 := Try.isAgg127
  z77 := Try.sizeOf127
  v77 := Try.zeroValue127 }
def Try.laysCmp_ren : Go.Shelf.Ren := ⟨fun | 44 => 39 | n => n, fun | 0 => 0 | 3 => 3 | 4 => 4 | 25 => 29 | 26 => 9 | n => n, fun | n => n⟩
theorem Try.laysCmp : Go.Proofs.SlLaysN.n44 Try.prog Try.laysCmp_ren := {
  mixed := by kernel_rfl
  f44 := ⟨Try.f39.name, by kernel_rfl, Try.func39.trans (congrArg some (by kernel_rfl))⟩
  t0 := Try.underlying0
  a0 := Try.isAgg0
  z0 := Try.sizeOf0
  v0 := Try.zeroValue0
  t3 := Try.underlying3
  a3 := Try.isAgg3
  z3 := Try.sizeOf3
  v3 := Try.zeroValue3
  t4 := Try.underlying4
  a4 := Try.isAgg4
  z4 := Try.sizeOf4
  v4 := Try.zeroValue4
  t25 := Try.underlying29
  a25 := Try.isAgg29
  z25 := Try.sizeOf29
  v25 := Try.zeroValue29
  t26 := Try.underlying9
  a26 := Try.isAgg9
  z26 := Try.sizeOf9
  v26 := Try.zeroValue9
  i26 := by kernel_rfl }
namespace Ytmimobniihekiaa
open Go.RowKit Go.Sort Go.Lib
attribute [local go_sem ↓] Go.wp_at_zero Go.wp_at_succ

theorem ltOf_bytes (x y : List UInt8) : ltOf (fun a b : List UInt8 => Lib.compareBytes a b) x y = Op.bytesLess x y := by
  have := compare_less x y
  show decide (Lib.compareBytes x y < 0) = Op.bytesLess x y
  rw [Bool.eq_iff_iff, decide_eq_true_eq]
  have h2 : (0 ≤ Lib.compareBytes x y) ↔ Op.bytesLess x y = false := by
    rw [← decide_eq_true_eq (p := 0 ≤ Lib.compareBytes x y), this]; simp
  constructor
  · intro h
    cases hb : Op.bytesLess x y with
    | true => rfl
    | false => have := h2.2 hb; omega
  · intro h
    apply Classical.byContradiction
    intro hn
    have := h2.1 (by omega)
    rw [h] at this; cases this
theorem bytes_swo : SWO (ltOf (fun a b : List UInt8 => Lib.compareBytes a b)) where
  irrefl x := by rw [ltOf_bytes]; exact less_irrefl x
  trans x y z h1 h2 := by rw [ltOf_bytes] at *; exact less_trans x y z h1 h2
  ntrans x y z h1 h2 := by
    rw [ltOf_bytes] at *
    cases hx : Op.bytesLess x z with
    | false => rfl
    | true =>
      exfalso
      cases hy : Op.bytesLess y x with
      | true => have := less_trans y x z hy hx; rw [h2] at this; cases this
      | false =>
        have e := less_total x y h1 hy
        subst e
        rw [h2] at hx; cases hx
def bl (s : ByteArray) : List UInt8 := s.data.toList
theorem enc_bl (s : ByteArray) : encStr (bl s) = .string s := rfl
theorem ss_bl (V : List ByteArray) : (V.map bl).map encStr = ss V := by unfold ss; rw [List.map_map]; rfl
theorem sortS_any (B g cap : Nat) (V : List ByteArray) (w : World) (hown : w.ownsRow B 9 1 (.slice (some ⟨g, 0, none⟩) V.length cap) V.length (ss V)) (hV : V.length ≤ 100000000) :
    Calls Try.prog 59 #[.slice (some ⟨g, 0, none⟩) V.length cap, .func (.func 41) #[] #[]] w fun e w' => e = .returned (.tuple #[]) ∧
      (∃ zs : List (List UInt8), zs.Perm (V.map bl) ∧ (∀ i j, i < j → j < zs.length → Op.bytesLess zs.toArray[j]! zs.toArray[i]! = false) ∧ w'.ownsRow B 9 1 (.slice (some ⟨g, 0, none⟩) zs.length cap) zs.length (zs.map encStr)) ∧ w.grownBy w' (some g) := by
  rcases hown.2 with ⟨h0, _⟩ | ⟨g', cap', cur, e, hbase, hk, hc1, hc2, hc3, hc4⟩
  · cases h0
  · injection e with e1 _ e3
    injection e1 with e1
    injection e1 with e1
    subst e1; subst e3
    have hH : Holds encStr w g 0 (V.map bl).toArray := by
      refine holds_of_block hk ?_
      rw [List.length_map, ← Nat.mul_one V.length, hc4, ss_bl]
    have hgl : g < w.heap.size := (Array.getElem?_eq_some_iff.1 hk).1
    have hc := Any.slices_SortFunc Try.laysSort encStr (fun _ => rfl) (fun a b : List UInt8 => Lib.compareBytes a b) bytes_swo 41 #[] g 0 cap (V.map bl).toArray w
      (enters_of Try.func41 (by kernel_rfl) rfl)
      (fun m os dk _ x y => (Try.strings_Compare ⟨x.toArray⟩ ⟨y.toArray⟩ _).mono fun e w' ⟨h1, h2⟩ => ⟨h1, 0, #[], by rw [h2, grow_empty]; rfl⟩)
      hH hgl (by simp; omega)
    have hsz : (V.map bl).toArray.size = V.length := by simp
    rw [hsz] at hc
    refine Calls.mono hc ?_
    rintro e w' ⟨he, d', n, os, hp, hs, rfl⟩
    have hd : d'.size = V.length := by rw [hp.1, hsz]
    have hperm : d'.toList.Perm (V.map bl) := by
      have := hp.2.2
      rw [Array.extract_eq_self_of_le (by omega), Array.extract_eq_self_of_le (by omega)] at this
      simpa using this
    refine ⟨he, ⟨d'.toList, hperm, fun i j hij hj => ?_, ?_⟩, grownBy_sorted d'⟩
    · have := hs i j (Nat.zero_le _) hij (by rw [← hd]; simpa using hj)
      rw [ltOf_bytes] at this
      simpa using this
    · have := ownsRow_sorted (w := w) (base := B) (g := g) (cap := cap) (n := n) (e := 9) (os := os) (cur := cur) (ss := V.map bl) (ts := d'.toList) (by simp [hd]) hbase hk (by simpa using hc1) hc2 hc3
      have hl : d'.toList.length = V.length := by simp [hd]
      rw [hl]
      rw [List.length_map] at this
      have e : d'.toList.toArray = d' := Array.toArray_toList ..
      rw [e] at this
      exact this
def sb (l : List UInt8) : ByteArray := ⟨l.toArray⟩
theorem compactS_any (B g cap : Nat) (zs : List (List UInt8)) (w : World) (hown : w.ownsRow B 9 1 (.slice (some ⟨g, 0, none⟩) zs.length cap) zs.length (zs.map encStr)) :
    Calls Try.prog 39 #[.slice (some ⟨g, 0, none⟩) zs.length cap] w fun e w' => e = .returned (.slice (some ⟨g, 0, none⟩) ((Lib.compact zs).map sb).length cap) ∧ StrsAt w' (some ⟨g, 0, none⟩) ((Lib.compact zs).map sb) ∧ w.grownBy w' (some g) := by
  rcases hown.2 with ⟨h0, _⟩ | ⟨g', cap', cur, e, _, hk, hc1, hc2, hc3, hc4⟩
  · cases h0
  · injection e with e1 _ e3
    injection e1 with e1
    injection e1 with e1
    subst e1; subst e3
    have hH : Holds encStr w g 0 zs.toArray := by
      refine holds_of_block hk ?_
      rw [← Nat.mul_one zs.length, hc4]
    refine (AnyG.slices_Compact_string Try.laysCmp g 0 cap zs w hH (by unfold maxLen at hc2; omega) hc1).mono ?_
    rintro e w' ⟨he, q, rfl⟩
    have hle : (Lib.compact zs).length ≤ zs.length := by unfold Lib.compact Lib.compactUpTo; rw [List.length_map]; exact Nat.le_trans (List.length_filter_le _ _) (by simp)
    have hgl : g < w.heap.size := (Array.getElem?_eq_some_iff.1 hk).1
    refine ⟨by rw [he, List.length_map], ?_, ?_⟩
    · have hsz : (Lib.compact zs ++ List.replicate (zs.length - (Lib.compact zs).length) []).toArray.size = zs.toArray.size := by simp; omega
      have hP := holds_putRow encStr (Sort.ahead w q) g 0 _ _ (holds_ahead encStr w q g 0 _ hH) hsz
      refine .inr ⟨g, 0, rfl, by simp [Sort.ahead]; exact hgl, fun j hj => ?_⟩
      rw [List.length_map] at hj
      have := (hP j (by rw [hsz]; simp; omega)).1
      rw [this]
      congr 1
      rw [List.getElem_map]
      have h1 : (Lib.compact zs ++ List.replicate (zs.length - (Lib.compact zs).length) []).toArray[j]! = (Lib.compact zs)[j] := by
        simp [List.getElem?_append_left hj, hj]
      rw [h1]
      rfl
    · refine ⟨rfl, rfl, rfl, by simp [Sort.ahead], fun k hk' hne => ?_⟩
      have hkg : g ≠ k := fun e => hne (by rw [e])
      simp [putRow, mapBlock, Sort.ahead, Array.getElem?_modify, hkg]
end Ytmimobniihekiaa
end Go.Proofs
