/- Merged texts: VAdd2, OutMk2, SpSort, SortU, SpAdd. -/
import Derived.Test.YtjajpdghamecoaaGreatM10
/- ValueAdd: the whole of the program's text. -/
namespace Go.Proofs.YtjajpdghamecoaaGreat
open Go.RowKit
attribute [local go_sem ↓] Go.wp_at_zero Go.wp_at_succ

def failV (c : Int) : Value := .agg #[.slice none 0 0, .slice none 0 0, .int .i64 c]
def GivesEO (w : World) (d : RdnL) (T : List AttrV) (e : Ending) (w' : World) : Prop :=
  ∃ v u, e = .returned (.agg #[v, u, .int .i64 0]) ∧ w'.ownsRow w.heap.size 97 2 v d.length (rs d) ∧ AttrsOwn w' w.heap.size u T
/-- three cells of a block -/
def Three (w : World) (g : Nat) (T : TypeId) (a b c : Value) : Prop := w.heap[g]? = some (.cells #[a, b, c] T (0, 0))
theorem Three.cells {w : World} {g : Nat} {T : TypeId} {a b c : Value} (h : Three w g T a b c) : (w.cell? ⟨g, 0, none⟩ = some a ∧ w.cell? ⟨g, 1, none⟩ = some b ∧ w.cell? ⟨g, 2, none⟩ = some c) ∧ (w.frozen? ⟨g, 0, none⟩ = false ∧ w.frozen? ⟨g, 1, none⟩ = false ∧ w.frozen? ⟨g, 2, none⟩ = false) := by
  unfold Three at h
  refine ⟨⟨?_, ?_, ?_⟩, ?_, ?_, ?_⟩
  · rw [cell_of_row w g _ _ T (0, 0) h]; rfl
  · rw [cell_of_row w g _ _ T (0, 0) h]; rfl
  · rw [cell_of_row w g _ _ T (0, 0) h]; rfl
  · simp [World.frozen?, h]
  · simp [World.frozen?, h]
  · simp [World.frozen?, h]
theorem Three.lt {w : World} {g : Nat} {T : TypeId} {a b c : Value} (h : Three w g T a b c) : g < w.heap.size := (Array.getElem?_eq_some_iff.1 h).1
theorem Three.below {w w' : World} {g : Nat} {T : TypeId} {a b c : Value} (h : Three w g T a b c) (hb : Below w.heap.size w w') : Three w' g T a b c := (hb.block g h.lt).trans h
theorem Three.set0 {w : World} {g : Nat} {T : TypeId} {a b c : Value} (h : Three w g T a b c) (v : Value) : Three (w.setCell ⟨g, 0, none⟩ v) g T v b c := heap_set v h
theorem Three.set1 {w : World} {g : Nat} {T : TypeId} {a b c : Value} (h : Three w g T a b c) (v : Value) : Three (w.setCell ⟨g, 1, none⟩ v) g T a v c := heap_set v h
theorem Three.set2 {w : World} {g : Nat} {T : TypeId} {a b c : Value} (h : Three w g T a b c) (v : Value) : Three (w.setCell ⟨g, 2, none⟩ v) g T a b v := heap_set v h
theorem threeNext (w : World) (o : Obj) (T : TypeId) (a b c : Value) : Three ((w.alloc o).alloc (.cells #[a, b, c] T)) (w.heap.size + 1) T a b c := by
  have : Three ((w.alloc o).alloc (.cells #[a, b, c] T)) (w.alloc o).heap.size T a b c := heap_alloc_new _ _
  simpa using this
theorem below_three {w W : World} (h : Below w.heap.size w W) (a b c : Value) : Below w.heap.size w (((W.setCell ⟨w.heap.size + 1, 0, none⟩ a).setCell ⟨w.heap.size + 1, 1, none⟩ b).setCell ⟨w.heap.size + 1, 2, none⟩ c) :=
  ((h.setCell (p := ⟨w.heap.size + 1, 0, none⟩) (by show w.heap.size ≤ w.heap.size + 1; omega) _).setCell (p := ⟨w.heap.size + 1, 1, none⟩) (by show w.heap.size ≤ w.heap.size + 1; omega) _).setCell (p := ⟨w.heap.size + 1, 2, none⟩) (by show w.heap.size ≤ w.heap.size + 1; omega) _
/-- what ValueAdd returns -/
def AddPost (w : World) (d : RdnL) (l : List AttrV) (nm val : ByteArray) (e : Ending) (w' : World) : Prop :=
  ((vcode (rightB d l) nm val ≠ 0 ∧ e = .returned (failV (vcode (rightB d l) nm val))) ∨
   (vcode (rightB d l) nm val = 0 ∧ 0 ≤ findI (likeV val) (attrOfL d l nm) ∧ e = .returned (failV 7)) ∨
   (vcode (rightB d l) nm val = 0 ∧ findI (likeV val) (attrOfL d l nm) < 0 ∧ ((attrOfL d l nm).length = 4 ∨ lackB d l nm = true) ∧ e = .returned (failV 9)) ∨
   (vcode (rightB d l) nm val = 0 ∧ findI (likeV val) (attrOfL d l nm) < 0 ∧ (attrOfL d l nm).length ≠ 4 ∧ lackB d l nm = false ∧
     ∃ L : List ByteArray, L.Perm (attrOfL d l nm ++ [val]) ∧ Asc normLt L L.length ∧ GivesEO w d (setL l nm L) e w')) ∧ Below w.heap.size w w'
theorem vcode_zero {r : Bool} {nm val : ByteArray} (h : vcode r nm val = 0) : r = true ∧ nm.size ≤ 20 ∧ val.size ≤ 40 ∧ nmL nm = true ∧ valB val = true := by
  unfold vcode at h
  split at h
  · cases h
  · split at h
    · rename_i h1
      simp only [Bool.and_eq_true] at h1
      have h2 := h1.1.2; have h3 := h1.2
      unfold nmL at h2; unfold valB at h3
      simp only [Bool.and_eq_true, decide_eq_true_eq] at h2 h3
      exact ⟨h1.1.1, h2.1.1.2, h3.1.2, h1.1.2, h1.2⟩
    · cases h
theorem right_eight {d : RdnL} {l : List AttrV} (h : rightB d l = true) : l.length ≤ 8 ∧ ∀ a ∈ l, a.2.length ≤ 4 := by
  unfold rightB attrsB at h
  simp only [Bool.and_eq_true, decide_eq_true_eq, List.all_eq_true] at h
  refine ⟨h.2.1.1, fun a ha => ?_⟩
  have := h.2.1.2 a ha
  unfold attrB valsB at this
  simp only [Bool.and_eq_true, decide_eq_true_eq] at this
  exact this.2.1.1.2
theorem attrOf_four {d : RdnL} {l : List AttrV} (nm : ByteArray) : (attrOfL d l nm).length ≤ 4 := by
  unfold attrOfL
  split
  · rename_i hr
    cases ha : atN l nm with
    | none => rw [(atN_none ha).2]; simp
    | some i =>
      obtain ⟨hi, _, h2, _⟩ := atN_some ha
      rw [h2]; exact (right_eight hr).2 _ (List.getElem_mem hi)
  · simp
theorem fits_snoc {V : List ByteArray} (h : FitsV V) (h4 : V.length ≤ 400) {s : ByteArray} (hs : s.size ≤ 1048576) : FitsV (V ++ [s]) := by
  refine ⟨by simp; omega, fun t ht => ?_⟩
  rcases List.mem_append.1 ht with ht | ht
  · exact h.2 t ht
  · simp at ht; subst ht; exact hs
set_option maxRecDepth 100000 in
set_option maxHeartbeats 1000000 in
theorem ValueAdd_any (ao bo : Option Addr) (d : RdnL) (l : List AttrV) (ca cb : Nat) (nm val : ByteArray) (w : World) (hd : DnAt w ao d) (hl : AttrsAt w bo l) (hfd : Fits d) (hfl : FitsA l) (hn : nm.size ≤ maxLen) (hv : val.size ≤ maxLen) :
    Calls Tryz.prog 9 #[.agg #[.slice ao d.length ca, .slice bo l.length cb], .string nm, .string val] w (AddPost w d l nm val) := by
  have HD := Lib.hid hd; have HL := Lib.hid hl; have FD := Lib.hid hfd; have FL := Lib.hid hfl; have Hn := Lib.hid hn; have Hv := Lib.hid hv; clear hd hl hfd hfl
  go_enter Tryz.func9, Tryz.ntmps9
  go_wp2_with fail
  refine calls_any' (fun W => Below w.heap.size w W ∧ Two W w.heap.size 26 (.slice ao d.length ca) (.slice bo l.length cb) ∧ Three W (w.heap.size + 1) 30 (.slice none 0 0) (.slice none 0 0) (.int .i64 0)) ⟨more (more (Below.refl _ _) _) _, (twoNew w 26 _ _).alloc _, threeNext w _ 30 _ _ _⟩ ?_
  rintro W ⟨hbW, t0, t1⟩
  refine (valueCode_any ao bo d l ca cb nm val W (HD.out.below hbW) (HL.out.below hbW) FD.out FL.out Hn.out Hv.out).mono ?_
  rintro e w1 ⟨rfl, hb1⟩
  have B1 := Lib.hid (hbW.trans (hb1.mono hbW.size)); have T1 := Lib.hid (t0.below hb1); have U1 := Lib.hid (t1.below hb1)
  clear hbW t0 t1 hb1
  obtain ⟨⟨p0, p1⟩, _⟩ := T1.out.cells
  obtain ⟨⟨k0, k1, k2⟩, f0, f1, f2⟩ := U1.out.cells
  by_cases hc : vcode (rightB d l) nm val = 0
  · rw [hc]
    have HC := Lib.hid hc; clear hc
    clear k0 k1 k2 f0 f1 f2
    go_wp2_with fail
    clear p0 p1
    refine (AttrOf_any ao bo d l ca cb nm w1 (HD.out.below B1.out) (HL.out.below B1.out) FD.out FL.out Hn.out).mono ?_
    rintro e w2 ⟨⟨v2, rfl, o2⟩, b2⟩
    obtain ⟨vo, vc, rfl⟩ := own_slice o2
    have B2 := Lib.hid (B1.out.trans (b2.mono B1.out.size)); have T2 := Lib.hid (T1.out.below b2); have U2 := Lib.hid (U1.out.below b2); have O2 := Lib.hid o2
    have FV := Lib.hid (attrOf_fits (d := d) FL.out nm)
    have hw1 := T1.out.lt
    have hw1' := U1.out.lt
    have HW12 : w1.heap.size ≤ w2.heap.size := b2.size
    clear b2 o2 B1 T1 U1
    go_wp2_with fail
    refine (normIndex_any vo _ vc val w2 (own_strs O2.out) FV.out Hv.out).mono ?_
    rintro e w3 ⟨rfl, b3⟩
    have B3 := Lib.hid (B2.out.trans (b3.mono B2.out.size)); have T3 := Lib.hid (T2.out.below b3); have U3 := Lib.hid (U2.out.below b3); have O3 := Lib.hid (own_below O2.out b3)
    have HW13 : w1.heap.size ≤ w3.heap.size := Nat.le_trans HW12 b3.size
    clear b3 B2 T2 U2 O2
    obtain ⟨⟨k0, k1, k2⟩, f0, f1, f2⟩ := U3.out.cells
    by_cases hi : 0 ≤ findI (likeV val) (attrOfL d l nm)
    · obtain ⟨⟨q0, q1, q2⟩, _⟩ := (((U3.out.set0 (.slice none 0 0)).set1 (.slice none 0 0)).set2 (.int .i64 7)).cells
      have HI := Lib.hid hi
      generalize hqe : findI (likeV val) (attrOfL d l nm) = q
      rw [hqe] at hi
      clear hqe
      go_wp2_with fail
      exact bodyPost_ret (v := failV 7) (by simp [results, Tryz.results9, go_sem, q0, q1, q2, failV]) rfl ⟨.inr (.inl ⟨HC.out, HI.out, rfl⟩), below_three B3.out _ _ _⟩
    · have hi' : findI (likeV val) (attrOfL d l nm) < 0 := by omega
      have HI := Lib.hid hi'
      clear hi
      generalize hqe : findI (likeV val) (attrOfL d l nm) = q
      rw [hqe] at hi'
      clear hqe
      have hlv := FV.out.1
      by_cases h4 : (attrOfL d l nm).length = 4
      · obtain ⟨⟨q0, q1, q2⟩, _⟩ := (((U3.out.set0 (.slice none 0 0)).set1 (.slice none 0 0)).set2 (.int .i64 9)).cells
        have H4 := Lib.hid h4
        rw [h4]
        clear h4
        go_wp2_with fail
        exact bodyPost_ret (v := failV 9) (by simp [results, Tryz.results9, go_sem, q0, q1, q2, failV]) rfl ⟨.inr (.inr (.inl ⟨HC.out, HI.out, .inl H4.out, rfl⟩)), below_three B3.out _ _ _⟩
      · have g4 : (((attrOfL d l nm).length : Int) == 4) = false := by rw [beq_eq_false_iff_ne]; omega
        have H4 := Lib.hid h4
        clear h4 k0 k1 k2 f0 f1 f2
        obtain ⟨⟨p0, p1⟩, _⟩ := T3.out.cells
        go_wp2_with fail
        refine (lacksRoom_any ao bo d l ca cb nm w3 (HD.out.below B3.out) (HL.out.below B3.out) FD.out FL.out Hn.out).mono ?_
        rintro e w4 ⟨rfl, b4⟩
        have B4 := Lib.hid (B3.out.trans (b4.mono B3.out.size)); have T4 := Lib.hid (T3.out.below b4); have U4 := Lib.hid (U3.out.below b4); have O4 := Lib.hid (own_below O3.out b4)
        have HW14 : w1.heap.size ≤ w4.heap.size := Nat.le_trans HW13 b4.size
        clear b4 B3 T3 U3 O3 p0 p1
        obtain ⟨⟨k0, k1, k2⟩, f0, f1, f2⟩ := U4.out.cells
        cases hk : lackB d l nm
        · have HK := Lib.hid hk
          clear hk k0 k1 k2 f0 f1 f2
          obtain ⟨z1, z2, z3, _, _⟩ := vcode_zero HC.out
          have HZ1 := Lib.hid z1
          have h8 := (right_eight z1).1
          have hv4 := attrOf_four (d := d) (l := l) nm
          clear z1
          have FV' := Lib.hid (fits_snoc FV.out (by omega) (s := val) (by omega))
          have hw4 : w1.heap.size ≤ w4.heap.size := HW14
          have SK : Hid (∀ Z : World, Below w1.heap.size w4 Z → (Z.cell? ⟨w.heap.size, 0, none⟩ = some (.slice ao d.length ca) ∧ Z.cell? ⟨w.heap.size, 1, none⟩ = some (.slice bo l.length cb))) :=
            Lib.hid (fun Z h => ⟨(h.cell (p := ⟨w.heap.size, 0, none⟩) hw1).trans T4.out.cells.1.1, (h.cell (p := ⟨w.heap.size, 1, none⟩) hw1).trans T4.out.cells.1.2⟩)
          have hb0 : Below w1.heap.size w4 w4 := Below.refl _ _
          have hbd := hb0.drew
          have HPl : Hid ((attrOfL d l nm).length ≤ 1000000000) := Lib.hid (by omega)
          have HLs : Hid ((attrOfL d l nm ++ [val]).length = (attrOfL d l nm).length + 1) := Lib.hid (by simp)
          have HWV : Hid (∀ (X : World) g cp, Below w1.heap.size w4 X → X.ownsRow w1.heap.size 9 1 (.slice (some ⟨g, 0, none⟩) ((attrOfL d l nm).length + 1) cp) (attrOfL d l nm ++ [val]).length (ss (attrOfL d l nm ++ [val])) →
              Calls Tryz.prog 50 #[.agg #[.slice ao d.length ca, .slice bo l.length cb], .string nm, .slice (some ⟨g, 0, none⟩) ((attrOfL d l nm).length + 1) cp] X fun e w' => ∃ L v u, L.Perm (attrOfL d l nm ++ [val]) ∧ Asc normLt L L.length ∧ e = .returned (.agg #[v, u]) ∧ w'.ownsRow w1.heap.size 97 2 v d.length (rs d) ∧ AttrsOwn w' w1.heap.size u (setL l nm L) ∧ Below w1.heap.size w4 w') :=
            Lib.hid (fun X g cp hX ho => by
              have hXb : Below w.heap.size w X := B4.out.trans (hX.mono (by omega))
              have hc := own_cap ho
              have := withSome_any ao bo (some ⟨g, 0, none⟩) d l (attrOfL d l nm ++ [val]) ca cb cp nm X (HD.out.below hXb) (HL.out.below hXb) FD.out FL.out HZ1.out h8 (by omega) ⟨own_strs ho, hc, fun e => by cases e⟩ FV'.out (by simp; omega) (by simp)
              rw [HLs.out] at this
              have hXs : w1.heap.size ≤ X.heap.size := Nat.le_trans hw4 hX.size
              refine this.mono fun e w' ⟨L, h1, h2, ⟨v, u, h3, h4, h5⟩, h6⟩ => ⟨L, v, u, h1, h2, h3, own_mono h4 hXs, h5.mono hXs, hX.trans (h6.mono hXs)⟩)
          have OD := Lib.hid O4.out.drew
          go_wp2_with fail
          go_region_held3 (fun Z => Z.cell? ⟨w.heap.size, 0, none⟩ = some (.slice ao d.length ca) ∧ Z.cell? ⟨w.heap.size, 1, none⟩ = some (.slice bo l.length cb))
            (first | exact SK.out _ (by assumption) | exact SK.out _ (hbd.alloc hw4 _) | exact hS7 _ _ _)
            (first
              | (refine step_str w1.heap.size (by rfl) _ _ (by rfl) _ (attrOfL d l nm) (by rfl) OD.out _ (by rfl) HPl.out hw4 hbd ?_; intro g5 cp5 w5 hown5 hbel5 hsz5)
              | (go_at_call 50; refine (HWV.out _ _ _ hbel5 hown5).mono ?_; rintro e w6 ⟨L, v6, u6, hpm, has, rfl, ho6, ha6, hb6⟩; obtain ⟨d0, dc, rfl⟩ := own_slice ho6; obtain ⟨a0, ac, rfl⟩ : ∃ a0 ac, u6 = .slice a0 (setL l nm L).length ac := (by obtain ⟨P, _, h2, _⟩ := ha6; exact own_slice h2); have O6 := Lib.hid ho6; have A6 := Lib.hid ha6; have HPm := Lib.hid hpm; have HAs := Lib.hid has; have U6 := Lib.hid (show Three w6 (w.heap.size + 1) 30 (.slice none 0 0) (.slice none 0 0) (.int .i64 0) from (hb6.block (w.heap.size + 1) hw1').trans U4.out); clear ho6 ha6 hpm has; obtain ⟨⟨k0, k1, k2⟩, f0, f1, f2⟩ := U6.out.cells; have T6 := Lib.hid (show Two w6 w.heap.size 26 (.slice ao d.length ca) (.slice bo l.length cb) from (hb6.block w.heap.size hw1).trans T4.out); have hS7 : ∀ x y z : Value, (((w6.setCell ⟨w.heap.size + 1, 0, none⟩ x).setCell ⟨w.heap.size + 1, 1, none⟩ y).setCell ⟨w.heap.size + 1, 2, none⟩ z).cell? ⟨w.heap.size, 0, none⟩ = some (.slice ao d.length ca) ∧ (((w6.setCell ⟨w.heap.size + 1, 0, none⟩ x).setCell ⟨w.heap.size + 1, 1, none⟩ y).setCell ⟨w.heap.size + 1, 2, none⟩ z).cell? ⟨w.heap.size, 1, none⟩ = some (.slice bo l.length cb) := fun x y z => (((T6.out.far (by omega) x).far (by omega) y).far (by omega) z).cells.1)
              | (fail "none"))
          obtain ⟨⟨q0, q1, q2⟩, _⟩ := (((U6.out.set0 (.slice d0 d.length dc)).set1 (.slice a0 (setL l nm L).length ac)).set2 (.int .i64 0)).cells
          have B6 := Lib.hid (B4.out.trans (hb6.mono (by omega)))
          clear k0 k1 k2 f0 f1 f2 hS7 SK hbd hb0 hbel5 hown5 hb6
          go_wp2_with fail
          refine bodyPost_ret (v := .agg #[.slice d0 d.length dc, .slice a0 (setL l nm L).length ac, .int .i64 0]) (by simp [results, Tryz.results9, go_sem, q0, q1, q2]) rfl ⟨.inr (.inr (.inr ⟨HC.out, HI.out, H4.out, HK.out, L, HPm.out, HAs.out, _, _, rfl, ?_, ?_⟩)), below_three B6.out _ _ _⟩
          · exact own_mono (own_cellOut (own_cellOut (own_cellOut O6.out (by omega)) (by omega)) (by omega)) (by omega)
          · exact (((A6.out.cellOut (by omega)).cellOut (by omega)).cellOut (by omega)).mono (by omega)
        · obtain ⟨⟨q0, q1, q2⟩, _⟩ := (((U4.out.set0 (.slice none 0 0)).set1 (.slice none 0 0)).set2 (.int .i64 9)).cells
          have HK := Lib.hid hk
          clear hk
          go_wp2_with fail
          exact bodyPost_ret (v := failV 9) (by simp [results, Tryz.results9, go_sem, q0, q1, q2, failV]) rfl ⟨.inr (.inr (.inl ⟨HC.out, HI.out, .inr HK.out, rfl⟩)), below_three B4.out _ _ _⟩
  · obtain ⟨⟨q0, q1, q2⟩, _⟩ := (((U1.out.set0 (.slice none 0 0)).set1 (.slice none 0 0)).set2 (.int .i64 (vcode (rightB d l) nm val))).cells
    have HC := Lib.hid hc
    have hc' : (vcode (rightB d l) nm val != 0) = true := by simpa using hc
    clear hc
    generalize hce : vcode (rightB d l) nm val = c
    rw [hce] at hc' q0 q1 q2
    have HCe := Lib.hid hce
    clear hce
    go_wp2_with fail
    exact bodyPost_ret (v := failV c) (by simp [results, Tryz.results9, go_sem, q0, q1, q2, failV]) rfl ⟨.inl ⟨HC.out, by rw [HCe.out]⟩, below_three B1.out _ _ _⟩
end Go.Proofs.YtjajpdghamecoaaGreat
/- The helpers of the laws: the marks of a result's entry are found again; results as wholes. -/
namespace Go.Proofs.YtjajpdghamecoaaGreat
open Go.RowKit
attribute [local go_sem ↓] Go.wp_at_zero Go.wp_at_succ

theorem len_cnt (T : List AttrV) : T.length ≤ cntA T T.length := by
  have : ∀ L : List AttrV, L.length ≤ (L.map fun a => 1 + a.2.length).sum := fun L => by
    induction L with
    | nil => simp
    | cons a L ih => simp only [List.length_cons, List.map_cons, List.sum_cons]; omega
  have := this T
  unfold cntA; rw [List.take_length]
  omega
set_option maxRecDepth 100000 in
set_option maxHeartbeats 2000000 in
theorem heldAttrS_own (u : Value) (lo hi k : Nat) (T : List AttrV) (w : World) (hS : AttrsMk w lo hi u T k T.length T.length) (hz : cntA T T.length ≤ 800) (hk1 : 0 < k) (hk2 : k ≤ 100) :
    Calls Tryz.prog 123 #[u, .int .i64 k] w fun e w' => e = .returned (.int .i64 ((k + cntA T T.length : Nat) : Int)) ∧ Below w.heap.size w w' := by
  by_cases hT0 : T.length = 0
  · obtain ⟨ao, cap, rfl⟩ : ∃ ao cap, u = .slice ao T.length cap := by obtain ⟨P, _, h2, _⟩ := hS; exact own_slice h2.1
    clear hS
    have hc0 : cntA T T.length = 0 := by rw [hT0]; simp [cntA]
    rw [hc0, hT0]
    go_enter Tryz.func123, Tryz.ntmps123
    go_wp2
    go_loop [1, 5] (fun t i => t = .int .i64 k ∧ i = .int .i64 0) (fun _ _ => 0)
    case atStart => exact ⟨rfl, rfl⟩
    case round =>
      obtain ⟨rfl, rfl⟩ := hrel
      go_wp2
      go_ret
      exact ⟨rfl, Below.refl _ _⟩
  obtain ⟨g, cap, rfl, hg1, hg2, _⟩ := hS.at (j := 0) (by omega)
  have HS := Lib.hid hS; clear hS
  have hTl : T.length ≤ 800 := Nat.le_trans (len_cnt T) hz
  go_enter Tryz.func123, Tryz.ntmps123
  go_wp2
  go_loopw [1, 5] (fun t i wr => ∃ j : Nat, j ≤ T.length ∧ i = .int .i64 j ∧ t = .int .i64 ((k + cntA T j : Nat) : Int) ∧ Below w.heap.size w wr) (fun _ i _ => T.length - (intOf i).toNat)
  case atStart => exact ⟨0, Nat.zero_le _, rfl, by simp [cntA], Below.refl _ _⟩
  case round =>
    obtain ⟨j, hj, rfl, rfl, hbel⟩ := hrel
    have hcj := cntA_le T j
    by_cases hlt : j < T.length
    · have HCs := Lib.hid (cntA_succ T j hlt)
      have hcs : cntA T j + (1 + T[j].2.length) ≤ cntA T T.length := by have := cntA_le T (j + 1); rw [HCs.out] at this; exact this
      have g1 : (0 : Int) ≤ (j : Int) := by omega
      have g2 : (j : Int) < (T.length : Int) := by omega
      obtain ⟨g', cap', eu, _, _, ⟨x0, c0, hx0⟩, _, vo, vc, V, c1, v1, v2, hV⟩ := HS.out.at hlt
      injection eu with eu _ eu2
      injection eu with eu
      injection eu with eu
      subst eu; subst eu2
      have hxe := hx0 hlt
      subst hxe
      have hVe := hV hlt
      subst hVe
      have hgl : g < w.heap.size := World.block_lt_of_cell? w _ c0
      have HM1 := Lib.hid (fun W h => markText_from w (k + cntA T j) W (by omega) (by omega) h)
      have HSt : Hid (∀ W, Below w.heap.size w W → Calls Tryz.prog 134 #[.slice vo T[j].2.length vc, .int .i64 ((k + cntA T j + 1 : Nat) : Int)] W fun e w' => e = .returned (.int .i64 ((k + cntA T j + 1 + T[j].2.length : Nat) : Int)) ∧ Below w.heap.size w w') :=
        Lib.hid (fun W h => (heldStringS_any vo T[j].2.length vc (k + cntA T j + 1) W ((own_strs v2.1).below h) (by omega) (by omega) (by omega)).mono fun e w' ⟨a, b⟩ => ⟨a, h.trans (b.mono h.size)⟩)
      have hnn : T[j].2.length ≤ 800 := by omega
      clear v1 v2 hx0 hV
      generalize T[j].2.length = n at *
      generalize mkT (k + cntA T j) = A at *
      generalize cntA T j = c at *
      rw [show ((k + c + 1 : Nat) : Int) = (k : Int) + (c : Int) + 1 by omega] at HSt
      rw [show ((k + c : Nat) : Int) = (k : Int) + (c : Int) by omega] at HM1 ⊢
      have SK : Hid (∀ W : World, Below w.heap.size w W → (Below w.heap.size w W ∧ W.cell? ⟨g, j * 2, none⟩ = some (.string A) ∧ W.cell? ⟨g, j * 2 + 1, none⟩ = some (.slice vo n vc))) :=
        Lib.hid (fun W h => ⟨h, (h.cell (p := ⟨g, _, none⟩) hgl).trans c0, (h.cell (p := ⟨g, _, none⟩) hgl).trans c1⟩)
      clear c0 c1
      have hbd := hbel.drew
      go_wp2_with fail
      go_region_held3 (fun W => Below w.heap.size w W ∧ W.cell? ⟨g, j * 2, none⟩ = some (.string A) ∧ W.cell? ⟨g, j * 2 + 1, none⟩ = some (.slice vo n vc))
        (exact SK.out _ (by assumption))
        (first | (go_at_call 86; refine (HM1.out _ (by assumption)).mono ?_; rintro e w2 ⟨rfl, hb2⟩) | (fail "none"))
      obtain ⟨_, c0, c1⟩ := SK.out _ hb2
      clear hbel hbd
      have hq : ¬ ((k + c + 1 + n : Nat) : Int) < 0 := by omega
      have HQ : Hid (((k + c + 1 + n : Nat) : Int) = ((k + (c + (1 + n)) : Nat) : Int)) := Lib.hid (by omega)
      generalize ((k + c + 1 + n : Nat) : Int) = Q at *
      go_wp2_with fail
      refine (HSt.out _ hb2).mono ?_
      rintro e w3 ⟨rfl, hb3⟩
      go_wp2
      go_roundw
      case rel => exact ⟨j + 1, by omega, by go_num, by rw [HCs.out, HQ.out], hb3⟩
      case measure => simp [intOf]; omega
    · have e : j = T.length := by omega
      subst e
      go_wp2
      go_ret
      exact ⟨ret_int' (by omega), hbel⟩
/-- an entry of the law's own, not yet marked -/
def OutIn (w : World) (lo hi : Nat) (v u : Value) (D : RdnL) (T : List AttrV) : Prop := RowIn w lo hi 97 2 v D.length (rs D) ∧ AttrsMk w lo hi u T (1 + 2 * D.length) 0 0
def OutMk (w : World) (lo hi : Nat) (v u : Value) (D : RdnL) (T : List AttrV) : Prop := RowIn w lo hi 97 2 v (marks 1 D.length).length (rs (marks 1 D.length)) ∧ AttrsMk w lo hi u T (1 + 2 * D.length) T.length T.length
def cntE (D : RdnL) (T : List AttrV) : Nat := 1 + 2 * D.length + cntA T T.length
theorem OutMk.below {w w' : World} {lo hi : Nat} {v u : Value} {D : RdnL} {T : List AttrV} (h : OutMk w lo hi v u D T) (hb : Below w.heap.size w w') : OutMk w' lo hi v u D T := ⟨h.1.below hb, h.2.below hb⟩
theorem attrsMk_of {w : World} {lo : Nat} {u : Value} {T : List AttrV} (h : AttrsOwn w lo u T) (k : Nat) : AttrsMk w lo w.heap.size u T k 0 0 := by
  obtain ⟨P, h1, h2, h3, h4⟩ := h
  refine ⟨P, h1, rowIn_of h2, h4.imp fun h => h.2, fun i a b => ?_⟩
  obtain ⟨q1, q2, q3⟩ := h3 i a b
  exact ⟨fun h => absurd h (Nat.not_lt_zero _), q2, T[i].2, rfl, rowIn_of q3, fun h => absurd h (Nat.not_lt_zero _), fun _ => q1, fun _ => rfl⟩
/-- what is not marked is read as it is -/
theorem AttrsMk.attrs {w : World} {lo hi k n cap : Nat} {uo : Option Addr} {T : List AttrV} (h : AttrsMk w lo hi (.slice uo n cap) T k 0 0) : AttrsAt w uo T := by
  obtain ⟨P, h1, h2, _, h4⟩ := h
  by_cases hT : T = []
  · exact .inl hT
  have hT' : 0 < T.length := List.length_pos_iff.2 hT
  rcases h2.1.2 with ⟨_, h0⟩ | ⟨g, cap', cur, e, hg, hk, _⟩
  · omega
  · injection e with e1 e2 e3
    subst e1; subst e2; subst e3
    refine .inr ⟨g, 0, rfl, (Array.getElem?_eq_some_iff.1 hk).1, fun i hi => ?_⟩
    have hiP : i < P.length := by omega
    obtain ⟨_, ⟨vo, m, vc, q2⟩, V, q3, q4, _, q6, q7⟩ := h4 i hi hiP
    have hV := q7 (Nat.zero_le _); subst hV
    rw [q2] at q4
    obtain rfl : m = T[i].2.length := (slice_own q4).symm
    have c0 := h2.1.cellAt (i * 2) (by omega)
    have c1 := h2.1.cellAt (i * 2 + 1) (by omega)
    obtain ⟨p0, p1⟩ := ps_get P i hiP
    rw [p0, q6 (Nat.zero_le _)] at c0; rw [p1, q2] at c1
    rw [Nat.zero_add]
    refine ⟨c0, vo, vc, c1, own_strs q4.1, own_cap q4.1, fun e => ?_⟩
    subst e
    rcases q4.1.2 with ⟨q, _⟩ | ⟨k, cp, cur, q, _⟩
    · injection q
    · injection q with q; cases q
theorem AttrsMk.mid {w w' : World} {lo hi a b k jn jv : Nat} {u : Value} {T : List AttrV} (h : AttrsMk w lo hi u T k jn jv) (hm : Mid a b w w') (hx : hi ≤ a ∨ b ≤ lo) : AttrsMk w' lo hi u T k jn jv := by
  obtain ⟨P, h1, h2, h3, h4⟩ := h
  refine ⟨P, h1, h2.mid hm hx, h3, fun i p q => ?_⟩
  obtain ⟨q1, q2, V, q3, q4, q5⟩ := h4 i p q
  exact ⟨q1, q2, V, q3, q4.mid hm hx, q5⟩
/-- marks in rows of pairs leave the attributes -/
theorem AttrsMk.rdns {w w' : World} {lo hi k jn jv n lo' : Nat} {u v : Value} {T : List AttrV} {xs : List Value} (h : AttrsMk w lo hi u T k jn jv) (hv : w.ownsRow lo' 97 2 v n xs) (hg : w.grownBy w' v.ownBlock) : AttrsMk w' lo hi u T k jn jv := by
  obtain ⟨P, h1, h2, h3, h4⟩ := h
  refine ⟨P, h1, h2.kept hg (fun g e e' => rows_apart h2.1 hv (by decide) g e e'), h3, fun i p q => ?_⟩
  obtain ⟨q1, q2, V, q3, q4, q5⟩ := h4 i p q
  exact ⟨q1, q2, V, q3, q4.kept hg (fun g e e' => rows_apart q4.1 hv (by decide) g e e'), q5⟩
theorem OutIn.mid {w w' : World} {lo hi a b : Nat} {v u : Value} {D : RdnL} {T : List AttrV} (h : OutIn w lo hi v u D T) (hm : Mid a b w w') (hx : hi ≤ a ∨ b ≤ lo) : OutIn w' lo hi v u D T := ⟨h.1.mid hm hx, h.2.mid hm hx⟩
theorem OutIn.below {w w' : World} {lo hi : Nat} {v u : Value} {D : RdnL} {T : List AttrV} (h : OutIn w lo hi v u D T) (hb : Below w.heap.size w w') : OutIn w' lo hi v u D T := ⟨h.1.below hb, h.2.below hb⟩
theorem OutMk.mid {w w' : World} {lo hi a b : Nat} {v u : Value} {D : RdnL} {T : List AttrV} (h : OutMk w lo hi v u D T) (hm : Mid a b w w') (hx : hi ≤ a ∨ b ≤ lo) : OutMk w' lo hi v u D T := ⟨h.1.mid hm hx, h.2.mid hm hx⟩
set_option maxRecDepth 100000 in
set_option maxHeartbeats 2000000 in
theorem markEntry_own (vo uo : Option Addr) (cv cu : Nat) (D : RdnL) (T : List AttrV) (lo hi : Nat) (w : World) (h : OutIn w lo hi (.slice vo D.length cv) (.slice uo T.length cu) D T) (hD : D.length ≤ 40) (hT : cntA T T.length ≤ 800) (hhi : hi ≤ w.heap.size) :
    Calls Tryz.prog 34 #[.agg #[.slice vo D.length cv, .slice uo T.length cu], .int .i64 1] w fun e w' => e = .returned (.int .i64 (cntE D T : Int)) ∧ OutMk w' lo hi (.slice vo D.length cv) (.slice uo T.length cu) D T ∧ Mid lo hi w w' := by
  have H0 := Lib.hid h; clear h
  go_enter Tryz.func34, Tryz.ntmps34
  go_wp2_with fail
  have hal := more (Below.refl w.heap.size w) (.cells #[.slice vo D.length cv, .slice uo T.length cu] 26)
  refine calls_any' (fun W => Below w.heap.size w W ∧ w.heap.size < W.heap.size ∧ Two W w.heap.size 26 (.slice vo D.length cv) (.slice uo T.length cu)) ⟨hal, by simp, twoNew w 26 _ _⟩ ?_
  clear hal
  rintro W ⟨hbW, hlW, t0⟩
  have D1 := Lib.hid (H0.out.below hbW)
  refine (markRdnS_any _ D lo 1 W D1.out.1.1 (by omega) (by omega) (by omega)).mono ?_
  rintro e w2 ⟨rfl, hr2, hg2⟩
  have A2 := Lib.hid (D1.out.2.rdns D1.out.1.1 hg2)
  have R2 : Hid (RowIn w2 lo hi 97 2 (.slice vo D.length cv) (marks 1 D.length).length (rs (marks 1 D.length))) := Lib.hid ⟨hr2, D1.out.1.2⟩
  have M2 := Lib.hid ((Mid.of_below (lo := lo) (hi := hi) hbW).trans (D1.out.1.turn hg2))
  have T2 : Hid (Two w2 w.heap.size 26 (.slice vo D.length cv) (.slice uo T.length cu)) := Lib.hid ((hg2.block w.heap.size hlW (by intro e; have := D1.out.1.2 _ e.symm; omega)).trans t0)
  obtain ⟨⟨c0, c1⟩, _⟩ := T2.out.cells
  clear hbW hlW t0 hg2 hr2 D1 H0
  have HA := Lib.hid (markAttrS_own _ lo hi (1 + 2 * D.length) T w2 A2.out hT (by omega) (by omega))
  have HQ : Hid ((1 + 2 * D.length + cntA T T.length : Nat) = cntE D T) := Lib.hid rfl
  go_wp2_with fail
  refine HA.out.mono ?_
  rintro e w3 ⟨rfl, ha3, hm3, hk3⟩
  have M3 := Lib.hid (M2.out.trans hm3)
  have O3 : Hid (OutMk w3 lo hi (.slice vo D.length cv) (.slice uo T.length cu) D T) := Lib.hid ⟨R2.out.keep97 hk3, ha3⟩
  clear hm3 ha3 hk3
  rw [HQ.out]
  go_wp2
  go_ret
  exact ⟨rfl, O3.out, M3.out⟩
set_option maxRecDepth 100000 in
set_option maxHeartbeats 2000000 in
theorem markEntryOut_own (vo uo : Option Addr) (cv cu : Nat) (c : Int) (D : RdnL) (T : List AttrV) (lo hi : Nat) (w : World) (h : OutIn w lo hi (.slice vo D.length cv) (.slice uo T.length cu) D T) (hD : D.length ≤ 40) (hT : cntA T T.length ≤ 800) (hhi : hi ≤ w.heap.size) :
    Calls Tryz.prog 35 #[.agg #[.slice vo D.length cv, .slice uo T.length cu, .int .i64 c], .int .i64 1] w fun e w' => e = .returned (.int .i64 (cntE D T : Int)) ∧ OutMk w' lo hi (.slice vo D.length cv) (.slice uo T.length cu) D T ∧ Mid lo hi w w' := by
  have H0 := Lib.hid h; clear h
  go_enter Tryz.func35, Tryz.ntmps35
  go_wp2_with fail
  have hal := more (Below.refl w.heap.size w) (.cells #[.slice vo D.length cv, .slice uo T.length cu, .int .i64 c] 30)
  refine calls_any' (fun W => Below w.heap.size w W) hal ?_
  clear hal
  rintro W hbW
  refine (markEntry_own vo uo cv cu D T lo hi W (H0.out.below hbW) hD hT (Nat.le_trans hhi hbW.size)).mono ?_
  rintro e w2 ⟨rfl, o2, m2⟩
  have O2 := Lib.hid o2; have M2 := Lib.hid ((Mid.of_below (lo := lo) (hi := hi) hbW).trans m2)
  clear o2 m2 hbW H0
  generalize hqe : (cntE D T : Int) = q
  have HQe := Lib.hid hqe; clear hqe
  go_wp2
  go_ret
  exact ⟨ret_int' HQe.out.symm, O2.out, M2.out⟩
set_option maxRecDepth 100000 in
set_option maxHeartbeats 2000000 in
theorem heldEntry_own (vo uo : Option Addr) (cv cu : Nat) (D : RdnL) (T : List AttrV) (lo hi : Nat) (w : World) (h : OutMk w lo hi (.slice vo D.length cv) (.slice uo T.length cu) D T) (hD : D.length ≤ 40) (hT : cntA T T.length ≤ 800) :
    Calls Tryz.prog 85 #[.agg #[.slice vo D.length cv, .slice uo T.length cu], .int .i64 1] w fun e w' => e = .returned (.int .i64 (cntE D T : Int)) ∧ Below w.heap.size w w' := by
  have H0 := Lib.hid h; clear h
  go_enter Tryz.func85, Tryz.ntmps85
  go_wp2_with fail
  have hal := more (Below.refl w.heap.size w) (.cells #[.slice vo D.length cv, .slice uo T.length cu] 26)
  refine calls_any' (fun W => Below w.heap.size w W ∧ Two W w.heap.size 26 (.slice vo D.length cv) (.slice uo T.length cu)) ⟨hal, twoNew w 26 _ _⟩ ?_
  clear hal
  rintro W ⟨hbW, t0⟩
  have D1 := Lib.hid (H0.out.below hbW)
  refine (heldRdnS_any vo D.length cv 1 W (own_dn D1.out.1.1) (by omega) (by omega) (by omega)).mono ?_
  rintro e w2 ⟨rfl, hb2⟩
  have A2 := Lib.hid (D1.out.2.below hb2)
  have B2 := Lib.hid (hbW.trans (hb2.mono hbW.size)); have T2 := Lib.hid (t0.below hb2)
  obtain ⟨⟨c0, c1⟩, _⟩ := T2.out.cells
  clear hbW t0 hb2 D1 H0
  have HA := Lib.hid (heldAttrS_own _ lo hi (1 + 2 * D.length) T w2 A2.out hT (by omega) (by omega))
  have HQ : Hid ((1 + 2 * D.length + cntA T T.length : Nat) = cntE D T) := Lib.hid rfl
  have h1 : ¬ ((1 + 2 * D.length : Nat) : Int) < 0 := by omega
  have h2 : ¬ (cntE D T : Int) < 0 := by omega
  generalize ((1 + 2 * D.length : Nat) : Int) = q1 at *
  go_wp2_with fail
  refine HA.out.mono ?_
  rintro e w3 ⟨rfl, hb3⟩
  have B3 := Lib.hid (B2.out.trans (hb3.mono B2.out.size))
  clear hb3
  rw [HQ.out]
  generalize hqe : (cntE D T : Int) = q at *
  have HQe := Lib.hid hqe; clear hqe
  go_wp2
  go_ret
  exact ⟨ret_int' HQe.out.symm, B3.out⟩
set_option maxRecDepth 100000 in
set_option maxHeartbeats 2000000 in
theorem heldEntryOut_own (vo uo : Option Addr) (cv cu : Nat) (c : Int) (D : RdnL) (T : List AttrV) (lo hi : Nat) (w : World) (h : OutMk w lo hi (.slice vo D.length cv) (.slice uo T.length cu) D T) (hD : D.length ≤ 40) (hT : cntA T T.length ≤ 800) :
    Calls Tryz.prog 36 #[.agg #[.slice vo D.length cv, .slice uo T.length cu, .int .i64 c], .int .i64 1] w fun e w' => e = .returned (.int .i64 (cntE D T : Int)) ∧ Below w.heap.size w w' := by
  have H0 := Lib.hid h; clear h
  go_enter Tryz.func36, Tryz.ntmps36
  go_wp2_with fail
  have hal := more (Below.refl w.heap.size w) (.cells #[.slice vo D.length cv, .slice uo T.length cu, .int .i64 c] 30)
  refine calls_any' (fun W => Below w.heap.size w W) hal ?_
  clear hal
  rintro W hbW
  refine (heldEntry_own vo uo cv cu D T lo hi W (H0.out.below hbW) hD hT).mono ?_
  rintro e w2 ⟨rfl, b2⟩
  have B2 := Lib.hid (hbW.trans (b2.mono hbW.size))
  clear b2 hbW H0
  have h2 : ¬ (cntE D T : Int) < 0 := by omega
  generalize hqe : (cntE D T : Int) = q at *
  have HQe := Lib.hid hqe; clear hqe
  go_wp2
  go_ret
  exact ⟨ret_int' HQe.out.symm, B2.out⟩
end Go.Proofs.YtjajpdghamecoaaGreat
/- l03Sort: what the specification's text returns. -/
namespace Go.Proofs.YtjajpdghamecoaaGreat
open Go.RowKit
attribute [local go_sem ↓] Go.wp_at_zero Go.wp_at_succ

def insN (x : ByteArray) (o : List ByteArray) : List ByteArray := o.takeWhile (fun y => normLt y x) ++ x :: o.dropWhile (fun y => normLt y x)
def sortN (V : List ByteArray) : List ByteArray := V.foldl (fun o x => insN x o) []
theorem sortN_snoc (V : List ByteArray) (x : ByteArray) : sortN (V ++ [x]) = insN x (sortN V) := by unfold sortN; rw [List.foldl_append]; rfl
theorem insN_perm (x : ByteArray) (o : List ByteArray) : (insN x o).Perm (x :: o) := by
  unfold insN
  refine List.perm_middle.trans ?_
  rw [List.takeWhile_append_dropWhile]
theorem sortN_perm (V : List ByteArray) : (sortN V).Perm V := by
  refine snoc_rec (P := fun V => (sortN V).Perm V) (.refl _) (fun l a ih => ?_) V
  rw [sortN_snoc]
  exact (insN_perm a _).trans ((List.Perm.cons a ih).trans (List.perm_append_comm (l₁ := [a])))
theorem sortN_len (V : List ByteArray) : (sortN V).length = V.length := (sortN_perm V).length_eq
/-- the first k are less, the k-th is not: so the place is k -/
theorem insN_at {x : ByteArray} {o : List ByteArray} {k : Nat} (hk : k ≤ o.length) (h1 : ∀ i (hi : i < o.length), i < k → normLt o[i] x = true) (h2 : ∀ h : k < o.length, normLt o[k] x = false) : insN x o = o.take k ++ [x] ++ o.drop k := by
  have ht : o.takeWhile (fun y => normLt y x) = o.take k ∧ o.dropWhile (fun y => normLt y x) = o.drop k := by
    induction o generalizing k with
    | nil => simp
    | cons y o ih =>
      cases k with
      | zero =>
        have := h2 (by simp)
        simp at this
        simp [this]
      | succ k =>
        have hy := h1 0 (by simp) (by omega)
        simp at hy
        have := ih (k := k) (by simpa using hk) (fun i hi hik => by have := h1 (i + 1) (by simpa using hi) (by omega); simpa using this) (fun h => by have := h2 (by simpa using h); simpa using this)
        simp [hy, this.1, this.2]
  unfold insN
  rw [ht.1, ht.2]; simp
theorem Tryz.elem36' : Tryz.prog.elem 36 = 9 := by kernel_rfl
theorem Tryz.size9' (w : World) : (sizeOf 9).run Tryz.prog w = .ok 1 w := by kernel_rfl
theorem head36 (a : Addr) (n k cap : Nat) (hk : k ≤ cap) (W : World) : (Instr.slice 36 (.slice (some a) n cap) none (some (.int .i64 (k : Int))) none).run Tryz.prog W = .ok (.slice (some a) k cap) W := by
  rw [run_slice_h W 36 (some a) n cap (by rw [Tryz.elem36']; exact Tryz.underlying36) .i64 (k : Int) (by omega) (by omega), Tryz.elem36', Tryz.size9']
  simp [Result.andThen, sliced]
  intro _
  unfold Addr.add; split <;> simp_all
theorem tail36 (w : World) (a : Addr) (o : List ByteArray) (k cap : Nat) (hk : k ≤ o.length) (hc : o.length ≤ cap) (hd : StrsAt w (some a) o) :
    ∃ a', (∀ W : World, (Instr.slice 36 (.slice (some a) o.length cap) (some (.int .i64 (k : Int))) none none).run Tryz.prog W = .ok (.slice (some a') (o.length - k) (cap - k)) W) ∧ StrsAt w (some a') (o.drop k) := by
  refine ⟨if cap = k then a else a.add k, fun W => ?_, ?_⟩
  · rw [run_slice_l W 36 (some a) o.length cap (by rw [Tryz.elem36']; exact Tryz.underlying36) .i64 (k : Int) (by omega) (by omega), Tryz.elem36', Tryz.size9']
    simp [Result.andThen, sliced]
    split <;> simp
  · by_cases h0 : o.length = k
    · exact .inl (List.drop_eq_nil_of_le (by omega))
    · rw [if_neg (by omega)]
      obtain ⟨b, off, e0, hb, _⟩ := hd.at (k := 0) (by omega)
      injection e0 with e0
      subst e0
      refine .inr ⟨b, off + k, by simp [Addr.add], hb, fun i hi => ?_⟩
      rw [List.length_drop] at hi
      rw [List.getElem_drop]
      obtain ⟨b', off', e, _, c1⟩ := hd.at (k := k + i) (by omega)
      cases e
      rw [Nat.add_assoc]; exact c1
theorem StrsAt.take {w : World} {ao : Option Addr} {o : List ByteArray} (h : StrsAt w ao o) (k : Nat) : StrsAt w ao (o.take k) := by
  rcases h with h | ⟨b, off, h1, h2, h3⟩
  · subst h; exact .inl (by simp)
  · exact .inr ⟨b, off, h1, h2, fun i hi => by rw [List.getElem_take]; exact h3 i (by rw [List.length_take] at hi; omega)⟩
set_option maxRecDepth 100000 in
set_option maxHeartbeats 1000000 in
theorem l03Sort_any (vo : Option Addr) (V : List ByteArray) (vc : Nat) (w : World) (hd : StrsAt w vo V) (hf : FitsV V) (h12 : V.length ≤ 400) :
    Calls Tryz.prog 132 #[.slice vo V.length vc] w (GivesV w (sortN V)) := by
  have HD := Lib.hid hd; have HF := Lib.hid hf; clear hd hf
  go_enter Tryz.func132, Tryz.ntmps132
  go_wp2_with fail
  go_loopw [3, 4] (fun v i wr => ∃ k : Nat, k ≤ V.length ∧ i = .int .i64 k ∧ (∃ a n c, v = .slice (some a) n c) ∧ wr.ownsRow w.heap.size 9 1 v (sortN (V.take k)).length (ss (sortN (V.take k))) ∧ Below w.heap.size w wr) (fun _ i _ => V.length - (intOf i).toNat)
  case atStart => exact ⟨0, Nat.zero_le _, rfl, ⟨_, _, _, rfl⟩, own_zero w rfl (Nat.le_refl _), more (Below.refl _ _) _⟩
  case round =>
    obtain ⟨Y, rfl⟩ : ∃ Y, Y = wr := ⟨_, rfl⟩
    obtain ⟨k, hk, rfl, ⟨oa, on, oc, rfl⟩, hown, hbel⟩ := hrel
    have hsz := hbel.size
    by_cases hlt : k < V.length
    · obtain ⟨p, off, rfl, hp0, hd1⟩ := (HD.out.below hbel).at hlt
      have hzx := HF.out.max hlt
      have HN : Hid (sortN (V.take (k + 1)) = insN V[k] (sortN (V.take k))) := Lib.hid (by rw [take_snoc' V k hlt, sortN_snoc])
      have hol : (sortN (V.take k)).length = k := by rw [sortN_len, List.length_take]; omega
      have HZo : Hid (∀ s ∈ sortN (V.take k), s.size ≤ maxLen) := Lib.hid (fun s hs => by have := HF.out.2 s (List.mem_of_mem_take ((sortN_perm _).mem_iff.1 hs)); unfold maxLen; omega)
      generalize sortN (V.take k) = o at *
      generalize V[k] = x at *
      have hol' : o.length ≤ 400 := by omega
      clear hol
      obtain rfl : on = o.length := by obtain ⟨_, _, e⟩ := own_slice hown; injection e
      have HS := Lib.hid (own_strs hown)
      have HOc := Lib.hid (own_cap hown)
      have HO := Lib.hid hown; have HB := Lib.hid hbel
      clear hown hbel
      go_wp2_with fail
      go_loopw [5] (fun i Z => ∃ j : Nat, j ≤ o.length ∧ i = .int .i64 j ∧ (∀ i (hi : i < o.length), i < j → normLt o[i] x = true) ∧ Below Y.heap.size Y Z) (fun i _ => o.length - (intOf i).toNat)
      case atStart => exact ⟨0, Nat.zero_le _, rfl, fun i _ h => absurd h (Nat.not_lt_zero _), Below.refl _ _⟩
      case round =>
        obtain ⟨j, hj, rfl, hlow, hbz⟩ := hrel
        have Hlow := Lib.hid hlow; clear hlow
        have hsz2 := hbz.size
        by_cases hjl : j < o.length
        · obtain ⟨q, qo, eqa, hq0, hq1⟩ := HS.out.at hjl
          injection eqa with eqa
          subst eqa
          have hzo := HZo.out o[j] (List.getElem_mem _)
          have HX : Hid (normLt o[j] x = false → insN x o = o.take j ++ [x] ++ o.drop j) := Lib.hid (fun h => insN_at hj Hlow.out (fun _ => h))
          have HNx : Hid (normLt o[j] x = true → ∀ i (hi : i < o.length), i < j + 1 → normLt o[i] x = true) := Lib.hid (fun hn i h hij => by
            by_cases e : i = j
            · subst e; exact hn
            · exact Hlow.out i h (by omega))
          have HQ : Hid (normLt o[j] x = Op.bytesLess (normS o[j]).toList (normS x).toList) := Lib.hid rfl
          have SK : Hid (∀ Z : World, Below wr.heap.size wr Z → (Below wr.heap.size wr Z ∧ Z.cell? ⟨q, qo + j, none⟩ = some (.string o[j]) ∧ Z.cell? ⟨p, off + k, none⟩ = some (.string x))) :=
            Lib.hid (fun Z h => ⟨h, ((hbz.trans (h.mono hsz2)).cell (p := ⟨q, qo + j, none⟩) hq0).trans hq1, ((hbz.trans (h.mono hsz2)).cell (p := ⟨p, off + k, none⟩) hp0).trans hd1⟩)
          clear hq1
          generalize o[j] = y at *
          have HN1 : Hid (∀ Z, Below wr.heap.size wr Z → Calls Tryz.prog 99 #[.string y] Z fun e w' => e = .returned (.string (normS y)) ∧ Below wr.heap.size wr w') := Lib.hid (fun Z h => SpecNorm_from wr y Z hzo h)
          have HN2 : Hid (∀ Z, Below wr.heap.size wr Z → Calls Tryz.prog 99 #[.string x] Z fun e w' => e = .returned (.string (normS x)) ∧ Below wr.heap.size wr w') := Lib.hid (fun Z h => SpecNorm_from wr x Z hzx h)
          have hb0 : Below wr.heap.size wr wr := Below.refl _ _
          have hbd := hb0.drew
          have g1 : (0 : Int) ≤ (j : Int) := by omega
          have g2 : (j : Int) < (o.length : Int) := by omega
          have g2n : decide (j < o.length) = true := by simpa using hjl
          have g3 : (0 : Int) ≤ (k : Int) := by omega
          have g4 : (k : Int) < (V.length : Int) := by omega
          generalize normS y = ny at *
          generalize normS x = nx at *
          cases hn : Op.bytesLess ny.toList nx.toList
          · have HX' := Lib.hid (HX.out (HQ.out.trans hn))
            go_wp2_with fail
            refine wp_region_held_drew (S := (fun Z => Below wr.heap.size wr Z ∧ Z.cell? ⟨q, qo + j, none⟩ = some (.string y) ∧ Z.cell? ⟨p, off + k, none⟩ = some (.string x))) (by kernel_rfl) ?_ (fun hHeld => ?_)
            · (try dsimp only)
              exact SK.out _ (by assumption)
            refine wpAnyH_take (i := 0) (oi := { dst := some 14, op := Op.move (Operand.tmp 5), type := 3, pos := "l03_entry.go:89", after := #[], guard := none }) (v := ?_) rfl (by kernel_rfl) (by kernel_rfl) (by kernel_rfl) (fun _ _ _ h => h) (Or.inl ⟨by rfl, ?_⟩) (by assumption) ?_
            rotate_left
            · intro w hSw; (try dsimp only at hSw); go_simp; (try with_reducible rfl)
            (try simp only [Act.put, List.setIfInBounds_toArray, List.set_cons_zero, List.set_cons_succ])
            refine wpAnyH_take (i := 1) (oi := { dst := some 15, op := Op.move (Operand.tmp 3), type := 36, pos := "l03_entry.go:89", after := #[], guard := none }) (v := ?_) rfl (by kernel_rfl) (by kernel_rfl) (by kernel_rfl) (fun _ _ _ h => h) (Or.inl ⟨by rfl, ?_⟩) (by assumption) ?_
            rotate_left
            · intro w hSw; (try dsimp only at hSw); go_simp; (try with_reducible rfl)
            (try simp only [Act.put, List.setIfInBounds_toArray, List.set_cons_zero, List.set_cons_succ])
            refine wpAnyH_take (i := 2) (oi := { dst := some 16, op := Op.call { callee := Callee.builtin Builtin.len, args := #[Operand.tmp 15], argTypes := #[36] }, type := 3, pos := "l03_entry.go:89", after := #[{ on := 1, ground := Ground.data }], guard := none }) (v := ?_) rfl (by kernel_rfl) (by kernel_rfl) (by kernel_rfl) (fun _ _ _ h => h) (Or.inl ⟨by rfl, ?_⟩) (by assumption) ?_
            rotate_left
            · intro w hSw; (try dsimp only at hSw); go_simp; (try with_reducible rfl)
            (try simp only [Act.put, List.setIfInBounds_toArray, List.set_cons_zero, List.set_cons_succ])
            refine wpAnyH_take (i := 3) (oi := { dst := some 17, op := Op.binOp BinOp.lss 3 (Operand.tmp 14) (Operand.tmp 16) 3, type := 4, pos := "l03_entry.go:89", after := #[{ on := 0, ground := Ground.data }, { on := 2, ground := Ground.data }], guard := none }) (v := ?_) rfl (by kernel_rfl) (by kernel_rfl) (by kernel_rfl) (fun _ _ _ h => h) (Or.inl ⟨by rfl, ?_⟩) (by assumption) ?_
            rotate_left
            · intro w hSw; (try dsimp only at hSw); go_simp; (try with_reducible rfl)
            (try simp only [Act.put, List.setIfInBounds_toArray, List.set_cons_zero, List.set_cons_succ])
            refine wpAnyH_take (i := 4) (oi := { dst := some 18, op := Op.move (Operand.tmp 17), type := 4, pos := "l03_entry.go:89", after := #[{ on := 3, ground := Ground.data }], guard := none }) (v := ?_) rfl (by kernel_rfl) (by kernel_rfl) (by kernel_rfl) (fun _ _ _ h => h) (Or.inl ⟨by rfl, ?_⟩) (by assumption) ?_
            rotate_left
            · intro w hSw; (try dsimp only at hSw); go_simp; (try with_reducible rfl)
            (try simp only [Act.put, List.setIfInBounds_toArray, List.set_cons_zero, List.set_cons_succ])
            refine wpAnyH_take (i := 5) (oi := { dst := some 19, op := Op.move (Operand.tmp 3), type := 36, pos := "l03_entry.go:89", after := #[{ on := 4, ground := Ground.guard }], guard := some (4, true) }) (v := ?_) rfl (by kernel_rfl) (by kernel_rfl) (by kernel_rfl) (fun _ _ _ h => h) (Or.inl ⟨by rfl, ?_⟩) (by assumption) ?_
            rotate_left
            · intro w hSw; (try dsimp only at hSw); go_simp; (try with_reducible rfl)
            (try simp only [Act.put, List.setIfInBounds_toArray, List.set_cons_zero, List.set_cons_succ])
            refine wpAnyH_take (i := 6) (oi := { dst := some 20, op := Op.move (Operand.tmp 5), type := 3, pos := "l03_entry.go:89", after := #[{ on := 4, ground := Ground.guard }], guard := some (4, true) }) (v := ?_) rfl (by kernel_rfl) (by kernel_rfl) (by kernel_rfl) (fun _ _ _ h => h) (Or.inl ⟨by rfl, ?_⟩) (by assumption) ?_
            rotate_left
            · intro w hSw; (try dsimp only at hSw); go_simp; (try with_reducible rfl)
            (try simp only [Act.put, List.setIfInBounds_toArray, List.set_cons_zero, List.set_cons_succ])
            refine wpAnyH_take (i := 7) (oi := { dst := some 21, op := Op.indexAddr 36 (Operand.tmp 19) (Operand.tmp 20), type := 0, pos := "l03_entry.go:89", after := #[{ on := 5, ground := Ground.data }, { on := 6, ground := Ground.data }, { on := 4, ground := Ground.guard }], guard := some (4, true) }) (v := ?_) rfl (by kernel_rfl) (by kernel_rfl) (by kernel_rfl) (fun _ _ _ h => h) (Or.inl ⟨by rfl, ?_⟩) (by assumption) ?_
            rotate_left
            · intro w hSw; (try dsimp only at hSw); go_simp; (try with_reducible rfl)
            (try simp only [Act.put, List.setIfInBounds_toArray, List.set_cons_zero, List.set_cons_succ])
            refine wpAnyH_take (i := 8) (oi := { dst := some 22, op := Op.load 9 (Operand.tmp 21), type := 9, pos := "l03_entry.go:89", after := #[{ on := 7, ground := Ground.data }, { on := 4, ground := Ground.guard }], guard := some (4, true) }) (v := ?_) rfl (by kernel_rfl) (by kernel_rfl) (by kernel_rfl) (fun _ _ _ h => h) (Or.inl ⟨by rfl, ?_⟩) (by assumption) ?_
            rotate_left
            · intro w hSw; (try dsimp only at hSw); go_simp; (try with_reducible rfl)
            (try simp only [Act.put, List.setIfInBounds_toArray, List.set_cons_zero, List.set_cons_succ])
            refine wpAnyH_take (i := 10) (oi := { dst := some 24, op := Op.move (Operand.tmp 0), type := 36, pos := "l03_entry.go:89", after := #[{ on := 4, ground := Ground.guard }], guard := some (4, true) }) (v := ?_) rfl (by kernel_rfl) (by kernel_rfl) (by kernel_rfl) (fun _ _ _ h => h) (Or.inl ⟨by rfl, ?_⟩) (by assumption) ?_
            rotate_left
            · intro w hSw; (try dsimp only at hSw); go_simp; (try with_reducible rfl)
            (try simp only [Act.put, List.setIfInBounds_toArray, List.set_cons_zero, List.set_cons_succ])
            refine wpAnyH_take (i := 11) (oi := { dst := some 25, op := Op.move (Operand.tmp 4), type := 3, pos := "l03_entry.go:89", after := #[{ on := 4, ground := Ground.guard }], guard := some (4, true) }) (v := ?_) rfl (by kernel_rfl) (by kernel_rfl) (by kernel_rfl) (fun _ _ _ h => h) (Or.inl ⟨by rfl, ?_⟩) (by assumption) ?_
            rotate_left
            · intro w hSw; (try dsimp only at hSw); go_simp; (try with_reducible rfl)
            (try simp only [Act.put, List.setIfInBounds_toArray, List.set_cons_zero, List.set_cons_succ])
            refine wpAnyH_take (i := 12) (oi := { dst := some 26, op := Op.indexAddr 36 (Operand.tmp 24) (Operand.tmp 25), type := 0, pos := "l03_entry.go:89", after := #[{ on := 10, ground := Ground.data }, { on := 11, ground := Ground.data }, { on := 4, ground := Ground.guard }], guard := some (4, true) }) (v := ?_) rfl (by kernel_rfl) (by kernel_rfl) (by kernel_rfl) (fun _ _ _ h => h) (Or.inl ⟨by rfl, ?_⟩) (by assumption) ?_
            rotate_left
            · intro w hSw; (try dsimp only at hSw); go_simp; (try with_reducible rfl)
            (try simp only [Act.put, List.setIfInBounds_toArray, List.set_cons_zero, List.set_cons_succ])
            refine wpAnyH_take (i := 13) (oi := { dst := some 27, op := Op.load 9 (Operand.tmp 26), type := 9, pos := "l03_entry.go:89", after := #[{ on := 12, ground := Ground.data }, { on := 4, ground := Ground.guard }], guard := some (4, true) }) (v := ?_) rfl (by kernel_rfl) (by kernel_rfl) (by kernel_rfl) (fun _ _ _ h => h) (Or.inl ⟨by rfl, ?_⟩) (by assumption) ?_
            rotate_left
            · intro w hSw; (try dsimp only at hSw); go_simp; (try with_reducible rfl)
            (try simp only [Act.put, List.setIfInBounds_toArray, List.set_cons_zero, List.set_cons_succ])
            refine wpAnyH_ready (rs := [9]) (by kernel_rfl) (by simp) ?_
            refine AllReadyH.cons (o := { dst := some 23, op := Op.call { callee := Callee.value (Operand.func 99), args := #[Operand.tmp 22], argTypes := #[9] }, type := 9, pos := "l03_entry.go:89", after := #[{ on := 8, ground := Ground.data }, { on := 4, ground := Ground.chain }, { on := 4, ground := Ground.guard }], guard := some (4, true) }) rfl (fun K hK => ?_) AllReadyH.nil
            go_simp
            (refine (HN1.out _ (by assumption)).mono ?_; rintro e w7 ⟨rfl, hb7⟩; go_wp2_with fail)
            clear hHeld
            refine hK.out _ _ ?_ (fun hHeld => ?_)
            · (try dsimp only)
              exact SK.out _ (by assumption)
            clear hK K
            (try simp only [Act.put, List.setIfInBounds_toArray, List.set_cons_zero, List.set_cons_succ])
            refine wpAnyH_ready (rs := [14]) (by kernel_rfl) (by simp) ?_
            refine AllReadyH.cons (o := { dst := some 28, op := Op.call { callee := Callee.value (Operand.func 99), args := #[Operand.tmp 27], argTypes := #[9] }, type := 9, pos := "l03_entry.go:89", after := #[{ on := 13, ground := Ground.data }, { on := 9, ground := Ground.chain }, { on := 4, ground := Ground.guard }], guard := some (4, true) }) rfl (fun K hK => ?_) AllReadyH.nil
            go_simp
            (refine (HN2.out _ (by assumption)).mono ?_; rintro e w8 ⟨rfl, hb8⟩; go_wp2_with fail)
            clear hHeld
            refine hK.out _ _ ?_ (fun hHeld => ?_)
            · (try dsimp only)
              exact SK.out _ (by assumption)
            clear hK K
            (try simp only [Act.put, List.setIfInBounds_toArray, List.set_cons_zero, List.set_cons_succ])
            refine wpAnyH_take (i := 15) (oi := { dst := some 29, op := Op.binOp BinOp.lss 9 (Operand.tmp 23) (Operand.tmp 28) 9, type := 4, pos := "l03_entry.go:89", after := #[{ on := 9, ground := Ground.data }, { on := 14, ground := Ground.data }, { on := 4, ground := Ground.guard }], guard := some (4, true) }) (v := ?_) rfl (by kernel_rfl) (by kernel_rfl) (by kernel_rfl) (fun _ _ _ h => h) (Or.inl ⟨by rfl, ?_⟩) (by assumption) ?_
            rotate_left
            · intro w hSw; (try dsimp only at hSw); go_simp; (try with_reducible rfl)
            (try simp only [Act.put, List.setIfInBounds_toArray, List.set_cons_zero, List.set_cons_succ])
            refine wpAnyH_take (i := 16) (oi := { dst := some 30, op := Op.pick (Operand.tmp 18) (Operand.tmp 29) (Operand.const (Value.bool false)), type := 4, pos := "l03_entry.go:89", after := #[{ on := 4, ground := Ground.data }, { on := 15, ground := Ground.data }], guard := none }) (v := ?_) rfl (by kernel_rfl) (by kernel_rfl) (by kernel_rfl) (fun _ _ _ h => h) (Or.inl ⟨by rfl, ?_⟩) (by assumption) ?_
            rotate_left
            · intro w hSw; (try dsimp only at hSw); go_simp; (try with_reducible rfl)
            (try simp only [Act.put, List.setIfInBounds_toArray, List.set_cons_zero, List.set_cons_succ])
            refine wpAnyH_done (by kernel_rfl) ?_ _
            refine then_world (fun Z => Below Y.heap.size Y Z) (hbz.trans (hb8.mono hsz2)) ?_
            rintro Z hbZ
            have OZ := Lib.hid (own_below HO.out hbZ); have BZw := Lib.hid (HB.out.trans (hbZ.mono HB.out.size)); have hzY := hbZ.size
            have hxZ := (hbZ.cell (p := ⟨p, off + k, none⟩) hp0).trans hd1
            have SZ := Lib.hid (HS.out.below hbZ)
            have hh := head36 ⟨q, qo, none⟩ o.length j oc (by have := HOc.out; omega)
            obtain ⟨ta, hta, hts⟩ := tail36 Y ⟨q, qo, none⟩ o j oc hj HOc.out HS.out
            have HTs := Lib.hid (hts.below hbZ)
            have hpZ : p < Z.heap.size := Nat.lt_of_lt_of_le hp0 hzY
            have B0 := more (Below.refl Z.heap.size Z) (.cells #[] 9)
            have O0 := Lib.hid (own_zero Z (B := Z.heap.size) rfl (Nat.le_refl _))
            have HT0 := Lib.hid ((SZ.out.take j).below B0)
            have hnj : j = (o.take j).length := by rw [List.length_take]; omega
            have hnd : o.length - j = (o.drop j).length := by rw [List.length_drop]
            have Hnj := Lib.hid hnj; have Hnd := Lib.hid hnd
            have hl0 : ([] : List ByteArray).length + (o.take j).length ≤ 1000000000 := by rw [← hnj]; simp; omega
            have hl1 : ([] ++ o.take j).length ≤ 1000000000 := by simp; omega
            have hl2 : (([] ++ o.take j) ++ [x]).length + (o.drop j).length ≤ 1000000000 := by simp; omega
            have Hl0 := Lib.hid hl0; have Hl1 := Lib.hid hl1; have Hl2 := Lib.hid hl2
            have HFin : Hid (sortN (V.take (k + 1)) = (([] ++ o.take j) ++ [x]) ++ o.drop j) := Lib.hid (by rw [HN.out, HX'.out]; simp)
            clear hts hbZ hnj hnd hl0 hl1 hl2
            go_wp2_with (first
              | (at_builtin; refine append_strs Z.heap.size rfl _ _ rfl _ [] rfl O0.out (some ⟨q, qo, none⟩) (o.take j) oc _ Hnj.out rfl HT0.out (fun e => by cases e) Hl0.out B0.size B0 ?_; intro v4 w4 hown4 hbel4; have hx4 := (hbel4.cell (p := ⟨p, off + k, none⟩) hpZ).trans hxZ)
              | (at_builtin; refine append_str Z.heap.size rfl _ _ rfl _ ([] ++ o.take j) rfl hown4 _ rfl Hl1.out hbel4.size hbel4 ?_; intro v5 w5 hown5 hbel5 hsz5 _ _)
              | (at_builtin; refine append_strs Z.heap.size rfl _ _ rfl _ (([] ++ o.take j) ++ [x]) rfl hown5 (some ta) (o.drop j) (oc - j) _ Hnd.out rfl (HTs.out.below hbel5) (fun e => by cases e) Hl2.out hsz5 hbel5 ?_; intro v6 w6 hown6 hbel6)
              | (fail "none"))
            refine ⟨⟨k + 1, by omega, by go_num, ?_, ?_, BZw.out.trans (hbel6.mono BZw.out.size)⟩, ?_⟩
            · obtain ⟨g6, c6, e6, _⟩ := hown6.form (by simp; omega)
              exact ⟨_, _, _, e6⟩
            · rw [HFin.out]; exact own_mono hown6 BZw.out.size
            · simp [intOf]; omega
          · have HN' := Lib.hid (HNx.out (HQ.out.trans hn))
            go_wp2_with fail
            refine wp_region_held_drew (S := (fun Z => Below wr.heap.size wr Z ∧ Z.cell? ⟨q, qo + j, none⟩ = some (.string y) ∧ Z.cell? ⟨p, off + k, none⟩ = some (.string x))) (by kernel_rfl) ?_ (fun hHeld => ?_)
            · (try dsimp only)
              exact SK.out _ (by assumption)
            refine wpAnyH_take (i := 0) (oi := { dst := some 14, op := Op.move (Operand.tmp 5), type := 3, pos := "l03_entry.go:89", after := #[], guard := none }) (v := ?_) rfl (by kernel_rfl) (by kernel_rfl) (by kernel_rfl) (fun _ _ _ h => h) (Or.inl ⟨by rfl, ?_⟩) (by assumption) ?_
            rotate_left
            · intro w hSw; (try dsimp only at hSw); go_simp; (try with_reducible rfl)
            (try simp only [Act.put, List.setIfInBounds_toArray, List.set_cons_zero, List.set_cons_succ])
            refine wpAnyH_take (i := 1) (oi := { dst := some 15, op := Op.move (Operand.tmp 3), type := 36, pos := "l03_entry.go:89", after := #[], guard := none }) (v := ?_) rfl (by kernel_rfl) (by kernel_rfl) (by kernel_rfl) (fun _ _ _ h => h) (Or.inl ⟨by rfl, ?_⟩) (by assumption) ?_
            rotate_left
            · intro w hSw; (try dsimp only at hSw); go_simp; (try with_reducible rfl)
            (try simp only [Act.put, List.setIfInBounds_toArray, List.set_cons_zero, List.set_cons_succ])
            refine wpAnyH_take (i := 2) (oi := { dst := some 16, op := Op.call { callee := Callee.builtin Builtin.len, args := #[Operand.tmp 15], argTypes := #[36] }, type := 3, pos := "l03_entry.go:89", after := #[{ on := 1, ground := Ground.data }], guard := none }) (v := ?_) rfl (by kernel_rfl) (by kernel_rfl) (by kernel_rfl) (fun _ _ _ h => h) (Or.inl ⟨by rfl, ?_⟩) (by assumption) ?_
            rotate_left
            · intro w hSw; (try dsimp only at hSw); go_simp; (try with_reducible rfl)
            (try simp only [Act.put, List.setIfInBounds_toArray, List.set_cons_zero, List.set_cons_succ])
            refine wpAnyH_take (i := 3) (oi := { dst := some 17, op := Op.binOp BinOp.lss 3 (Operand.tmp 14) (Operand.tmp 16) 3, type := 4, pos := "l03_entry.go:89", after := #[{ on := 0, ground := Ground.data }, { on := 2, ground := Ground.data }], guard := none }) (v := ?_) rfl (by kernel_rfl) (by kernel_rfl) (by kernel_rfl) (fun _ _ _ h => h) (Or.inl ⟨by rfl, ?_⟩) (by assumption) ?_
            rotate_left
            · intro w hSw; (try dsimp only at hSw); go_simp; (try with_reducible rfl)
            (try simp only [Act.put, List.setIfInBounds_toArray, List.set_cons_zero, List.set_cons_succ])
            refine wpAnyH_take (i := 4) (oi := { dst := some 18, op := Op.move (Operand.tmp 17), type := 4, pos := "l03_entry.go:89", after := #[{ on := 3, ground := Ground.data }], guard := none }) (v := ?_) rfl (by kernel_rfl) (by kernel_rfl) (by kernel_rfl) (fun _ _ _ h => h) (Or.inl ⟨by rfl, ?_⟩) (by assumption) ?_
            rotate_left
            · intro w hSw; (try dsimp only at hSw); go_simp; (try with_reducible rfl)
            (try simp only [Act.put, List.setIfInBounds_toArray, List.set_cons_zero, List.set_cons_succ])
            refine wpAnyH_take (i := 5) (oi := { dst := some 19, op := Op.move (Operand.tmp 3), type := 36, pos := "l03_entry.go:89", after := #[{ on := 4, ground := Ground.guard }], guard := some (4, true) }) (v := ?_) rfl (by kernel_rfl) (by kernel_rfl) (by kernel_rfl) (fun _ _ _ h => h) (Or.inl ⟨by rfl, ?_⟩) (by assumption) ?_
            rotate_left
            · intro w hSw; (try dsimp only at hSw); go_simp; (try with_reducible rfl)
            (try simp only [Act.put, List.setIfInBounds_toArray, List.set_cons_zero, List.set_cons_succ])
            refine wpAnyH_take (i := 6) (oi := { dst := some 20, op := Op.move (Operand.tmp 5), type := 3, pos := "l03_entry.go:89", after := #[{ on := 4, ground := Ground.guard }], guard := some (4, true) }) (v := ?_) rfl (by kernel_rfl) (by kernel_rfl) (by kernel_rfl) (fun _ _ _ h => h) (Or.inl ⟨by rfl, ?_⟩) (by assumption) ?_
            rotate_left
            · intro w hSw; (try dsimp only at hSw); go_simp; (try with_reducible rfl)
            (try simp only [Act.put, List.setIfInBounds_toArray, List.set_cons_zero, List.set_cons_succ])
            refine wpAnyH_take (i := 7) (oi := { dst := some 21, op := Op.indexAddr 36 (Operand.tmp 19) (Operand.tmp 20), type := 0, pos := "l03_entry.go:89", after := #[{ on := 5, ground := Ground.data }, { on := 6, ground := Ground.data }, { on := 4, ground := Ground.guard }], guard := some (4, true) }) (v := ?_) rfl (by kernel_rfl) (by kernel_rfl) (by kernel_rfl) (fun _ _ _ h => h) (Or.inl ⟨by rfl, ?_⟩) (by assumption) ?_
            rotate_left
            · intro w hSw; (try dsimp only at hSw); go_simp; (try with_reducible rfl)
            (try simp only [Act.put, List.setIfInBounds_toArray, List.set_cons_zero, List.set_cons_succ])
            refine wpAnyH_take (i := 8) (oi := { dst := some 22, op := Op.load 9 (Operand.tmp 21), type := 9, pos := "l03_entry.go:89", after := #[{ on := 7, ground := Ground.data }, { on := 4, ground := Ground.guard }], guard := some (4, true) }) (v := ?_) rfl (by kernel_rfl) (by kernel_rfl) (by kernel_rfl) (fun _ _ _ h => h) (Or.inl ⟨by rfl, ?_⟩) (by assumption) ?_
            rotate_left
            · intro w hSw; (try dsimp only at hSw); go_simp; (try with_reducible rfl)
            (try simp only [Act.put, List.setIfInBounds_toArray, List.set_cons_zero, List.set_cons_succ])
            refine wpAnyH_take (i := 10) (oi := { dst := some 24, op := Op.move (Operand.tmp 0), type := 36, pos := "l03_entry.go:89", after := #[{ on := 4, ground := Ground.guard }], guard := some (4, true) }) (v := ?_) rfl (by kernel_rfl) (by kernel_rfl) (by kernel_rfl) (fun _ _ _ h => h) (Or.inl ⟨by rfl, ?_⟩) (by assumption) ?_
            rotate_left
            · intro w hSw; (try dsimp only at hSw); go_simp; (try with_reducible rfl)
            (try simp only [Act.put, List.setIfInBounds_toArray, List.set_cons_zero, List.set_cons_succ])
            refine wpAnyH_take (i := 11) (oi := { dst := some 25, op := Op.move (Operand.tmp 4), type := 3, pos := "l03_entry.go:89", after := #[{ on := 4, ground := Ground.guard }], guard := some (4, true) }) (v := ?_) rfl (by kernel_rfl) (by kernel_rfl) (by kernel_rfl) (fun _ _ _ h => h) (Or.inl ⟨by rfl, ?_⟩) (by assumption) ?_
            rotate_left
            · intro w hSw; (try dsimp only at hSw); go_simp; (try with_reducible rfl)
            (try simp only [Act.put, List.setIfInBounds_toArray, List.set_cons_zero, List.set_cons_succ])
            refine wpAnyH_take (i := 12) (oi := { dst := some 26, op := Op.indexAddr 36 (Operand.tmp 24) (Operand.tmp 25), type := 0, pos := "l03_entry.go:89", after := #[{ on := 10, ground := Ground.data }, { on := 11, ground := Ground.data }, { on := 4, ground := Ground.guard }], guard := some (4, true) }) (v := ?_) rfl (by kernel_rfl) (by kernel_rfl) (by kernel_rfl) (fun _ _ _ h => h) (Or.inl ⟨by rfl, ?_⟩) (by assumption) ?_
            rotate_left
            · intro w hSw; (try dsimp only at hSw); go_simp; (try with_reducible rfl)
            (try simp only [Act.put, List.setIfInBounds_toArray, List.set_cons_zero, List.set_cons_succ])
            refine wpAnyH_take (i := 13) (oi := { dst := some 27, op := Op.load 9 (Operand.tmp 26), type := 9, pos := "l03_entry.go:89", after := #[{ on := 12, ground := Ground.data }, { on := 4, ground := Ground.guard }], guard := some (4, true) }) (v := ?_) rfl (by kernel_rfl) (by kernel_rfl) (by kernel_rfl) (fun _ _ _ h => h) (Or.inl ⟨by rfl, ?_⟩) (by assumption) ?_
            rotate_left
            · intro w hSw; (try dsimp only at hSw); go_simp; (try with_reducible rfl)
            (try simp only [Act.put, List.setIfInBounds_toArray, List.set_cons_zero, List.set_cons_succ])
            refine wpAnyH_ready (rs := [9]) (by kernel_rfl) (by simp) ?_
            refine AllReadyH.cons (o := { dst := some 23, op := Op.call { callee := Callee.value (Operand.func 99), args := #[Operand.tmp 22], argTypes := #[9] }, type := 9, pos := "l03_entry.go:89", after := #[{ on := 8, ground := Ground.data }, { on := 4, ground := Ground.chain }, { on := 4, ground := Ground.guard }], guard := some (4, true) }) rfl (fun K hK => ?_) AllReadyH.nil
            go_simp
            (refine (HN1.out _ (by assumption)).mono ?_; rintro e w7 ⟨rfl, hb7⟩; go_wp2_with fail)
            clear hHeld
            refine hK.out _ _ ?_ (fun hHeld => ?_)
            · (try dsimp only)
              exact SK.out _ (by assumption)
            clear hK K
            (try simp only [Act.put, List.setIfInBounds_toArray, List.set_cons_zero, List.set_cons_succ])
            refine wpAnyH_ready (rs := [14]) (by kernel_rfl) (by simp) ?_
            refine AllReadyH.cons (o := { dst := some 28, op := Op.call { callee := Callee.value (Operand.func 99), args := #[Operand.tmp 27], argTypes := #[9] }, type := 9, pos := "l03_entry.go:89", after := #[{ on := 13, ground := Ground.data }, { on := 9, ground := Ground.chain }, { on := 4, ground := Ground.guard }], guard := some (4, true) }) rfl (fun K hK => ?_) AllReadyH.nil
            go_simp
            (refine (HN2.out _ (by assumption)).mono ?_; rintro e w8 ⟨rfl, hb8⟩; go_wp2_with fail)
            clear hHeld
            refine hK.out _ _ ?_ (fun hHeld => ?_)
            · (try dsimp only)
              exact SK.out _ (by assumption)
            clear hK K
            (try simp only [Act.put, List.setIfInBounds_toArray, List.set_cons_zero, List.set_cons_succ])
            refine wpAnyH_take (i := 15) (oi := { dst := some 29, op := Op.binOp BinOp.lss 9 (Operand.tmp 23) (Operand.tmp 28) 9, type := 4, pos := "l03_entry.go:89", after := #[{ on := 9, ground := Ground.data }, { on := 14, ground := Ground.data }, { on := 4, ground := Ground.guard }], guard := some (4, true) }) (v := ?_) rfl (by kernel_rfl) (by kernel_rfl) (by kernel_rfl) (fun _ _ _ h => h) (Or.inl ⟨by rfl, ?_⟩) (by assumption) ?_
            rotate_left
            · intro w hSw; (try dsimp only at hSw); go_simp; (try with_reducible rfl)
            (try simp only [Act.put, List.setIfInBounds_toArray, List.set_cons_zero, List.set_cons_succ])
            refine wpAnyH_take (i := 16) (oi := { dst := some 30, op := Op.pick (Operand.tmp 18) (Operand.tmp 29) (Operand.const (Value.bool false)), type := 4, pos := "l03_entry.go:89", after := #[{ on := 4, ground := Ground.data }, { on := 15, ground := Ground.data }], guard := none }) (v := ?_) rfl (by kernel_rfl) (by kernel_rfl) (by kernel_rfl) (fun _ _ _ h => h) (Or.inl ⟨by rfl, ?_⟩) (by assumption) ?_
            rotate_left
            · intro w hSw; (try dsimp only at hSw); go_simp; (try with_reducible rfl)
            (try simp only [Act.put, List.setIfInBounds_toArray, List.set_cons_zero, List.set_cons_succ])
            refine wpAnyH_done (by kernel_rfl) ?_ _
            go_wp2
            go_roundw
            case rel => exact ⟨j + 1, by omega, by go_num, HN'.out, hbz.trans (hb8.mono hsz2)⟩
            case measure => simp [intOf]; omega
        · have HX := Lib.hid (insN_at (x := x) (k := j) hj Hlow.out (fun h => absurd h hjl))
          have g2 : ¬ (j : Int) < (o.length : Int) := by omega
          have g2n : decide (j < o.length) = false := by simpa using hjl
          go_wp2_with fail
          refine wp_region_held_drew (S := (fun _ => True)) (by kernel_rfl) ?_ (fun hHeld => ?_)
          · (try dsimp only)
            all_goals trivial
          refine wpAnyH_take (i := 0) (oi := { dst := some 14, op := Op.move (Operand.tmp 5), type := 3, pos := "l03_entry.go:89", after := #[], guard := none }) (v := ?_) rfl (by kernel_rfl) (by kernel_rfl) (by kernel_rfl) (fun _ _ _ h => h) (Or.inl ⟨by rfl, ?_⟩) (by assumption) ?_
          rotate_left
          · intro w hSw; (try dsimp only at hSw); go_simp; (try with_reducible rfl)
          (try simp only [Act.put, List.setIfInBounds_toArray, List.set_cons_zero, List.set_cons_succ])
          refine wpAnyH_take (i := 1) (oi := { dst := some 15, op := Op.move (Operand.tmp 3), type := 36, pos := "l03_entry.go:89", after := #[], guard := none }) (v := ?_) rfl (by kernel_rfl) (by kernel_rfl) (by kernel_rfl) (fun _ _ _ h => h) (Or.inl ⟨by rfl, ?_⟩) (by assumption) ?_
          rotate_left
          · intro w hSw; (try dsimp only at hSw); go_simp; (try with_reducible rfl)
          (try simp only [Act.put, List.setIfInBounds_toArray, List.set_cons_zero, List.set_cons_succ])
          refine wpAnyH_take (i := 2) (oi := { dst := some 16, op := Op.call { callee := Callee.builtin Builtin.len, args := #[Operand.tmp 15], argTypes := #[36] }, type := 3, pos := "l03_entry.go:89", after := #[{ on := 1, ground := Ground.data }], guard := none }) (v := ?_) rfl (by kernel_rfl) (by kernel_rfl) (by kernel_rfl) (fun _ _ _ h => h) (Or.inl ⟨by rfl, ?_⟩) (by assumption) ?_
          rotate_left
          · intro w hSw; (try dsimp only at hSw); go_simp; (try with_reducible rfl)
          (try simp only [Act.put, List.setIfInBounds_toArray, List.set_cons_zero, List.set_cons_succ])
          refine wpAnyH_take (i := 3) (oi := { dst := some 17, op := Op.binOp BinOp.lss 3 (Operand.tmp 14) (Operand.tmp 16) 3, type := 4, pos := "l03_entry.go:89", after := #[{ on := 0, ground := Ground.data }, { on := 2, ground := Ground.data }], guard := none }) (v := ?_) rfl (by kernel_rfl) (by kernel_rfl) (by kernel_rfl) (fun _ _ _ h => h) (Or.inl ⟨by rfl, ?_⟩) (by assumption) ?_
          rotate_left
          · intro w hSw; (try dsimp only at hSw); go_simp; (try with_reducible rfl)
          (try simp only [Act.put, List.setIfInBounds_toArray, List.set_cons_zero, List.set_cons_succ])
          refine wpAnyH_take (i := 4) (oi := { dst := some 18, op := Op.move (Operand.tmp 17), type := 4, pos := "l03_entry.go:89", after := #[{ on := 3, ground := Ground.data }], guard := none }) (v := ?_) rfl (by kernel_rfl) (by kernel_rfl) (by kernel_rfl) (fun _ _ _ h => h) (Or.inl ⟨by rfl, ?_⟩) (by assumption) ?_
          rotate_left
          · intro w hSw; (try dsimp only at hSw); go_simp; (try with_reducible rfl)
          (try simp only [Act.put, List.setIfInBounds_toArray, List.set_cons_zero, List.set_cons_succ])
          refine wpAnyH_take (i := 5) (oi := { dst := some 19, op := Op.move (Operand.tmp 3), type := 36, pos := "l03_entry.go:89", after := #[{ on := 4, ground := Ground.guard }], guard := some (4, true) }) (v := undef) rfl (by kernel_rfl) (by kernel_rfl) (by kernel_rfl) (fun _ _ _ h => h) (Or.inr ⟨by rfl, rfl⟩) (by assumption) ?_
          (try simp only [Act.put, List.setIfInBounds_toArray, List.set_cons_zero, List.set_cons_succ])
          refine wpAnyH_take (i := 6) (oi := { dst := some 20, op := Op.move (Operand.tmp 5), type := 3, pos := "l03_entry.go:89", after := #[{ on := 4, ground := Ground.guard }], guard := some (4, true) }) (v := undef) rfl (by kernel_rfl) (by kernel_rfl) (by kernel_rfl) (fun _ _ _ h => h) (Or.inr ⟨by rfl, rfl⟩) (by assumption) ?_
          (try simp only [Act.put, List.setIfInBounds_toArray, List.set_cons_zero, List.set_cons_succ])
          refine wpAnyH_take (i := 7) (oi := { dst := some 21, op := Op.indexAddr 36 (Operand.tmp 19) (Operand.tmp 20), type := 0, pos := "l03_entry.go:89", after := #[{ on := 5, ground := Ground.data }, { on := 6, ground := Ground.data }, { on := 4, ground := Ground.guard }], guard := some (4, true) }) (v := undef) rfl (by kernel_rfl) (by kernel_rfl) (by kernel_rfl) (fun _ _ _ h => h) (Or.inr ⟨by rfl, rfl⟩) (by assumption) ?_
          (try simp only [Act.put, List.setIfInBounds_toArray, List.set_cons_zero, List.set_cons_succ])
          refine wpAnyH_take (i := 8) (oi := { dst := some 22, op := Op.load 9 (Operand.tmp 21), type := 9, pos := "l03_entry.go:89", after := #[{ on := 7, ground := Ground.data }, { on := 4, ground := Ground.guard }], guard := some (4, true) }) (v := undef) rfl (by kernel_rfl) (by kernel_rfl) (by kernel_rfl) (fun _ _ _ h => h) (Or.inr ⟨by rfl, rfl⟩) (by assumption) ?_
          (try simp only [Act.put, List.setIfInBounds_toArray, List.set_cons_zero, List.set_cons_succ])
          refine wpAnyH_take (i := 9) (oi := { dst := some 23, op := Op.call { callee := Callee.value (Operand.func 99), args := #[Operand.tmp 22], argTypes := #[9] }, type := 9, pos := "l03_entry.go:89", after := #[{ on := 8, ground := Ground.data }, { on := 4, ground := Ground.chain }, { on := 4, ground := Ground.guard }], guard := some (4, true) }) (v := undef) rfl (by kernel_rfl) (by kernel_rfl) (by kernel_rfl) (fun _ _ _ h => h) (Or.inr ⟨by rfl, rfl⟩) (by assumption) ?_
          (try simp only [Act.put, List.setIfInBounds_toArray, List.set_cons_zero, List.set_cons_succ])
          refine wpAnyH_take (i := 10) (oi := { dst := some 24, op := Op.move (Operand.tmp 0), type := 36, pos := "l03_entry.go:89", after := #[{ on := 4, ground := Ground.guard }], guard := some (4, true) }) (v := undef) rfl (by kernel_rfl) (by kernel_rfl) (by kernel_rfl) (fun _ _ _ h => h) (Or.inr ⟨by rfl, rfl⟩) (by assumption) ?_
          (try simp only [Act.put, List.setIfInBounds_toArray, List.set_cons_zero, List.set_cons_succ])
          refine wpAnyH_take (i := 11) (oi := { dst := some 25, op := Op.move (Operand.tmp 4), type := 3, pos := "l03_entry.go:89", after := #[{ on := 4, ground := Ground.guard }], guard := some (4, true) }) (v := undef) rfl (by kernel_rfl) (by kernel_rfl) (by kernel_rfl) (fun _ _ _ h => h) (Or.inr ⟨by rfl, rfl⟩) (by assumption) ?_
          (try simp only [Act.put, List.setIfInBounds_toArray, List.set_cons_zero, List.set_cons_succ])
          refine wpAnyH_take (i := 12) (oi := { dst := some 26, op := Op.indexAddr 36 (Operand.tmp 24) (Operand.tmp 25), type := 0, pos := "l03_entry.go:89", after := #[{ on := 10, ground := Ground.data }, { on := 11, ground := Ground.data }, { on := 4, ground := Ground.guard }], guard := some (4, true) }) (v := undef) rfl (by kernel_rfl) (by kernel_rfl) (by kernel_rfl) (fun _ _ _ h => h) (Or.inr ⟨by rfl, rfl⟩) (by assumption) ?_
          (try simp only [Act.put, List.setIfInBounds_toArray, List.set_cons_zero, List.set_cons_succ])
          refine wpAnyH_take (i := 13) (oi := { dst := some 27, op := Op.load 9 (Operand.tmp 26), type := 9, pos := "l03_entry.go:89", after := #[{ on := 12, ground := Ground.data }, { on := 4, ground := Ground.guard }], guard := some (4, true) }) (v := undef) rfl (by kernel_rfl) (by kernel_rfl) (by kernel_rfl) (fun _ _ _ h => h) (Or.inr ⟨by rfl, rfl⟩) (by assumption) ?_
          (try simp only [Act.put, List.setIfInBounds_toArray, List.set_cons_zero, List.set_cons_succ])
          refine wpAnyH_take (i := 14) (oi := { dst := some 28, op := Op.call { callee := Callee.value (Operand.func 99), args := #[Operand.tmp 27], argTypes := #[9] }, type := 9, pos := "l03_entry.go:89", after := #[{ on := 13, ground := Ground.data }, { on := 9, ground := Ground.chain }, { on := 4, ground := Ground.guard }], guard := some (4, true) }) (v := undef) rfl (by kernel_rfl) (by kernel_rfl) (by kernel_rfl) (fun _ _ _ h => h) (Or.inr ⟨by rfl, rfl⟩) (by assumption) ?_
          (try simp only [Act.put, List.setIfInBounds_toArray, List.set_cons_zero, List.set_cons_succ])
          refine wpAnyH_take (i := 15) (oi := { dst := some 29, op := Op.binOp BinOp.lss 9 (Operand.tmp 23) (Operand.tmp 28) 9, type := 4, pos := "l03_entry.go:89", after := #[{ on := 9, ground := Ground.data }, { on := 14, ground := Ground.data }, { on := 4, ground := Ground.guard }], guard := some (4, true) }) (v := undef) rfl (by kernel_rfl) (by kernel_rfl) (by kernel_rfl) (fun _ _ _ h => h) (Or.inr ⟨by rfl, rfl⟩) (by assumption) ?_
          (try simp only [Act.put, List.setIfInBounds_toArray, List.set_cons_zero, List.set_cons_succ])
          refine wpAnyH_take (i := 16) (oi := { dst := some 30, op := Op.pick (Operand.tmp 18) (Operand.tmp 29) (Operand.const (Value.bool false)), type := 4, pos := "l03_entry.go:89", after := #[{ on := 4, ground := Ground.data }, { on := 15, ground := Ground.data }], guard := none }) (v := ?_) rfl (by kernel_rfl) (by kernel_rfl) (by kernel_rfl) (fun _ _ _ h => h) (Or.inl ⟨by rfl, ?_⟩) (by assumption) ?_
          rotate_left
          · intro w hSw; (try dsimp only at hSw); go_simp; (try with_reducible rfl)
          (try simp only [Act.put, List.setIfInBounds_toArray, List.set_cons_zero, List.set_cons_succ])
          refine wpAnyH_done (by kernel_rfl) ?_ _
          refine then_world (fun Z => Below Y.heap.size Y Z) hbz.drew ?_
          rintro Z hbZ
          have OZ := Lib.hid (own_below HO.out hbZ); have BZw := Lib.hid (HB.out.trans (hbZ.mono HB.out.size)); have hzY := hbZ.size
          have hxZ := (hbZ.cell (p := ⟨p, off + k, none⟩) hp0).trans hd1
          have SZ := Lib.hid (HS.out.below hbZ)
          have hh := head36 oa o.length j oc (by have := HOc.out; omega)
          obtain ⟨ta, hta, hts⟩ := tail36 Y oa o j oc hj HOc.out HS.out
          have HTs := Lib.hid (hts.below hbZ)
          have hpZ : p < Z.heap.size := Nat.lt_of_lt_of_le hp0 hzY
          have B0 := more (Below.refl Z.heap.size Z) (.cells #[] 9)
          have O0 := Lib.hid (own_zero Z (B := Z.heap.size) rfl (Nat.le_refl _))
          have HT0 := Lib.hid ((SZ.out.take j).below B0)
          have hnj : j = (o.take j).length := by rw [List.length_take]; omega
          have hnd : o.length - j = (o.drop j).length := by rw [List.length_drop]
          have Hnj := Lib.hid hnj; have Hnd := Lib.hid hnd
          have hl0 : ([] : List ByteArray).length + (o.take j).length ≤ 1000000000 := by rw [← hnj]; simp; omega
          have hl1 : ([] ++ o.take j).length ≤ 1000000000 := by simp; omega
          have hl2 : (([] ++ o.take j) ++ [x]).length + (o.drop j).length ≤ 1000000000 := by simp; omega
          have Hl0 := Lib.hid hl0; have Hl1 := Lib.hid hl1; have Hl2 := Lib.hid hl2
          have HFin : Hid (sortN (V.take (k + 1)) = (([] ++ o.take j) ++ [x]) ++ o.drop j) := Lib.hid (by rw [HN.out, HX.out]; simp)
          clear hts hbZ hnj hnd hl0 hl1 hl2
          go_wp2_with (first
            | (at_builtin; refine append_strs Z.heap.size rfl _ _ rfl _ [] rfl O0.out (some oa) (o.take j) oc _ Hnj.out rfl HT0.out (fun e => by cases e) Hl0.out B0.size B0 ?_; intro v4 w4 hown4 hbel4; have hx4 := (hbel4.cell (p := ⟨p, off + k, none⟩) hpZ).trans hxZ)
            | (at_builtin; refine append_str Z.heap.size rfl _ _ rfl _ ([] ++ o.take j) rfl hown4 _ rfl Hl1.out hbel4.size hbel4 ?_; intro v5 w5 hown5 hbel5 hsz5 _ _)
            | (at_builtin; refine append_strs Z.heap.size rfl _ _ rfl _ (([] ++ o.take j) ++ [x]) rfl hown5 (some ta) (o.drop j) (oc - j) _ Hnd.out rfl (HTs.out.below hbel5) (fun e => by cases e) Hl2.out hsz5 hbel5 ?_; intro v6 w6 hown6 hbel6)
            | (fail "none"))
          refine ⟨⟨k + 1, by omega, by go_num, ?_, ?_, BZw.out.trans (hbel6.mono BZw.out.size)⟩, ?_⟩
          · obtain ⟨g6, c6, e6, _⟩ := hown6.form (by simp; omega)
            exact ⟨_, _, _, e6⟩
          · rw [HFin.out]; exact own_mono hown6 BZw.out.size
          · simp [intOf]; omega
    · obtain rfl : k = V.length := by omega
      have HO : Hid (Y.ownsRow w.heap.size 9 1 (.slice (some oa) on oc) (sortN V).length (ss (sortN V))) := Lib.hid (by have h := hown; rw [List.take_length] at h; exact h)
      clear hown
      go_wp2
      go_ret
      exact ⟨⟨_, rfl, HO.out⟩, hbel⟩
end Go.Proofs.YtjajpdghamecoaaGreat
/- Texts of different norms have one order only. -/
namespace Go.Proofs.YtjajpdghamecoaaGreat
open Go.RowKit

theorem normLt_irrefl (a : ByteArray) : normLt a a = false := less_irrefl _
theorem normLt_trans (a b c : ByteArray) (h1 : normLt a b = true) (h2 : normLt b c = true) : normLt a c = true := less_trans _ _ _ h1 h2
theorem normLt_total {a b : ByteArray} (h : normEq a b = false) (h1 : normLt a b = false) : normLt b a = true := by
  unfold normLt at *
  refine less_total _ _ (fun e => ?_) h1
  unfold normEq at h
  rw [e] at h; simp at h
theorem normEq_symm {a b : ByteArray} (h : normEq a b = false) : normEq b a = false := by
  unfold normEq at *
  rw [beq_eq_false_iff_ne] at *
  exact fun e => h e.symm
/-- no two have one norm -/
def Diff (V : List ByteArray) : Prop := V.Pairwise fun a b => normEq a b = false
theorem Diff.perm {V L : List ByteArray} (h : Diff V) (hp : L.Perm V) : Diff L := hp.symm.pairwise h (fun h => normEq_symm h)
theorem incB_norm {L : List ByteArray} (h : L.Pairwise fun a b => normLt a b = true) : incB normLt L = true :=
  incB_yes fun i hi => (List.pairwise_iff_getElem.1 h) i (i + 1) (by omega) hi (by omega)
theorem incB_pair {L : List ByteArray} (h : incB normLt L = true) : L.Pairwise fun a b => normLt a b = true := by
  rw [List.pairwise_iff_getElem]
  exact fun i j hi hj hij => inc_far normLt_trans h i j hi hj hij
theorem asc_inc {L : List ByteArray} (ha : Asc normLt L L.length) (hd : Diff L) : incB normLt L = true :=
  incB_yes fun i hi => normLt_total (normEq_symm ((List.pairwise_iff_getElem.1 hd) i (i + 1) (by omega) hi (by omega))) (ha i hi hi)
theorem dropWhile_ge {x : ByteArray} : ∀ {o : List ByteArray}, (o.Pairwise fun a b => normLt a b = true) → (∀ y ∈ o, normEq y x = false) → ∀ y ∈ o.dropWhile (fun y => normLt y x), normLt x y = true
  | [], _, _ => by simp
  | z :: o, hp, hd => by
    rw [List.dropWhile_cons]
    cases hz : normLt z x with
    | true => simp; exact fun y hy => dropWhile_ge (List.pairwise_cons.1 hp).2 (fun y hy => hd y (by simp [hy])) y hy
    | false =>
      simp
      have h1 := normLt_total (hd z (by simp)) hz
      exact ⟨h1, fun y hy => normLt_trans _ _ _ h1 ((List.pairwise_cons.1 hp).1 y hy)⟩
theorem takeWhile_lt {x : ByteArray} : ∀ {o : List ByteArray}, ∀ y ∈ o.takeWhile (fun y => normLt y x), normLt y x = true
  | [] => by simp
  | z :: o => by
    rw [List.takeWhile_cons]
    cases hz : normLt z x with
    | true => simp; exact ⟨hz, fun y hy => takeWhile_lt y hy⟩
    | false => simp
theorem insN_inc {x : ByteArray} {o : List ByteArray} (hp : o.Pairwise fun a b => normLt a b = true) (hd : ∀ y ∈ o, normEq y x = false) : (insN x o).Pairwise fun a b => normLt a b = true := by
  unfold insN
  rw [List.pairwise_append, List.pairwise_cons]
  refine ⟨hp.sublist (List.takeWhile_sublist _), ⟨fun y hy => dropWhile_ge hp hd y hy, hp.sublist (List.dropWhile_sublist _)⟩, fun a ha b hb => ?_⟩
  have h1 := takeWhile_lt a ha
  rcases List.mem_cons.1 hb with rfl | hb
  · exact h1
  · exact normLt_trans _ _ _ h1 (dropWhile_ge hp hd b hb)
theorem sortN_inc {V : List ByteArray} (h : Diff V) : (sortN V).Pairwise fun a b => normLt a b = true := by
  revert h
  refine snoc_rec (P := fun V => Diff V → (sortN V).Pairwise fun a b => normLt a b = true) (fun _ => List.Pairwise.nil) (fun l a ih h => ?_) V
  unfold Diff at h
  rw [List.pairwise_append] at h
  rw [sortN_snoc]
  exact insN_inc (ih h.1) (fun y hy => h.2.2 y ((sortN_perm l).mem_iff.1 hy) a (by simp))
theorem sorted_is {V L : List ByteArray} (hp : L.Perm V) (ha : Asc normLt L L.length) (hd : Diff V) : L = sortN V :=
  inc_unique normLt_irrefl normLt_trans (asc_inc ha (hd.perm hp)) (incB_norm (sortN_inc hd)) (hp.trans (sortN_perm V).symm)
theorem inc_diff {V : List ByteArray} (h : incB normLt V = true) : Diff V := by
  refine (incB_pair h).imp fun {a b} hab => ?_
  cases he : normEq a b with
  | false => rfl
  | true =>
    unfold normEq at he; unfold normLt at hab
    rw [beq_iff_eq] at he
    rw [he, less_irrefl] at hab; cases hab
end Go.Proofs.YtjajpdghamecoaaGreat
/- ValueAdd: small pieces of the specification, and that the new values differ. -/
namespace Go.Proofs.YtjajpdghamecoaaGreat
open Go.RowKit
attribute [local go_sem ↓] Go.wp_at_zero Go.wp_at_succ

theorem findI_miss {α : Type} {p : α → Bool} {l : List α} (h : findI p l < 0) : ∀ a ∈ l, p a = false := by
  unfold findI at h
  cases hf : l.findIdx? p with
  | none =>
    rw [List.findIdx?_eq_none_iff] at hf
    exact fun a ha => hf a ha
  | some i => rw [hf] at h; simp at h; omega
theorem vals_inc {d : RdnL} {l : List AttrV} (h : rightB d l = true) (nm : ByteArray) : incB normLt (valsOf l nm) = true := by
  cases ha : atN l nm with
  | none => rw [(atN_none ha).2]; exact incB_yes fun i hi => by simp at hi
  | some i =>
    obtain ⟨hi, _, h2, _⟩ := atN_some ha
    rw [h2]
    unfold rightB attrsB at h
    simp only [Bool.and_eq_true, List.all_eq_true] at h
    have := h.2.1.2 _ (List.getElem_mem hi)
    unfold attrB valsB at this
    simp only [Bool.and_eq_true] at this
    exact this.2.2
/-- the values and one more of another norm -/
theorem add_diff {d : RdnL} {l : List AttrV} {nm val : ByteArray} (hr : rightB d l = true) (h : findI (likeV val) (attrOfL d l nm) < 0) : Diff (attrOfL d l nm ++ [val]) := by
  unfold Diff
  rw [List.pairwise_append]
  refine ⟨?_, by simp, fun a ha b hb => ?_⟩
  · rw [attrOf_yes hr]; exact inc_diff (vals_inc hr nm)
  · simp at hb; subst hb; exact findI_miss h a ha
set_option maxRecDepth 100000 in
set_option maxHeartbeats 400000 in
theorem l03Long_any (a b : ByteArray) (w : World) (ha : a.size ≤ maxLen) (hb : b.size ≤ maxLen) :
    Calls Tryz.prog 53 #[.string a, .string b] w fun e w' => e = .returned (.bool (decide (8000 < a.size) || decide (8000 < b.size))) ∧ w = w' := by
  unfold maxLen at ha hb
  by_cases h1 : 8000 < a.size
  · have g : 8000 < (a.size : Int) := by omega
    have HE : Hid ((decide (8000 < a.size) || decide (8000 < b.size)) = true) := Lib.hid (by simp [h1])
    go_enter Tryz.func53, Tryz.ntmps53
    go_wp2
    go_ret
    first | exact ⟨rfl, rfl⟩ | exact ⟨ret_bool HE.out.symm, rfl⟩
  · have g : ¬ 8000 < (a.size : Int) := by omega
    by_cases h2 : 8000 < b.size
    · have g' : 8000 < (b.size : Int) := by omega
      have HE : Hid ((decide (8000 < a.size) || decide (8000 < b.size)) = true) := Lib.hid (by simp [h2])
      go_enter Tryz.func53, Tryz.ntmps53
      go_wp2
      go_ret
      first | exact ⟨rfl, rfl⟩ | exact ⟨ret_bool HE.out.symm, rfl⟩
    · have g' : ¬ 8000 < (b.size : Int) := by omega
      have HE : Hid ((decide (8000 < a.size) || decide (8000 < b.size)) = false) := Lib.hid (by simp [h1, h2])
      go_enter Tryz.func53, Tryz.ntmps53
      go_wp2
      go_ret
      first | exact ⟨rfl, rfl⟩ | exact ⟨ret_bool HE.out.symm, rfl⟩
set_option maxRecDepth 100000 in
set_option maxHeartbeats 400000 in
theorem l03Ill_any (c : Int) (w : World) : Calls Tryz.prog 54 #[.int .i64 c] w fun e w' => e = .returned (failV c) ∧ Below w.heap.size w w' := by
  go_enter Tryz.func54, Tryz.ntmps54
  go_wp2_with fail
  exact bodyPost_ret (v := failV c) (by simp [results, Tryz.results54, go_sem, failV]) rfl ⟨rfl, more (Below.refl _ _) _⟩
end Go.Proofs.YtjajpdghamecoaaGreat
