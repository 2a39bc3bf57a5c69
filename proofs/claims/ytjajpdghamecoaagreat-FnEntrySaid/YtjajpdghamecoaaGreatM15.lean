/- Merged texts: DName, Held3, DEnt0, DEnt1, DEnt2. -/
import Derived.Test.YtjajpdghamecoaaGreatM6
import Derived.Test.YtjajpdghamecoaaGreatM14
import Derived.Test.YtjajpdghamecoaaGreatM12
/- Drawn names and values; small numbers as texts. -/
namespace Go.Proofs.YtjajpdghamecoaaGreat
open Go.RowKit
attribute [local go_sem ↓] Go.wp_at_zero Go.wp_at_succ

set_option maxRecDepth 100000 in
set_option maxHeartbeats 1000000 in
theorem l03Name_any (q : Nat) (w : World) (hg : Good w q) : Calls Tryz.prog 45 #[.pointer (some ⟨q, 0, none⟩)] w fun e w' => TextTo 40 e ∧ Still q w w' := by
  have hq := hg.lt
  have HS := Lib.hid (Still.refl hg); clear hg
  go_enter Tryz.func45, Tryz.ntmps45
  go_wp2_with fail
  refine (pick_both q _ 4 [⟨#[99, 110]⟩, ⟨#[109, 97, 105, 108]⟩, ⟨#[112, 104, 111, 110, 101]⟩, ⟨#[117, 105, 100]⟩] _ 9 (0, 0) w _ (HS.out.alloc hq _ _) (by omega) (look_z1 w _) rfl rfl (by decide) (by decide)).mono ?_
  rintro e w1 ⟨⟨A, hA, rfl⟩, hs1, hk1⟩
  have HS1 := Lib.hid hs1
  have hA' : A.size ≤ 40 := by
    clear hs1 hk1
    simp at hA
    rcases hA with rfl | rfl | rfl | rfl <;> decide
  clear hs1 hk1 hA
  go_wp2
  go_ret
  exact ⟨⟨A, rfl, hA'⟩, HS1.out⟩
set_option maxRecDepth 100000 in
set_option maxHeartbeats 1000000 in
theorem l03Value_any (q : Nat) (w : World) (hg : Good w q) : Calls Tryz.prog 46 #[.pointer (some ⟨q, 0, none⟩)] w fun e w' => TextTo 40 e ∧ Still q w w' := by
  have hq := hg.lt
  have HS := Lib.hid (Still.refl hg); clear hg
  go_enter Tryz.func46, Tryz.ntmps46
  go_wp2_with fail
  refine (pick_both q _ 7 [⟨#[97, 110, 110]⟩, ⟨#[65, 110, 110]⟩, ⟨#[98, 111, 98]⟩, ⟨#[97, 64, 120]⟩, ⟨#[53]⟩, ⟨#[66, 32, 32, 98]⟩, ⟨#[122, 101, 100]⟩] _ 9 (0, 0) w _ (HS.out.alloc hq _ _) (by omega) (look_z1 w _) rfl rfl (by decide) (by decide)).mono ?_
  rintro e w1 ⟨⟨A, hA, rfl⟩, hs1, hk1⟩
  have HS1 := Lib.hid hs1
  have hA' : A.size ≤ 40 := by
    clear hs1 hk1
    simp at hA
    rcases hA with rfl | rfl | rfl | rfl | rfl | rfl | rfl <;> decide
  clear hs1 hk1 hA
  go_wp2
  go_ret
  exact ⟨⟨A, rfl, hA'⟩, HS1.out⟩
set_option maxRecDepth 100000 in
set_option maxHeartbeats 1000000 in
theorem l01Dec_any (n : Nat) (w : World) (hn : n ≤ 9) : Calls Tryz.prog 88 #[.int .i64 (n : Int)] w fun e w' => TextTo 1 e ∧ Below w.heap.size w w' := by
  by_cases h0 : n = 0
  · subst h0
    go_enter Tryz.func88, Tryz.ntmps88
    go_wp2
    go_ret
    exact ⟨⟨_, rfl, by decide⟩, Below.refl _ _⟩
  have g0 : ((n : Int) == 0) = false := by rw [beq_eq_false_iff_ne]; omega
  have g1 : ¬ (n : Int) < 0 := by omega
  go_enter Tryz.func88, Tryz.ntmps88
  go_wp2_with fail
  go_loopw [0, 4] (fun t u wr => ((t = .int .i64 (n : Int) ∧ u = .string ⟨#[]⟩) ∨ (t = .int .i64 0 ∧ ∃ c : UInt8, u = .string ⟨#[c]⟩)) ∧ Below w.heap.size w wr) (fun t _ _ => (intOf t).toNat)
  case atStart => exact ⟨.inl ⟨rfl, rfl⟩, Below.refl _ _⟩
  case round =>
    obtain ⟨h, hbel⟩ := hrel
    rcases h with ⟨rfl, rfl⟩ | ⟨rfl, c, rfl⟩
    · have hcv := one_str wr (48 + n) (by omega)
      have hca := cat ⟨#[UInt8.ofNat (48 + n)]⟩ ⟨#[]⟩ (by show 1 + 0 ≤ _; omega)
      have e1 : ((48 + n : Nat) : Int) = 48 + (n : Int) := by omega
      rw [e1] at hcv
      have e2 : (n : Int) % 10 = (n : Int) := by omega
      have e3 : (n : Int) / 10 = 0 := by omega
      have g2 : ((n : Int) != 0) = true := by simpa using h0
      generalize UInt8.ofNat (48 + n) = c at *
      go_wp2
      refine ⟨⟨.inr ⟨by go_num, c, ?_⟩, more hbel _⟩, ?_⟩
      · rfl
      · simp [intOf]; omega
    · go_wp2
      go_ret
      exact ⟨⟨_, rfl, Nat.le_refl _⟩, hbel⟩
end Go.Proofs.YtjajpdghamecoaaGreat
/- A region that draws, with a store at its end: several operations may come up. -/
namespace Go.Proofs.YtjajpdghamecoaaGreat
open Go Go.RowKit

section
variable {P : Program} {ops : Array Oper} {Q : Exit → Act → World → Prop} {md : Region.Mode} {S S' : World → Prop} {k : Nat}
/-- each of the operations that may come up comes up next -/
def AllReadyL (P : Program) (md : Region.Mode) (ops : Array Oper) (Q : Exit → Act → World → Prop) (S S' : World → Prop) (k fuel : Nat) (listed : Array Bool) (a : Act) (w : World) (rs : List Nat) : Prop :=
  ∀ i ∈ rs, wpOp P ops Q i (fun a' w' => Until S S' k (listed.setIfInBounds i true) w' ∧ wpAnyL P md ops Q S S' k fuel (listed.setIfInBounds i true) a' w') a w
theorem AllReadyL.nil {fuel : Nat} {listed : Array Bool} {a : Act} {w : World} : AllReadyL P md ops Q S S' k fuel listed a w [] := fun _ h => by cases h
theorem AllReadyL.cons {fuel : Nat} {listed : Array Bool} {a : Act} {w : World} {i : Nat} {o : Oper} {rs : List Nat} (ho : ops[i]? = some o)
    (h : ∀ K' : Act → World → Prop, Shut (∀ a w, Until S S' k (listed.setIfInBounds i true) w → (Until S S' k (listed.setIfInBounds i true) w → wpAnyL P md ops Q S S' k fuel (listed.setIfInBounds i true) a w) → K' a w) → if Region.wanted o (yielded ops a.tmps) = true then Oper.wp P o a w K' Q else K' (a.put o.dst undef) w)
    (hs : AllReadyL P md ops Q S S' k fuel listed a w rs) : AllReadyL P md ops Q S S' k fuel listed a w (i :: rs) := fun j hj => by
  rcases List.mem_cons.1 hj with rfl | hj
  · exact wpOp_step ho (fun K' hK => h K' (fun a w hS hW => hK a w ⟨hS, hW hS⟩))
  · exact hs j hj
theorem wpAnyL_ready {rs : List Nat} {fuel : Nat} {listed : Array Bool} {a : Act} {w : World} (hr : Region.ready md ops listed = rs) (hne : rs ≠ [])
    (h : AllReadyL P md ops Q S S' k fuel listed a w rs) : wpAnyL P md ops Q S S' k (fuel + 1) listed a w :=
  ⟨fun h0 => absurd (hr ▸ h0) hne, hr ▸ h⟩
end
end Go.Proofs.YtjajpdghamecoaaGreat
/- A drawn entry: its state. -/
namespace Go.Proofs.YtjajpdghamecoaaGreat
open Go.RowKit
attribute [local go_sem ↓] Go.wp_at_zero Go.wp_at_succ

/-- small attributes, n at most -/
def SmallA (n : Nat) (l : List AttrV) : Prop := l.length ≤ n ∧ ∀ a ∈ l, a.1.size ≤ 41 ∧ a.2.length ≤ 4 ∧ ∀ s ∈ a.2, s.size ≤ 41
theorem SmallA.fits {n : Nat} {l : List AttrV} (h : SmallA n l) (hn : n ≤ 1000) : FitsA l :=
  ⟨by have := h.1; omega, fun a ha => by
    obtain ⟨h1, h2, h3⟩ := h.2 a ha
    exact ⟨by omega, by omega, fun s hs => by have := h3 s hs; omega⟩⟩
theorem SmallA.mono {n m : Nat} {l : List AttrV} (h : SmallA n l) (hn : n ≤ m) : SmallA m l := ⟨Nat.le_trans h.1 hn, h.2⟩
theorem SmallA.snoc {n : Nat} {l : List AttrV} (h : SmallA n l) {a : AttrV} (h1 : a.1.size ≤ 41) (h2 : a.2.length ≤ 4) (h3 : ∀ s ∈ a.2, s.size ≤ 41) : SmallA (n + 1) (l ++ [a]) := by
  refine ⟨by have := h.1; simp; omega, fun b hb => ?_⟩
  rcases List.mem_append.1 hb with hb | hb
  · exact h.2 b hb
  · simp at hb; subst hb; exact ⟨h1, h2, h3⟩
theorem short_fits {d : RdnL} (h : Short d) (hl : d.length ≤ 7) : Fits d := ⟨by omega, fun r hr => by have := h r hr; omega⟩
theorem valsOf_small {n : Nat} {l : List AttrV} (h : SmallA n l) (nm : ByteArray) : (valsOf l nm).length ≤ 4 ∧ ∀ s ∈ valsOf l nm, s.size ≤ 41 := by
  cases ha : atN l nm with
  | none => rw [(atN_none ha).2]; exact ⟨by simp, fun s hs => by simp at hs⟩
  | some i =>
    obtain ⟨hi, _, h2, _⟩ := atN_some ha
    rw [h2]; exact (h.2 _ (List.getElem_mem hi)).2
/-- what is added well is small -/
theorem addR_ok {d : RdnL} {l : List AttrV} {nm val : ByteArray} {n : Nat} (hs : SmallA n l) (hn : nm.size ≤ 40) (hv : val.size ≤ 40) (h : (addR d l nm val).1 = 0) :
    (addR d l nm val).2.1 = d ∧ SmallA (n + 1) (addR d l nm val).2.2 := by
  unfold addR at h ⊢
  split at h
  · rename_i hc; exact absurd h hc
  · rename_i hc
    split at h
    · cases h
    · rename_i hi
      split at h
      · cases h
      · rename_i hf
        rw [if_neg hc, if_neg hi, if_neg hf]
        refine ⟨rfl, ?_⟩
        obtain ⟨z1, _⟩ := vcode_zero (by simpa using hc)
        rw [attrOf_yes z1] at hf ⊢
        have hvs := valsOf_small hs nm
        refine ⟨?_, fun a ha => ?_⟩
        · have := setL_len l nm (sortN (valsOf l nm ++ [val])); have := hs.1; show (setL l nm _).length ≤ _; omega
        · rcases mem_setL.1 ha with ⟨h1, _⟩ | ⟨_, rfl⟩
          · exact hs.2 a h1
          · refine ⟨by show nm.size ≤ 41; omega, ?_, fun s hsm => ?_⟩
            · show (sortN _).length ≤ 4
              rw [sortN_len]; simp
              have : (valsOf l nm).length ≠ 4 := fun e => hf (.inl e)
              omega
            · rcases List.mem_append.1 ((sortN_perm _).mem_iff.1 hsm) with h1 | h1
              · exact hvs.2 s h1
              · simp at h1; subst h1; omega
theorem AttrsRow.kept {w w' : World} {B q : Nat} {v : Value} {A : List AttrV} (h : AttrsRow w B v A) (hg : w.grownBy w' (some q)) (hq : q < B) : AttrsRow w' B v A := by
  obtain ⟨P, h1, h2, h3⟩ := h
  exact ⟨P, h1.kept hg (own_not h1 hq), h2, fun i a b => by obtain ⟨q1, q2, q3⟩ := h3 i a b; exact ⟨q1, q2, q3.kept hg (own_not q3 hq)⟩⟩
theorem AttrsRow.cellTy {w : World} {B R j T : Nat} {x p q v : Value} {A : List AttrV} (h : AttrsRow w B v A) (ht : Two w R T p q) (h9 : 9 ≠ T) (h48 : 48 ≠ T) : AttrsRow (w.setCell ⟨R, j, none⟩ x) B v A := by
  obtain ⟨P, h1, h2, h3⟩ := h
  exact ⟨P, own_cellTy h1 ht h48, h2, fun i a b => by obtain ⟨q1, q2, q3⟩ := h3 i a b; exact ⟨q1, q2, own_cellTy q3 ht h9⟩⟩
theorem attrsRow_nil (w : World) (B : Nat) : AttrsRow w B (.slice none 0 0) [] := ⟨[], ⟨rfl, .inl ⟨rfl, rfl⟩⟩, rfl, fun i h => by simp at h⟩
/-- the state while an entry is drawn -/
structure DE (q : Nat) (w : World) (E : Nat) (d : RdnL) (l : List AttrV) (vo ao : Option Addr) (vc ac : Nat) (wr : World) : Prop where
  st : Still q w wr
  res : Two wr w.heap.size 26 (.slice none 0 0) (.slice none 0 0)
  cell : Two wr E 26 (.slice vo d.length vc) (.slice ao l.length ac)
  dn : wr.ownsRow (w.heap.size + 1) 97 2 (.slice vo d.length vc) d.length (rs d)
  att : AttrsRow wr (w.heap.size + 1) (.slice ao l.length ac) l
  lo : w.heap.size < E
section
variable {q : Nat} {w wr w' : World} {E : Nat} {d : RdnL} {l : List AttrV} {vo ao : Option Addr} {vc ac : Nat}
theorem two_still {g T : Nat} {a b : Value} (h : Two wr g T a b) (hs : Still q wr w') (hne : g ≠ q) : Two w' g T a b := (hs.2.block g h.lt (by intro e; injection e with e; exact hne e)).trans h
theorem DE.step (h : DE q w E d l vo ao vc ac wr) (hq : q < w.heap.size) (hs : Still q wr w') : DE q w E d l vo ao vc ac w' :=
  ⟨h.st.trans hs, two_still h.res hs (by omega), two_still h.cell hs (by have := h.lo; omega), h.dn.kept hs.2 (own_not h.dn (by omega)), h.att.kept hs.2 (by omega), h.lo⟩
theorem still_below (hg : Good wr q) (hb : Below wr.heap.size wr w') : Still q wr w' := (Still.refl hg).later (g := none) (grown_of hb none) hg.lt (fun k hk => by cases hk)
theorem DE.below (h : DE q w E d l vo ao vc ac wr) (hq : q < w.heap.size) (hb : Below wr.heap.size wr w') : DE q w E d l vo ao vc ac w' := h.step hq (still_below h.st.1 hb)
/-- the whole entry is stored anew -/
theorem DE.store {d' : RdnL} {l' : List AttrV} {vo' ao' : Option Addr} {vc' ac' : Nat} (h : DE q w E d l vo ao vc ac wr) (hq : q < w.heap.size) (h1 : wr.ownsRow (w.heap.size + 1) 97 2 (.slice vo' d'.length vc') d'.length (rs d')) (h2 : AttrsRow wr (w.heap.size + 1) (.slice ao' l'.length ac') l') :
    DE q w E d' l' vo' ao' vc' ac' ((wr.setCell ⟨E, 0, none⟩ (.slice vo' d'.length vc')).setCell ⟨E, 1, none⟩ (.slice ao' l'.length ac')) := by
  have hne : E ≠ q := by have := h.lo; omega
  have t1 := h.cell.set0 (.slice vo' d'.length vc')
  refine ⟨?_, ?_, t1.set1 _, own_cellTy (own_cellTy h1 h.cell (by decide)) t1 (by decide), (h2.cellTy h.cell (by decide) (by decide)).cellTy t1 (by decide) (by decide), h.lo⟩
  · have := h.lo
    exact (h.st.later (grown_set _ _ _ _) hq (fun k hk => by injection hk with hk; omega)).later (grown_set _ _ _ _) hq (fun k hk => by injection hk with hk; omega)
  · have := h.lo
    exact (h.res.far (by omega) _).far (by omega) _
theorem DE.store0 {d' : RdnL} {vo' : Option Addr} {vc' : Nat} (h : DE q w E d l vo ao vc ac wr) (hq : q < w.heap.size) (h1 : wr.ownsRow (w.heap.size + 1) 97 2 (.slice vo' d'.length vc') d'.length (rs d')) :
    DE q w E d' l vo' ao vc' ac (wr.setCell ⟨E, 0, none⟩ (.slice vo' d'.length vc')) := by
  have hlo := h.lo
  exact ⟨h.st.later (grown_set _ _ _ _) hq (fun k hk => by injection hk with hk; omega), h.res.far (by omega) _, h.cell.set0 _, own_cellTy h1 h.cell (by decide), h.att.cellTy h.cell (by decide) (by decide), h.lo⟩
theorem DE.store1 {l' : List AttrV} {ao' : Option Addr} {ac' : Nat} (h : DE q w E d l vo ao vc ac wr) (hq : q < w.heap.size) (h2 : AttrsRow wr (w.heap.size + 1) (.slice ao' l'.length ac') l') :
    DE q w E d l' vo ao' vc ac' (wr.setCell ⟨E, 1, none⟩ (.slice ao' l'.length ac')) := by
  have hlo := h.lo
  exact ⟨h.st.later (grown_set _ _ _ _) hq (fun k hk => by injection hk with hk; omega), h.res.far (by omega) _, h.cell.set1 _, own_cellTy h.dn h.cell (by decide), h2.cellTy h.cell (by decide) (by decide), h.lo⟩
end
/-- some small entry, in memory of its own -/
def SomeEnt (w : World) (e : Ending) (w' : World) : Prop := ∃ (d : RdnL) (l : List AttrV) (vo ao : Option Addr) (vc ac : Nat), e = .returned (.agg #[.slice vo d.length vc, .slice ao l.length ac]) ∧
  w'.ownsRow w.heap.size 97 2 (.slice vo d.length vc) d.length (rs d) ∧ AttrsRow w' w.heap.size (.slice ao l.length ac) l ∧ d.length ≤ 7 ∧ Short d ∧ SmallA 9 l
end Go.Proofs.YtjajpdghamecoaaGreat
/- A drawn entry: stores into a result's block. -/
namespace Go.Proofs.YtjajpdghamecoaaGreat
open Go.RowKit
attribute [local go_sem ↓] Go.wp_at_zero Go.wp_at_succ

theorem own_cellTy3 {w : World} {B e z n R j T : Nat} {v x a b c : Value} {xs : List Value} (h : w.ownsRow B e z v n xs) (ht : Three w R T a b c) (hne : e ≠ T) : (w.setCell ⟨R, j, none⟩ x).ownsRow B e z v n xs := by
  refine h.kept (grown_set w R j x) ?_
  rcases h.2 with ⟨rfl, _⟩ | ⟨g, cap, cur, rfl, _, hg, _⟩
  · exact .inl rfl
  · right
    intro e'
    simp [Value.ownBlock] at e'
    subst e'
    unfold Three at ht
    rw [ht] at hg
    injection hg with hg
    injection hg with _ hg
    exact hne hg.symm
theorem AttrsRow.cellTy3 {w : World} {B R j T : Nat} {x p q r v : Value} {A : List AttrV} (h : AttrsRow w B v A) (ht : Three w R T p q r) (h9 : 9 ≠ T) (h48 : 48 ≠ T) : AttrsRow (w.setCell ⟨R, j, none⟩ x) B v A := by
  obtain ⟨P, h1, h2, h3⟩ := h
  exact ⟨P, own_cellTy3 h1 ht h48, h2, fun i a b => by obtain ⟨q1, q2, q3⟩ := h3 i a b; exact ⟨q1, q2, own_cellTy3 q3 ht h9⟩⟩
section
variable {q : Nat} {w wr w' : World} {E : Nat} {d : RdnL} {l : List AttrV} {vo ao : Option Addr} {vc ac : Nat}
theorem DE.setY {Y j : Nat} {x a b c : Value} (h : DE q w E d l vo ao vc ac wr) (hq : q < w.heap.size) (ht : Three wr Y 30 a b c) (hE : E ≠ Y) (hR : w.heap.size < Y) : DE q w E d l vo ao vc ac (wr.setCell ⟨Y, j, none⟩ x) :=
  ⟨h.st.later (grown_set _ _ _ _) hq (fun k hk => by injection hk with hk; omega), h.res.far (by omega) _, h.cell.far hE _, own_cellTy3 h.dn ht (by decide), h.att.cellTy3 ht (by decide) (by decide), h.lo⟩
theorem still_drew (hg : Good wr q) : Still q wr wr.drew := ⟨hg.same (fun _ _ => rfl), grown_drew (grown_refl _ _)⟩
theorem three_still {g T : Nat} {a b c : Value} (h : Three wr g T a b c) (hs : Still q wr w') (hne : g ≠ q) : Three w' g T a b c := (hs.2.block g h.lt (by intro e; injection e with e; exact hne e)).trans h
end
/-- the program's state behind a value's addition -/
structure AddSt (q : Nat) (w : World) (E : Nat) (d : RdnL) (l : List AttrV) (vo ao : Option Addr) (vc ac : Nat) (Y : Nat) (D : RdnL) (T : List AttrV) (xo yo : Option Addr) (xc yc : Nat) (c : Int) (W : World) : Prop where
  de : DE q w E d l vo ao vc ac W
  three : Three W Y 30 (.slice xo D.length xc) (.slice yo T.length yc) (.int .i64 c)
  dn : W.ownsRow (w.heap.size + 1) 97 2 (.slice xo D.length xc) D.length (rs D)
  att : AttrsRow W (w.heap.size + 1) (.slice yo T.length yc) T
theorem addSt_of {q : Nat} {w W : World} {E : Nat} {d : RdnL} {l : List AttrV} {vo ao : Option Addr} {vc ac Y : Nat} {D : RdnL} {T : List AttrV} {xo yo : Option Addr} {xc yc : Nat} {c : Int} {a b x : Value} (h : DE q w E d l vo ao vc ac W) (hq : q < w.heap.size) (ht : Three W Y 30 a b x) (hE : E ≠ Y) (hR : w.heap.size < Y)
    (hd : W.ownsRow (w.heap.size + 1) 97 2 (.slice xo D.length xc) D.length (rs D)) (ha : AttrsRow W (w.heap.size + 1) (.slice yo T.length yc) T) :
    AddSt q w E d l vo ao vc ac Y D T xo yo xc yc c (((W.setCell ⟨Y, 0, none⟩ (.slice xo D.length xc)).setCell ⟨Y, 1, none⟩ (.slice yo T.length yc)).setCell ⟨Y, 2, none⟩ (.int .i64 c)) := by
  have t1 := ht.set0 (.slice xo D.length xc); have t2 := t1.set1 (.slice yo T.length yc)
  exact ⟨((h.setY hq ht hE hR).setY hq t1 hE hR).setY hq t2 hE hR, t2.set2 _, own_cellTy3 (own_cellTy3 (own_cellTy3 hd ht (by decide)) t1 (by decide)) t2 (by decide), ((ha.cellTy3 ht (by decide) (by decide)).cellTy3 t1 (by decide) (by decide)).cellTy3 t2 (by decide) (by decide)⟩
end Go.Proofs.YtjajpdghamecoaaGreat
/- A drawn entry: one attribute more. -/
namespace Go.Proofs.YtjajpdghamecoaaGreat
open Go.RowKit
attribute [local go_sem ↓] Go.wp_at_zero Go.wp_at_succ

/-- the state but for the attributes -/
structure PreDE (q : Nat) (w : World) (E : Nat) (d : RdnL) (vo : Option Addr) (vc : Nat) (x : Value) (wr : World) : Prop where
  st : Still q w wr
  res : Two wr w.heap.size 26 (.slice none 0 0) (.slice none 0 0)
  cell : Two wr E 26 (.slice vo d.length vc) x
  dn : wr.ownsRow (w.heap.size + 1) 97 2 (.slice vo d.length vc) d.length (rs d)
  lo : w.heap.size < E
section
variable {q : Nat} {w wr w' : World} {E : Nat} {d : RdnL} {l : List AttrV} {vo ao : Option Addr} {vc ac : Nat} {x : Value}
theorem DE.pre (h : DE q w E d l vo ao vc ac wr) : PreDE q w E d vo vc (.slice ao l.length ac) wr := ⟨h.st, h.res, h.cell, h.dn, h.lo⟩
theorem two_row {g T B e z n : Nat} {a b v : Value} {xs : List Value} (h : Two wr g T a b) (hr : wr.ownsRow B e z v n xs) (hne : e ≠ T) (hg : wr.grownBy w' v.ownBlock) : Two w' g T a b := by
  refine (hg.block g h.lt (fun e' => ?_)).trans h
  rcases hr.2 with ⟨rfl, _⟩ | ⟨k, cap, cur, rfl, _, hk, _⟩
  · cases e'
  · simp [Value.ownBlock] at e'
    subst e'
    unfold Two at h
    rw [h] at hk
    injection hk with hk
    injection hk with _ hk
    exact hne hk.symm
theorem PreDE.grown {n : Nat} {v : Value} {xs : List Value} (h : PreDE q w E d vo vc x wr) (hq : q < w.heap.size) (hr : wr.ownsRow (w.heap.size + 1) 48 2 v n xs) (hg : wr.grownBy w' v.ownBlock) : PreDE q w E d vo vc x w' :=
  ⟨h.st.later hg hq (fun k hk => by have := (hr.lt k hk).1; omega), two_row h.res hr (by decide) hg, two_row h.cell hr (by decide) hg, h.dn.kept hg (by
    cases hv : (Value.slice vo d.length vc).ownBlock with
    | none => exact .inl rfl
    | some g => exact .inr (fun e => rows_apart h.dn hr (by decide) g hv e.symm)), h.lo⟩
theorem PreDE.below (h : PreDE q w E d vo vc x wr) (hq : q < w.heap.size) (hb : Below wr.heap.size wr w') : PreDE q w E d vo vc x w' :=
  ⟨h.st.trans (still_below h.st.1 hb), h.res.below hb, h.cell.below hb, own_below h.dn hb, h.lo⟩
theorem PreDE.step (h : PreDE q w E d vo vc x wr) (hq : q < w.heap.size) (hs : Still q wr w') : PreDE q w E d vo vc x w' :=
  ⟨h.st.trans hs, two_still h.res hs (by omega), two_still h.cell hs (by have := h.lo; omega), h.dn.kept hs.2 (own_not h.dn (by omega)), h.lo⟩
theorem PreDE.store {l' : List AttrV} {ao' : Option Addr} {ac' n : Nat} (h : PreDE q w E d vo vc x wr) (hq : q < w.heap.size) (hn : n = l'.length) (h2 : AttrsRow wr (w.heap.size + 1) (.slice ao' l'.length ac') l') :
    DE q w E d l' vo ao' vc ac' (wr.setCell ⟨E, 1, none⟩ (.slice ao' n ac')) := by
  subst hn
  have hlo := h.lo
  exact ⟨h.st.later (grown_set _ _ _ _) hq (fun k hk => by injection hk with hk; omega), h.res.far (by omega) _, h.cell.set1 _, own_cellTy h.dn h.cell (by decide), h2.cellTy h.cell (by decide) (by decide), h.lo⟩
/-- the row of attributes and one more -/
theorem attrsRow_snoc {B g cap : Nat} {P : List PairV} {v : Value} {A : List AttrV} {a : AttrV} {u : Value} (hL : LaidV wr B P A) (hP : wr.ownsRow B 48 2 v P.length (ps P)) (hs : IsSl u) (hu : wr.ownsRow B 9 1 u a.2.length (ss a.2)) (hg : wr.grownBy w' v.ownBlock)
    (ho : w'.ownsRow B 48 2 (.slice (some ⟨g, 0, none⟩) (P.length + 1) cap) (P ++ [(a.1, u)]).length (ps (P ++ [(a.1, u)]))) : AttrsRow w' B (.slice (some ⟨g, 0, none⟩) (A ++ [a]).length cap) (A ++ [a]) := by
  have h1 : (P ++ [(a.1, u)]).length = (A ++ [a]).length := by simp [hL.1]
  have h2 : P.length + 1 = (A ++ [a]).length := by simp [hL.1]
  rw [h1, h2] at ho
  exact ⟨_, ho, (hL.far hP hg).snoc hs (own_far hu hP hg)⟩
theorem DE.fin (h : DE q w E d l vo ao vc ac wr) (hq : q < w.heap.size) (hd : d.length ≤ 7) (hsh : Short d) (hsm : SmallA 9 l) :
    SomeEnt w (.returned (.agg #[.slice vo d.length vc, .slice ao l.length ac])) ((wr.setCell ⟨w.heap.size, 0, none⟩ (.slice vo d.length vc)).setCell ⟨w.heap.size, 1, none⟩ (.slice ao l.length ac)) ∧ Still q w ((wr.setCell ⟨w.heap.size, 0, none⟩ (.slice vo d.length vc)).setCell ⟨w.heap.size, 1, none⟩ (.slice ao l.length ac)) := by
  have t1 := h.res.set0 (.slice vo d.length vc)
  refine ⟨⟨d, l, vo, ao, vc, ac, rfl, own_mono (own_cellTy (own_cellTy h.dn h.res (by decide)) t1 (by decide)) (Nat.le_succ _), ((h.att.cellTy h.res (by decide) (by decide)).cellTy t1 (by decide) (by decide)).mono (Nat.le_succ _), hd, hsh, hsm⟩, ?_⟩
  exact (h.st.later (grown_set _ _ _ _) hq (fun k hk => by injection hk with hk; omega)).later (grown_set _ _ _ _) hq (fun k hk => by injection hk with hk; omega)
end
theorem laidV_still {q B : Nat} {wr w' : World} {P : List PairV} {A : List AttrV} (h : LaidV wr B P A) (hs : Still q wr w') (hq : q < B) : LaidV w' B P A :=
  ⟨h.1, fun i a b => by obtain ⟨q1, q2, q3⟩ := h.2 i a b; exact ⟨q1, q2, q3.kept hs.2 (own_not q3 hq)⟩⟩
end Go.Proofs.YtjajpdghamecoaaGreat
