/- Merged texts: ClsR5, TnI, Held2, Held3, VwS00, L5c. -/
import Derived.Test.YtlgafmgohinkbaaM6
import Derived.Test.YtlgafmgohinkbaaM5
import Derived.Deep.RegionHeld
import Derived.Test.YtlgafmgohinkbaaM1
import Derived.Test.YtlgafmgohinkbaaM4
import Derived.Test.YtlgafmgohinkbaaM3
/- SchemaRight: what the program returns for a whole schema. -/
namespace Go.Proofs.Ytlgafmgohinkbaa
open Go.RowKit
attribute [local go_sem ↓] Go.wp_at_zero Go.wp_at_succ

set_option maxRecDepth 100000 in
set_option maxHeartbeats 1000000 in
theorem SchemaRight_any (ao : Option Addr) (l : List ClassV) (cap : Nat) (w : World) (hd : ClassesAt w ao l) (hf : FitsC l) :
    Calls Try.prog 102 #[.slice ao l.length cap] w fun e w' => e = .returned (.bool (schemaB l)) ∧ Below w.heap.size w w' := by
  have hl := hf.1
  have HD := Lib.hid hd; have HF := Lib.hid hf; clear hd hf
  by_cases h6 : 6 < l.length
  · have HV : Hid (schemaB l = false) := Lib.hid (by unfold schemaB; rw [decide_eq_false (by omega)]; rfl)
    have g6 : 6 < (l.length : Int) := by omega
    go_enter Try.func102, Try.ntmps102
    go_wp2
    go_ret
    exact ⟨ret_bool HV.out.symm, Below.refl _ _⟩
  · have HV : Hid (schemaB l = (l.all classB && incB clsLt l)) := Lib.hid (by unfold schemaB; rw [decide_eq_true (by omega)]; rfl)
    have g6 : ¬ 6 < (l.length : Int) := by omega
    go_enter Try.func102, Try.ntmps102
    go_wp2
    go_loopw [10] (fun i wr => ∃ k : Nat, k ≤ l.length ∧ i = .int .i64 k ∧ (l.take k).all classB = true ∧ Below w.heap.size w wr) (fun i _ => l.length - (intOf i).toNat)
    case atStart => exact ⟨0, Nat.zero_le _, rfl, rfl, Below.refl _ _⟩
    case round =>
      obtain ⟨k, hk, rfl, ha, hbel⟩ := hrel
      have Ha := Lib.hid ha; clear ha
      have hsz := hbel.size
      by_cases hlt : k < l.length
      · obtain ⟨b, off, v1, v2, v3, rfl, hb0, hc⟩ := (HD.out.below hbel).at hlt
        obtain ⟨hc0, hc1, hc2, hc3, s1, s2, s3⟩ := hc
        have HT : Hid (classB l[k] = true → (l.take (k + 1)).all classB = true) := Lib.hid (fun h => by rw [all_take classB l k hlt, Ha.out, h]; rfl)
        have HX : Hid (classB l[k] = false → schemaB l = false) := Lib.hid (fun h => schemaB_bad hlt h)
        have HZ := Lib.hid (HF.out.at hlt)
        generalize l[k] = A at *
        have CC : Hid (∀ W : World, Below wr.heap.size wr W → Calls Try.prog 157 #[.agg #[.string A.nm, v1, v2, v3]] W fun e w' => e = .returned (.bool (classB A)) ∧ Below w.heap.size w w') := Lib.hid (fun W h => (classRight_any A v1 v2 v3 W (s1.below h) (s2.below h) (s3.below h) HZ.out).mono fun e w' ⟨p, q⟩ => ⟨p, hbel.trans ((h.trans (q.mono h.size)).mono hsz)⟩)
        have i1 := s1.sl; have i2 := s2.sl; have i3 := s3.sl
        obtain ⟨_, _, _, rfl⟩ := i1
        obtain ⟨_, _, _, rfl⟩ := i2
        obtain ⟨_, _, _, rfl⟩ := i3
        clear s1 s2 s3
        have HB0 := Lib.hid (Below.refl wr.heap.size wr)
        go_wp2_with fail
        refine (CC.out _ (by first | exact HB0.out | exact more HB0.out _)).mono ?_
        rintro e w1 ⟨rfl, hb1⟩
        cases hr : classB A
        · have HX' := Lib.hid (HX.out hr)
          go_wp2
          go_ret
          exact ⟨ret_bool (by rw [HX'.out]), hb1⟩
        · have HT' := Lib.hid (HT.out hr)
          go_wp2
          go_roundw
          case rel => exact ⟨k + 1, by omega, by go_num, HT'.out, hb1⟩
          case measure => simp [intOf]; omega
      · have e : l.take k = l := List.take_of_length_le (by omega)
        have HT : Hid (schemaB l = incB clsLt l) := Lib.hid (by rw [HV.out, ← e, Ha.out, e]; rfl)
        clear e
        go_wp2_with fail
        refine (incClass_any ao l cap wr (HD.out.below hbel) hl).mono ?_
        rintro e w1 ⟨rfl, hb1⟩
        have B1 := Lib.hid (hbel.trans (hb1.mono hsz))
        generalize incB clsLt l = r at *
        go_wp2
        go_ret
        exact ⟨ret_bool (by rw [HT.out]), B1.out⟩
end Go.Proofs.Ytlgafmgohinkbaa
/- TreeNew: what the program returns. -/
namespace Go.Proofs.Ytlgafmgohinkbaa
open Go.RowKit
attribute [local go_sem ↓] Go.wp_at_zero Go.wp_at_succ

theorem schemaB_long {l : List ClassV} (h : 6 < l.length) : schemaB l = false := by unfold schemaB; rw [decide_eq_false (by omega)]; rfl
/-- a new tree -/
noncomputable def treeNewR (d : List ClassT) : List ClassT × List EntryT := if schemaB (d.map toCV) = true then (d, []) else ([], [])
theorem treeNewR_sz (d : List ClassT) : treeE.sz (treeNewR d) ≤ d.length + szL classE d := by
  unfold treeNewR
  split
  · show (d.length + szL classE d) + (0 + szL entryE []) ≤ _
    simp [szL]
  · show (0 + szL classE []) + (0 + szL entryE []) ≤ _
    simp [szL]
set_option maxRecDepth 100000 in
set_option maxHeartbeats 2000000 in
theorem TreeNew_any {S : Bs} (v : Value) (d : List ClassT) (w : World) (hd : SlAt classE S w d v) (hz : d.length + szL classE d ≤ 1048576) :
    Calls Try.prog 37 #[v] w fun e w' => (∃ u0 u1, e = .returned (.agg #[u0, u1]) ∧ treeE.Own (Fresh w w') w' (treeNewR d) [u0, u1]) ∧ Below w.heap.size w w' := by
  obtain ⟨ao, ca, rfl⟩ := hd.sl
  have CS : Hid (∀ W : World, Below w.heap.size w W → Calls Try.prog 102 #[.slice ao d.length ca] W fun e w' => e = .returned (.bool (schemaB (d.map toCV))) ∧ Below W.heap.size W w') := Lib.hid (fun W b => by
    have h1 := SchemaRight_any ao (d.map toCV) ca W ((classes_of hd).below b) (fits_classes hz)
    rw [List.length_map] at h1
    exact h1)
  have CT : Hid (∀ W : World, Below w.heap.size w W → Calls Try.prog 103 #[.agg #[.slice ao d.length ca, .slice none 0 0]] W fun e w' => ∃ u0 u1, e = .returned (.agg #[u0, u1]) ∧ treeE.Own (Fresh W w') w' (d, []) [u0, u1] ∧ Below W.heap.size W w') := Lib.hid (fun W b => cpyTree_any d [] _ _ W (hd.frame (Same.of_below' b)) (own_nilS entryE S W).at (by show (d.length + szL classE d) + (0 + szL entryE []) ≤ _; simp [szL]; exact hz))
  have HF : Hid (schemaB (d.map toCV) = false → treeNewR d = ([], [])) := Lib.hid (fun h => by unfold treeNewR; rw [h]; rfl)
  have HT : Hid (schemaB (d.map toCV) = true → treeNewR d = (d, [])) := Lib.hid (fun h => by unfold treeNewR; rw [h]; rfl)
  clear hd hz
  generalize treeNewR d = R at *
  generalize schemaB (d.map toCV) = r at *
  go_enter Try.func37, Try.ntmps37
  go_wp2_with fail
  refine calls_by (fun W => Below w.heap.size w W ∧ Blk W w.heap.size [.slice none 0 0, .slice none 0 0]) ⟨more' (Below.refl _ _) _, Blk.new _ _ _⟩ ?_
  rintro W1 ⟨b1, r1⟩
  refine (CS.out W1 b1).mono ?_
  rintro e w2 ⟨rfl, hb⟩
  have b2 := b1.trans (hb.mono b1.size); have R2 := Lib.hid (r1.below hb)
  clear hb r1 b1
  have x0 := R2.out.cell 0 rfl; have x1 := R2.out.cell 1 rfl; have f0 := R2.out.soft 0; have f1 := R2.out.soft 1
  cases r
  · have HR := Lib.hid (HF.out (by rfl))
    have TE := (R2.out.set 0 (.slice none 0 0)).set 1 (.slice none 0 0)
    have j0 := TE.cell 0 rfl; have j1 := TE.cell 1 rfl
    clear TE
    go_wp2
    refine bodyPost_ret (v := .agg #[.slice none 0 0, .slice none 0 0]) (by simp [results, Try.results37, go_sem, j0, j1]) rfl ?_
    rw [HR.out]
    exact ⟨⟨_, _, rfl, tree_pack [] [] _ _ Nil Nil ⟨own_nilS _ _ _, fun _ h => h.elim, own_nilS _ _ _, fun _ h => h.elim, fun _ h => h.elim, trivial⟩⟩, (b2.setCell (p := ⟨w.heap.size, 0, none⟩) (Nat.le_refl _) _).setCell (p := ⟨w.heap.size, 1, none⟩) (Nat.le_refl _) _⟩
  · have HR := Lib.hid (HT.out (by rfl))
    have hl2 : w.heap.size < w2.heap.size := R2.out.lt
    clear x0 x1 f0 f1
    go_wp2_with fail
    refine calls_by (fun W => Below w2.heap.size w2 W) (by first | exact Below.refl _ _ | exact more' (Below.refl _ _) _) ?_
    intro W3 b3
    refine (CT.out W3 (b2.trans (b3.mono b2.size))).mono ?_
    rintro e w4 ⟨u0, u1, rfl, q, hb⟩
    obtain ⟨⟨p0, n0, k0, rfl⟩, p1, n1, k1, rfl⟩ := tree_sl q rfl
    have B4 := b2.trans ((b3.trans (hb.mono b3.size)).mono b2.size)
    have R4 := Lib.hid (R2.out.below (b3.trans (hb.mono b3.size)))
    have Q := Lib.hid q
    have hs3 := b3.size
    clear q hb
    have x0 := R4.out.cell 0 rfl; have x1 := R4.out.cell 1 rfl; have f0 := R4.out.soft 0; have f1 := R4.out.soft 1
    have TE := (R4.out.set 0 (.slice p0 n0 k0)).set 1 (.slice p1 n1 k1)
    have j0 := TE.cell 0 rfl; have j1 := TE.cell 1 rfl
    clear TE
    go_wp2
    refine bodyPost_ret (v := .agg #[.slice p0 n0 k0, .slice p1 n1 k1]) (by simp [results, Try.results37, go_sem, j0, j1]) rfl ?_
    rw [HR.out]
    refine ⟨⟨_, _, rfl, ?_⟩, (B4.setCell (p := ⟨w.heap.size, 0, none⟩) (Nat.le_refl _) _).setCell (p := ⟨w.heap.size, 1, none⟩) (Nat.le_refl _) _⟩
    exact Enc.ownWide _ (Enc.ownFrame _ (Enc.ownFrame _ Q.out (Same.set _ (g := w.heap.size) 0 (.slice p0 n0 k0) (by intro h; have := h.1; omega))) (Same.set _ (g := w.heap.size) 1 (.slice p1 n1 k1) (by intro h; have := h.1; omega))) (fun b h => ⟨by have := h.1; omega, by have := h.2; show _ < (World.heap _).size; simp only [setCell_size]; omega⟩)
end Go.Proofs.Ytlgafmgohinkbaa
/- A region that draws its order, where a cell that is loaded is stored anew at its end: the load may be taken first, because the store waits for what waits for the load. -/
namespace Go.Proofs.Ytlgafmgohinkbaa
open Go Go.RowKit

section
variable {P : Program} {ops : Array Oper} {Q : Exit → Act → World → Prop} {md : Region.Mode} {S S' : World → Prop} {k : Nat}
/-- what is to hold behind an operation: S, and S' as long as number k has not come up -/
def Until (S S' : World → Prop) (k : Nat) (listed : Array Bool) (w : World) : Prop := S w ∧ (listed.getD k true = false → S' w)
def wpAnyL (P : Program) (md : Region.Mode) (ops : Array Oper) (Q : Exit → Act → World → Prop) (S S' : World → Prop) (k : Nat) : Nat → Array Bool → Act → World → Prop
  | 0, listed, a, w => Region.ready md ops listed = [] ∧ Q .normal a w
  | fuel + 1, listed, a, w =>
    (Region.ready md ops listed = [] → Q .normal a w) ∧
    ∀ i ∈ Region.ready md ops listed, wpOp P ops Q i (fun a' w' => Until S S' k (listed.setIfInBounds i true) w' ∧ wpAnyL P md ops Q S S' k fuel (listed.setIfInBounds i true) a' w') a w
theorem wpAny_of_until : ∀ (fuel : Nat) (listed : Array Bool) (a : Act) (w : World), wpAnyL P md ops Q S S' k fuel listed a w → wpAny P md ops Q fuel listed a w
  | 0, _, _, _, h => h
  | fuel + 1, _, _, _, h => ⟨h.1, fun i hi => wpOp_mono (fun a' w' h' => wpAny_of_until fuel _ a' w' h'.2) (h.2 i hi)⟩
theorem Until.step {listed : Array Bool} {i j : Nat} {w : World} (hki : i ≠ k) (h : Until S S' k ((listed.setIfInBounds i true).setIfInBounds j true) w) : Until S S' k (listed.setIfInBounds j true) w := by
  refine ⟨h.1, fun hk => h.2 ?_⟩
  by_cases hji : i = j
  · subst hji
    rw [getD_set_ne true hki] at hk ⊢
    rw [getD_set_ne true hki]; exact hk
  · rw [Array.setIfInBounds_comm _ _ hji, getD_set_ne true hki]; exact hk
/-- an operation that yields in every world that meets R is taken first; R is known behind each operation that may come before it -/
theorem wpAnyL_first {R : World → Prop} {i : Nat} {oi : Oper} {v : Value} (hi : ops[i]? = some oi) (hki : i ≠ k) (hsel : ∀ (j : Nat) (o : Oper) cs b, ops[j]? = some o → o.op ≠ .select cs b)
    (hQ : ∀ c a w, Q (.panic c) (a.put oi.dst v) w → Q (.panic c) a w) (I : Array Bool → Prop)
    (hI : ∀ (listed : Array Bool) (j : Nat), listed.getD i true = false → I listed → j ∈ Region.ready md ops listed → j ≠ i → I (listed.setIfInBounds j true) ∧ ∀ w, Until S S' k (listed.setIfInBounds j true) w → R w) :
    ∀ (fuel : Nat) (listed : Array Bool) (a : Act) (w : World), I listed →
      (∀ j oj, ops[j]? = some oj → j ≠ i → listed.getD j true = false → (∀ e ∈ oj.after, Region.binds md e = true → e.on ≠ i) → oi.apart ops oj = true) →
      i ∈ Region.ready md ops listed → YieldsIf P ops R oi v a → R w → Until S S' k (listed.setIfInBounds i true) w →
      wpAnyL P md ops Q S S' k fuel (listed.setIfInBounds i true) (a.put oi.dst v) w → wpAnyL P md ops Q S S' k (fuel + 1) listed a w := by
  intro fuel
  induction fuel with
  | zero =>
    intro listed a w _ _ hr hy hR hS H
    refine ⟨fun h => (by rw [h] at hr; cases hr), fun j hj => ?_⟩
    by_cases hji : j = i
    · subst hji; exact hy.wpOp hi hR ⟨hS, H⟩
    · have := ready_mono hj hji
      rw [H.1] at this
      cases this
  | succ fuel ih =>
    intro listed a w hIl hfree hr hy hR hS H
    refine ⟨fun h => (by rw [h] at hr; cases hr), fun j hj => ?_⟩
    by_cases hji : j = i
    · subst hji; exact hy.wpOp hi hR ⟨hS, H⟩
    · have h1 := H.2 j (ready_mono hj hji)
      obtain ⟨hjun, oj, hoj, hall⟩ := mem_ready.1 hj
      have hnot : ∀ e ∈ oj.after, Region.binds md e = true → e.on ≠ i := fun e he hb heq => by
        have h1 := hall e he hb
        have h0 := (mem_ready.1 hr).1
        rw [heq] at h1
        rcases Nat.lt_or_ge i listed.size with h' | h'
        · simp [h'] at h0 h1; rw [h0] at h1; cases h1
        · simp [Array.getElem?_eq_none h'] at h1
      have h2 := wpOp_putIf hoj (hfree j oj hoj hji hjun hnot) (fun cs b => hsel i oi cs b hi) (fun cs b => hsel j oj cs b hoj) hQ hy h1
      have hfree' : ∀ k ok, ops[k]? = some ok → k ≠ i → (listed.setIfInBounds j true).getD k true = false →
          (∀ e ∈ ok.after, Region.binds md e = true → e.on ≠ i) → oi.apart ops ok = true := fun k ok hk hki hun hno => by
        refine hfree k ok hk hki ?_ hno
        by_cases hjk : j = k
        · subst hjk; exact hjun
        · rw [getD_set_ne true hjk] at hun; exact hun
      obtain ⟨hI', hRk⟩ := hI listed j (mem_ready.1 hr).1 hIl hj hji
      refine wpOp_mono (fun a' w' h3 => ?_) h2
      have hU := h3.2.1
      have hU' := hU.step hki
      refine ⟨hU', ih (listed.setIfInBounds j true) a' w' hI' hfree' (ready_mono hr (Ne.symm hji)) h3.1 (hRk w' hU') ?_ ?_⟩
      · rw [Array.setIfInBounds_comm _ _ hji]; exact hU
      · rw [Array.setIfInBounds_comm _ _ hji]; exact h3.2.2
/-- take number i first: it yields in every world that meets S -/
theorem wpAnyL_take {i : Nat} {oi : Oper} {v : Value} {fuel : Nat} {listed : Array Bool} {a : Act} {w : World} (hi : ops[i]? = some oi) (hki : i ≠ k)
    (hs : Region.noSelect ops = true) (hf : Region.free md ops listed i = true) (hr : (Region.ready md ops listed).contains i = true)
    (hQ : ∀ c a w, Q (.panic c) (a.put oi.dst v) w → Q (.panic c) a w) (hy : YieldsIf P ops S oi v a) (hS : Until S S' k listed w)
    (h : Until S S' k (listed.setIfInBounds i true) w → wpAnyL P md ops Q S S' k fuel (listed.setIfInBounds i true) (a.put oi.dst v) w) : wpAnyL P md ops Q S S' k (fuel + 1) listed a w := by
  have hU : Until S S' k (listed.setIfInBounds i true) w := ⟨hS.1, fun hk => hS.2 (by rw [getD_set_ne true hki] at hk; exact hk)⟩
  exact wpAnyL_first (R := S) hi hki (Region.noSelect_spec hs) hQ (fun _ => True) (fun _ _ _ _ _ _ => ⟨trivial, fun _ h => h.1⟩) fuel listed a w trivial (Region.free_spec hi hf) (by simpa using hr) hy hS.1 hU (h hU)
/-- take number i first: it yields in every world that meets S'; number m waits for it, and number k for m -/
theorem wpAnyL_load {i m : Nat} {oi om ok : Oper} {v : Value} {fuel : Nat} {listed : Array Bool} {a : Act} {w : World} (hi : ops[i]? = some oi) (hki : i ≠ k)
    (hs : Region.noSelect ops = true) (hf : Region.free md ops listed i = true) (hr : (Region.ready md ops listed).contains i = true)
    (hom : ops[m]? = some om) (hok : ops[k]? = some ok) (hmi : om.after.any (fun e => Region.binds md e && (e.on == i)) = true) (hkm : ok.after.any (fun e => Region.binds md e && (e.on == m)) = true)
    (hlm : listed.getD m true = false) (hlk : listed.getD k true = false)
    (hQ : ∀ c a w, Q (.panic c) (a.put oi.dst v) w → Q (.panic c) a w) (hy : YieldsIf P ops S' oi v a) (hS : Until S S' k listed w)
    (h : Until S S' k (listed.setIfInBounds i true) w → wpAnyL P md ops Q S S' k fuel (listed.setIfInBounds i true) (a.put oi.dst v) w) : wpAnyL P md ops Q S S' k (fuel + 1) listed a w := by
  have hU : Until S S' k (listed.setIfInBounds i true) w := ⟨hS.1, fun hk => hS.2 (by rw [getD_set_ne true hki] at hk; exact hk)⟩
  have waits : ∀ {x y : Nat} {ox : Oper} {listed : Array Bool}, ops[x]? = some ox → ox.after.any (fun e => Region.binds md e && (e.on == y)) = true → listed.getD y true = false → x ∉ Region.ready md ops listed := by
    intro x y ox L hx ha hy hr
    obtain ⟨_, o, ho, hall⟩ := mem_ready.1 hr
    rw [hx] at ho
    cases ho
    obtain ⟨e, he, hb⟩ := Array.any_eq_true'.1 ha
    simp only [Bool.and_eq_true, beq_iff_eq] at hb
    have := hall e he hb.1
    rw [hb.2] at this
    rcases Nat.lt_or_ge y L.size with h' | h'
    · simp [h'] at this hy; rw [hy] at this; cases this
    · simp [Array.getElem?_eq_none h'] at this
  refine wpAnyL_first (R := S') hi hki (Region.noSelect_spec hs) hQ (fun L => L.getD m true = false ∧ L.getD k true = false) ?_ fuel listed a w ⟨hlm, hlk⟩ (Region.free_spec hi hf) (by simpa using hr) hy (hS.2 hlk) hU (h hU)
  intro L j hLi ⟨h1, h2⟩ hj hji
  have hjm : j ≠ m := fun e => waits hom hmi hLi (e ▸ hj)
  have hjk : j ≠ k := fun e => waits hok hkm h1 (e ▸ hj)
  refine ⟨⟨by rw [getD_set_ne true hjm]; exact h1, by rw [getD_set_ne true hjk]; exact h2⟩, fun w hw => hw.2 (by rw [getD_set_ne true hjk]; exact h2)⟩
theorem wpAnyL_done {listed : Array Bool} {a : Act} {w : World} (hr : Region.ready md ops listed = []) (h : Q .normal a w) :
    ∀ fuel, wpAnyL P md ops Q S S' k fuel listed a w
  | 0 => ⟨hr, h⟩
  | _ + 1 => ⟨fun _ => h, by rw [hr]; simp⟩
/-- the one operation that may come up comes up -/
theorem wpAnyL_only {i : Nat} {o : Oper} {fuel : Nat} {listed : Array Bool} {a : Act} {w : World} (hr : Region.ready md ops listed = [i]) (ho : ops[i]? = some o)
    (h : ∀ K' : Act → World → Prop, Shut (∀ a w, Until S S' k (listed.setIfInBounds i true) w → (Until S S' k (listed.setIfInBounds i true) w → wpAnyL P md ops Q S S' k fuel (listed.setIfInBounds i true) a w) → K' a w) → if Region.wanted o (yielded ops a.tmps) = true then Oper.wp P o a w K' Q else K' (a.put o.dst undef) w) :
    wpAnyL P md ops Q S S' k (fuel + 1) listed a w := by
  refine ⟨fun h0 => (by rw [hr] at h0; cases h0), fun j hj => ?_⟩
  rw [hr] at hj
  simp at hj
  subst hj
  exact wpOp_step ho (fun K' hK => h K' (fun a w hS hW => hK a w ⟨hS, hW hS⟩))
theorem wp_region_until (S S' : World → Prop) (k : Nat) {id : Nat} {a : Act} {w : World} (hm : P.follows .mixedOrders = true) (hS : S w.drew) (hS' : S' w.drew)
    (h : Until S S' k (Array.replicate ops.size false) w.drew → wpAnyL P .any ops Q S S' k ops.size (Array.replicate ops.size false) a w.drew) : (Code.region id ops true).wp P Q a w :=
  wp_region_any hm (wpAny_of_until _ _ _ _ (h ⟨hS, fun _ => hS'⟩))
end
end Go.Proofs.Ytlgafmgohinkbaa
/- A region that draws, with a store at its end: several operations may come up. -/
namespace Go.Proofs.Ytlgafmgohinkbaa
open Go Go.RowKit

section
variable {P : Program} {ops : Array Oper} {Q : Exit → Act → World → Prop} {md : Region.Mode} {S S' : World → Prop} {k : Nat}
/-- each of the operations that may come up comes up next -/
def AllReadyL (P : Program) (md : Region.Mode) (ops : Array Oper) (Q : Exit → Act → World → Prop) (S S' : World → Prop) (k fuel : Nat) (listed : Array Bool) (a : Act) (w : World) (rs : List Nat) : Prop :=
  ∀ i ∈ rs, wpOp P ops Q i (fun a' w' => Until S S' k (listed.setIfInBounds i true) w' ∧ wpAnyL P md ops Q S S' k fuel (listed.setIfInBounds i true) a' w') a w
theorem AllReadyL.nil {fuel : Nat} {listed : Array Bool} {a : Act} {w : World} : AllReadyL P md ops Q S S' k fuel listed a w [] := fun _ h => by cases h
theorem AllReadyL.cons {fuel : Nat} {listed : Array Bool} {a : Act} {w : World} {i : Nat} {o : Oper} {rs : List Nat} (ho : ops[i]? = some o)
    (h : ∀ K' : Act → World → Prop, Shut (∀ a w, Until S S' k (listed.setIfInBounds i true) w → (Until S S' k (listed.setIfInBounds i true) w → wpAnyL P md ops Q S S' k fuel (listed.setIfInBounds i true) a w) → K' a w) → if Region.wanted o (yielded ops a.tmps) = true then Oper.wp P o a w K' Q else K' (a.put o.dst undef) w)
    (hs : AllReadyL P md ops Q S S' k fuel listed a w rs) : AllReadyL P md ops Q S S' k fuel listed a w (i :: rs) := fun j hj => by
  rcases List.mem_cons.1 hj with rfl | hj
  · exact wpOp_step ho (fun K' hK => h K' (fun a w hS hW => hK a w ⟨hS, hW hS⟩))
  · exact hs j hj
theorem wpAnyL_ready {rs : List Nat} {fuel : Nat} {listed : Array Bool} {a : Act} {w : World} (hr : Region.ready md ops listed = rs) (hne : rs ≠ [])
    (h : AllReadyL P md ops Q S S' k fuel listed a w rs) : wpAnyL P md ops Q S S' k (fuel + 1) listed a w :=
  ⟨fun h0 => absurd (hr ▸ h0) hne, hr ▸ h⟩
end
end Go.Proofs.Ytlgafmgohinkbaa
/- Copies by the specification: the steps. -/
namespace Go.Proofs.Ytlgafmgohinkbaa
open Go.RowKit
attribute [local go_sem ↓] Go.wp_at_zero Go.wp_at_succ

theorem own_zeroD (w : World) {B g : Nat} (hg : g = w.heap.size) (hB : B ≤ g) : (w.alloc (.cells #[] 157)).ownsRow B 157 2 (.slice (some ⟨g, 0, none⟩) 0 0) 0 (rs []) := by
  subst hg
  exact ⟨rfl, .inr ⟨w.heap.size, 0, #[], rfl, hB, heap_alloc_new w _, by simp, by unfold maxLen; simp, rfl, rfl⟩⟩
set_option maxRecDepth 100000 in
theorem l03Ill_any (c : Int) (w : World) :
    Calls Try.prog 126 #[.int .i64 c] w fun e w' => e = .returned (.agg #[.slice none 0 0, .slice none 0 0, .int .i64 c]) ∧ Below w.heap.size w w' := by
  go_enter Try.func126, Try.ntmps126
  go_wp2
  exact bodyPost_ret (v := .agg #[.slice none 0 0, .slice none 0 0, .int .i64 c]) (by simp [results, Try.results126, go_sem]) rfl ⟨rfl, more' (Below.refl _ _) _⟩

theorem grown_set (w : World) (R j : Nat) (x : Value) : w.grownBy (w.setCell ⟨R, j, none⟩ x) (some R) :=
  ⟨rfl, rfl, rfl, by rw [setCell_size]; exact Nat.le_refl _, fun k hk hne => Below.heap_setCell _ _ _ _ (fun e => hne (by rw [show R = k from e.symm]))⟩
theorem own_cellOut {w : World} {B e z n R j : Nat} {v x : Value} {xs : List Value} (h : w.ownsRow B e z v n xs) (hR : R < B) : (w.setCell ⟨R, j, none⟩ x).ownsRow B e z v n xs := by
  refine h.kept (grown_set w R j x) ?_
  cases hu : v.ownBlock with
  | none => exact .inl rfl
  | some g =>
    right
    intro e
    injection e with e
    have := (h.lt g hu).1
    omega
theorem Grow.cellOut {α : Type} {e : Enc α} {T : TypeId} {B R j : Nat} {w : World} {v x : Value} {l : List α} {xs : List Value} (h : Grow e T B w v l xs) (hR : R < B) : Grow e T B (w.setCell ⟨R, j, none⟩ x) v l xs := by
  obtain ⟨hr, P, h1, h2, h3⟩ := h
  refine ⟨own_cellOut hr hR, P, fun i hi => ⟨fun b hx => ⟨((h1 i hi).1 b hx).1, by rw [setCell_size]; exact ((h1 i hi).1 b hx).2⟩, (h1 i hi).2⟩, h2, fun i hi => ?_⟩
  obtain ⟨cs, q1, q2⟩ := h3 i hi
  exact ⟨cs, q1, e.ownFrame q2 (Same.set _ j x (fun hx => by have := ((h1 i hi).1 R hx).1; omega))⟩
theorem Blk.low {w w' : World} {g N : Nat} {cs : List Value} (h : Blk w g cs) (hb : Below N w w') (hg : g < N) : Blk w' g cs := by
  obtain ⟨T, ht⟩ := h
  exact ⟨T, (hb.block g hg).trans ht⟩
section
variable {ops : Array Oper} {o : Oper} {a : Act} {Q : Exit → Act → World → Prop} {K : Act → World → Prop} {E : Prop} {w3 : World}
/-- append([]string{}, texts...) in a drawn region -/
theorem step_texts (B : Nat) (hgd : o.guard = none) (s x : Operand)
    (ho : o.op = .call { callee := .builtin .append, args := #[s, x], argTypes := #[29, 29] }) (v : Value) (hs : a.eval s = v) (hown : w3.ownsRow B 9 1 v 0 [])
    (ao : Option Addr) (d : List ByteArray) (c : Nat) (hx : a.eval x = .slice ao d.length c) (hd : StrsAt w3 ao d) (hc : ao = none → c = 0) (hlen : d.length ≤ 1000000000) (hB : B ≤ w3.heap.size)
    (h : ∀ v' w', w'.ownsRow B 9 1 v' d.length (d.map Value.string) → w3.grownBy w' v.ownBlock → K (a.put o.dst v') w') :
    if Region.wanted o (yielded ops a.tmps) = true then Oper.wp Try.prog o a w3 K Q else E := by
  have hw : Region.wanted o (yielded ops a.tmps) = true := by simp [Region.wanted, hgd]
  rw [if_pos hw]
  obtain ⟨i0, hi, hz0, hz1, hz2⟩ := info_parts Try.info9
  rcases ao with _ | ad
  · have hd0 : d = [] := by
      rcases hd with h | ⟨b, off, e, _⟩
      · exact h
      · cases e
    subst hd0
    have := hc rfl
    subst this
    have hrun := run_append_owned_none (P := Try.prog) (w := w3) B 29 o.type 9 i0 1 Try.underlying29 hi v 0 [] hown
    unfold Oper.wp execOp
    simp only [ho, resolve, invoke, builtin, Sem.run_bind, Sem.run_pure, Result.andThen_ok, List.map_toArray, List.map_cons, List.map_nil, hs, hx]
    erw [hrun]
    exact h v w3 hown ⟨rfl, rfl, rfl, Nat.le_refl _, fun _ _ _ => rfl⟩
  · have hnews : ∀ j u, (d.map Value.string)[j]? = some u → w3.cell? (ad.add j) = some u := by
      rcases hd with hd | ⟨b, off, e, h2, h3⟩
      · subst hd; intro j u hu; simp at hu
      · cases e
        intro j u hu
        have ea : (⟨b, off, none⟩ : Addr).add j = ⟨b, off + j, none⟩ := by unfold Addr.add; split <;> simp_all
        rw [ea]
        rw [List.getElem?_map] at hu
        by_cases hj : j < d.length
        · rw [List.getElem?_eq_getElem hj] at hu
          cases hu
          exact h3 j hj
        · rw [List.getElem?_eq_none (by omega)] at hu; cases hu
    refine wp_append_own _ s x 29 ho B 9 i0 _ 1 16 Try.underlying29 hi hz0 hz1 hz2 rfl (by decide) v 0 [] hs hown ad d.length c (d.map Value.string) hx (by simp) hnews (by intro u hu; obtain ⟨t, _, rfl⟩ := List.mem_map.1 hu; rfl) ?_ ?_ hB ?_
    · unfold maxLen; omega
    · omega
    · intro v' w' h1 h2 h3
      rw [Nat.zero_add] at h1
      exact h v' w' h1 h2
/-- append(attrs, x) in a drawn region -/
theorem step_attr (B : Nat) (hgd : o.guard = none) (s x : Operand)
    (ho : o.op = .call { callee := .builtin .append, args := #[s, x], argTypes := #[75, 75] }) (v : Value) (n : Nat) (xs : List Value) (hs : a.eval s = v) (hown : w3.ownsRow B 97 2 v n xs)
    (A : ByteArray) (p : Option Addr) (m c : Nat) (hx : a.eval x = .slice (some ⟨w3.heap.size, 0, none⟩) 1 1) (hlen : n ≤ 100000000) (hB : B ≤ w3.heap.size)
    (h : ∀ g cap w', w'.ownsRow B 97 2 (.slice (some ⟨g, 0, none⟩) (n + 1) cap) (n + 1) (xs ++ [.string A, .slice p m c]) → (w3.alloc (.cells #[.string A, .slice p m c] 97)).grownBy w' v.ownBlock → (v.ownBlock = some g ∨ g = w3.heap.size + 1) → K (a.put o.dst (.slice (some ⟨g, 0, none⟩) (n + 1) cap)) w') :
    if Region.wanted o (yielded ops a.tmps) = true then Oper.wp Try.prog o a (w3.alloc (.cells #[.string A, .slice p m c] 97)) K Q else E := by
  obtain ⟨i0, hi, hz0, hz1, hz2⟩ := info_parts Try.infoTAttr
  refine step_append_lies _ hgd s x 75 ho B 97 i0 _ 2 40 Try.underlying75 hi hz0 hz1 hz2 rfl (by decide) v n xs hs (hown.alloc _) ⟨w3.heap.size, 0, none⟩ 1 1 [.string A, .slice p m c] hx rfl (World.news_of_block (cs := #[.string A, .slice p m c]) (t := 97) (fr := (0, 0)) (heap_alloc_new _ _)) ?_ (by omega) ?_ ?_ ?_ (w3.heap.size + 1) (by simp) ?_
  · intro u hu; simp at hu; rcases hu with rfl | rfl <;> rfl
  · unfold maxLen; omega
  · omega
  · simp; omega
  · intro g cap w' h1 h2 h3 _
    exact h g cap w' h1 h2 h3
end
section
variable {ops : Array Oper} {rest : List Oper} {o : Oper} {a : Act} {Q : Exit → Act → World → Prop} {W : World}
/-- append([]Rdn{}, dn...) -/
theorem app_dn0 (N : Nat) (hgd : o.guard = none) (s x : Operand)
    (ho : o.op = .call { callee := .builtin .append, args := #[s, x], argTypes := #[70, 70] }) (hs : a.eval s = .slice (some ⟨N, 0, none⟩) 0 0)
    (ao : Option Addr) (d : RdnL) (c n : Nat) (hn : n = d.length) (hx : a.eval x = .slice ao n c) (hd : DnAt W ao d) (hc : ao = none → c = 0) (hlen : ([] : RdnL).length + d.length ≤ 1000000000) (hN : N = W.heap.size)
    (h : ∀ v' w', w'.ownsRow N 157 2 v' d.length (rs d) → Below W.heap.size W w' → N ≤ w'.heap.size → wpList Try.prog ops Q rest (a.put o.dst v') w') :
    wpList Try.prog ops Q (o :: rest) a (W.alloc (.cells #[] 157)) := by
  subst hN
  have B0 : Below W.heap.size W (W.alloc (.cells #[] 157)) := more' (Below.refl _ _) _
  refine append_dn W.heap.size hgd s x ho _ [] hs (own_zeroD _ rfl (Nat.le_refl _)) ao d c n hn hx (hd.below B0) hc hlen B0.size B0 ?_
  intro v' w' h1 h2
  exact h v' w' h1 h2 h2.size
end
end Go.Proofs.Ytlgafmgohinkbaa
/- l05Copy: what the specification's text returns. -/
namespace Go.Proofs.Ytlgafmgohinkbaa
open Go.RowKit
attribute [local go_sem ↓] Go.wp_at_zero Go.wp_at_succ

section
variable {ops : Array Oper} {rest : List Oper} {o : Oper} {a : Act} {Q : Exit → Act → World → Prop} {W : World}
theorem wpListW {P : Program} {l : List Oper} {w : World} (R : World → Prop) (h : R w) (k : ∀ W, R W → wpList P ops Q l a W) : wpList P ops Q l a w := k w h
/-- append([]string{}, texts...) -/
theorem app_txt0 (N : Nat) (hgd : o.guard = none) (s x : Operand)
    (ho : o.op = .call { callee := .builtin .append, args := #[s, x], argTypes := #[29, 29] }) (hs : a.eval s = .slice (some ⟨N, 0, none⟩) 0 0)
    (ao : Option Addr) (d : List ByteArray) (c n : Nat) (hn : n = d.length) (hx : a.eval x = .slice ao n c) (hd : StrsAt W ao d) (hc : ao = none → c = 0) (hlen : d.length ≤ 100000000) (hN : N = W.heap.size)
    (h : ∀ v' w', SlOwn strE (fun b => N ≤ b ∧ b < w'.heap.size) w' d v' → Below W.heap.size W w' → wpList Try.prog ops Q rest (a.put o.dst v') w') :
    wpList Try.prog ops Q (o :: rest) a (W.alloc (.cells #[] 9)) := by
  subst hN
  have B0 : Below W.heap.size W (W.alloc (.cells #[] 9)) := more' (Below.refl _ _) _
  have O0 : (W.alloc (.cells #[] 9)).ownsRow W.heap.size 9 1 (.slice (some ⟨W.heap.size, 0, none⟩) 0 0) ([] : List ByteArray).length (ss []) := ⟨rfl, .inr ⟨W.heap.size, 0, #[], rfl, Nat.le_refl _, heap_alloc_new W _, by simp, by unfold maxLen; simp, rfl, rfl⟩⟩
  refine append_strs W.heap.size hgd s x ho _ [] hs O0 ao d c n hn hx (hd.below B0) hc (by simp; omega) B0.size B0 ?_
  intro v' w' h1 h2
  exact h v' w' (own_texts h1) h2
end
set_option maxRecDepth 100000 in
set_option maxHeartbeats 4000000 in
theorem l05Copy_any {S : Bs} (a0 : ByteArray) (a1 a2 a3 : List ByteArray) (v1 v2 v3 : Value) (w : World) (h1 : SlAt strE S w a1 v1) (h2 : SlAt strE S w a2 v2) (h3 : SlAt strE S w a3 v3) (hz : classE.sz (a0, a1, a2, a3) ≤ 1048576) :
    Calls Try.prog 106 #[.agg #[.string a0, v1, v2, v3]] w fun e w' => ∃ u1 u2 u3, e = .returned (.agg #[.string a0, u1, u2, u3]) ∧ classE.Own (Fresh w w') w' (a0, a1, a2, a3) [.string a0, u1, u2, u3] ∧ Below w.heap.size w w' := by
  have HE : classE.sz (a0, a1, a2, a3) = a0.size + ((a1.length + szL strE a1) + ((a2.length + szL strE a2) + (a3.length + szL strE a3))) := rfl
  rw [HE] at hz
  obtain ⟨o1, k1, rfl⟩ := h1.sl
  obtain ⟨o2, k2, rfl⟩ := h2.sl
  obtain ⟨o3, k3, rfl⟩ := h3.sl
  have hc1 := h1.cap.2.2; have hc2 := h2.cap.2.2; have hc3 := h3.cap.2.2
  have H1 : Hid (∀ W : World, Below w.heap.size w W → StrsAt W o1 a1) := Lib.hid (fun W b => (strs_of h1).below b)
  have H2 : Hid (∀ W : World, Below w.heap.size w W → StrsAt W o2 a2) := Lib.hid (fun W b => (strs_of h2).below b)
  have H3 : Hid (∀ W : World, Below w.heap.size w W → StrsAt W o3 a3) := Lib.hid (fun W b => (strs_of h3).below b)
  have l1 : a1.length ≤ 100000000 := by omega
  have l2 : a2.length ≤ 100000000 := by omega
  have l3 : a3.length ≤ 100000000 := by omega
  clear h1 h2 h3 hz HE
  have W00 : Hid (∀ (C D : Array Value) (T : TypeId), C = #[.string a0, .slice o1 a1.length k1, .slice o2 a2.length k2, .slice o3 a3.length k3] → D = #[.string ⟨#[]⟩, .slice none 0 0, .slice none 0 0, .slice none 0 0] → Below w.heap.size w ((w.alloc (.cells C T)).alloc (.cells D T)) ∧ Blk ((w.alloc (.cells C T)).alloc (.cells D T)) w.heap.size [.string a0, .slice o1 a1.length k1, .slice o2 a2.length k2, .slice o3 a3.length k3] ∧ Blk ((w.alloc (.cells C T)).alloc (.cells D T)) (w.heap.size + 1) [.string ⟨#[]⟩, .slice none 0 0, .slice none 0 0, .slice none 0 0]) := Lib.hid (fun C D T hC hD => by subst hC hD; exact ⟨more' (more' (Below.refl _ _) _) _, (Blk.new _ _ _).alloc _, blk_at _ _ _ (by simp)⟩)
  go_enter Try.func106, Try.ntmps106
  go_wp2_with (first
    | (at_builtin; refine app_txt0 _ rfl _ _ rfl rfl o3 a3 k3 _ rfl rfl (H3.out _ B2s.out) hc3 l3 (setCell_size _ _ _).symm ?_; intro v3 w3 q3 hb3; obtain ⟨p3, e3, rfl⟩ := q3.at.sl; have Q3 := Lib.hid q3; have B3 := Lib.hid (B2s.out.trans (hb3.mono B2s.out.size)); have T3 := Lib.hid (T2s.out.below hb3); have R3 := Lib.hid (R2s.out.below hb3); have Q13 := Lib.hid (Q12s.out.frame (Same.of_below' hb3)); have Q23 := Lib.hid (Q2s.out.frame (Same.of_below' hb3)); have hR3 : w2.heap.size ≤ w3.heap.size := (by have := hb3.size; rw [setCell_size] at this; exact this); have x3 := T3.out.cell 3 rfl; have f3 := T3.out.soft 3; have U3 := Lib.hid (T3.out.set 3 (.slice p3 a3.length e3)); have V3 := Lib.hid (R3.out.far (R := w.heap.size) (j := 3) (by omega) (.slice p3 a3.length e3)); have u0 := U3.out.cell 0 rfl; have u1 := U3.out.cell 1 rfl; have u2 := U3.out.cell 2 rfl; have u3 := U3.out.cell 3 rfl; have z0 := V3.out.cell 0 rfl; have z1 := V3.out.cell 1 rfl; have z2 := V3.out.cell 2 rfl; have z3 := V3.out.cell 3 rfl; have s0 := V3.out.soft 0; have s1 := V3.out.soft 1; have s2 := V3.out.soft 2; have s3 := V3.out.soft 3; have TE := (((V3.out.set 0 (.string a0)).set 1 (.slice p1 a1.length e1)).set 2 (.slice p2 a2.length e2)).set 3 (.slice p3 a3.length e3); have j0 := TE.cell 0 rfl; have j1 := TE.cell 1 rfl; have j2 := TE.cell 2 rfl; have j3 := TE.cell 3 rfl; clear TE q3 hb3 y3 x2 f2 T2s R2s Q12s Q2s B2s T2 R2 Q2 Q12 B2)
    | (at_builtin; refine app_txt0 _ rfl _ _ rfl rfl o2 a2 k2 _ rfl rfl (H2.out _ B1s.out) hc2 l2 (setCell_size _ _ _).symm ?_; intro v2 w2 q2 hb2; obtain ⟨p2, e2, rfl⟩ := q2.at.sl; have Q2 := Lib.hid q2; have B2 := Lib.hid (B1s.out.trans (hb2.mono B1s.out.size)); have T2 := Lib.hid (T1s.out.below hb2); have R2 := Lib.hid (R1s.out.below hb2); have Q12 := Lib.hid (Q1s.out.frame (Same.of_below' hb2)); have x2 := T2.out.cell 2 rfl; have f2 := T2.out.soft 2; have hR2 : w1.heap.size ≤ w2.heap.size := (by have := hb2.size; rw [setCell_size] at this; exact this); have B2s := Lib.hid (B2.out.setCell (p := ⟨w.heap.size, 2, none⟩) (Nat.le_refl _) (.slice p2 a2.length e2)); have T2s := Lib.hid (T2.out.set 2 (.slice p2 a2.length e2)); have R2s := Lib.hid (R2.out.far (R := w.heap.size) (j := 2) (by omega) (.slice p2 a2.length e2)); have Q12s := Lib.hid (Q12.out.frame (Same.set w2 (g := w.heap.size) 2 (.slice p2 a2.length e2) (by intro h; have := h.1; omega))); have Q2s := Lib.hid (Q2.out.frame (Same.set w2 (g := w.heap.size) 2 (.slice p2 a2.length e2) (by intro h; have := h.1; omega))); have y3 := (T2s.out.alloc (.cells #[] 9)).cell 3 rfl; clear q2 hb2 y2 x1 f1 T1s R1s Q1s B1s T1 R1 Q1 B1)
    | (at_builtin; obtain ⟨b0, t0, r0⟩ := W00.out _ _ 63 rfl rfl; refine app_txt0 _ rfl _ _ rfl rfl o1 a1 k1 _ rfl rfl (H1.out _ b0) hc1 l1 (by simp) ?_; intro v1 w1 q1 hb1; obtain ⟨p1, e1, rfl⟩ := q1.at.sl; have Q1 := Lib.hid q1; have B1 := Lib.hid (b0.trans (hb1.mono b0.size)); have T1 := Lib.hid (t0.below hb1); have R1 := Lib.hid (r0.below hb1); have x1 := T1.out.cell 1 rfl; have f1 := T1.out.soft 1; have hR1 : w.heap.size + 1 < w1.heap.size := R1.out.lt; have B1s := Lib.hid (B1.out.setCell (p := ⟨w.heap.size, 1, none⟩) (Nat.le_refl _) (.slice p1 a1.length e1)); have T1s := Lib.hid (T1.out.set 1 (.slice p1 a1.length e1)); have R1s := Lib.hid (R1.out.far (R := w.heap.size) (j := 1) (by omega) (.slice p1 a1.length e1)); have Q1s := Lib.hid (Q1.out.frame (Same.set w1 (g := w.heap.size) 1 (.slice p1 a1.length e1) (by intro h; have := h.1; omega))); have y2 := (T1s.out.alloc (.cells #[] 9)).cell 2 rfl; clear q1 b0 t0 r0 hb1 W00)
    | (fail "none"))

  refine bodyPost_ret (v := .agg #[.string a0, .slice p1 a1.length e1, .slice p2 a2.length e2, .slice p3 a3.length e3]) (by simp [results, Try.results106, go_sem, j0, j1, j2, j3]) rfl ⟨_, _, _, rfl, class_pack a0 a1 a2 a3 _ _ _ (fun b => w.heap.size + 1 + 1 ≤ b ∧ b < w1.heap.size) (fun b => w1.heap.size ≤ b ∧ b < w2.heap.size) (fun b => w2.heap.size ≤ b ∧ b < w3.heap.size) ⟨?_, ?_, ?_, ?_, ?_, ?_, ?_, ?_, ?_, trivial⟩, ?_⟩
  · exact (((((Q13.out.frame (Same.set _ (g := w.heap.size) 3 (.slice p3 a3.length e3) (by intro h; have := h.1; omega))).frame (Same.set _ (g := w.heap.size + 1) 0 (.string a0) (by intro h; have := h.1; omega))).frame (Same.set _ (g := w.heap.size + 1) 1 (.slice p1 a1.length e1) (by intro h; have := h.1; omega))).frame (Same.set _ (g := w.heap.size + 1) 2 (.slice p2 a2.length e2) (by intro h; have := h.1; omega))).frame (Same.set _ (g := w.heap.size + 1) 3 (.slice p3 a3.length e3) (by intro h; have := h.1; omega)))
  · exact fun b h => ⟨by have := h.1; omega, by have := h.2; show _ < (World.heap _).size; simp only [setCell_size]; omega⟩
  · exact (((((Q23.out.frame (Same.set _ (g := w.heap.size) 3 (.slice p3 a3.length e3) (by intro h; have := h.1; omega))).frame (Same.set _ (g := w.heap.size + 1) 0 (.string a0) (by intro h; have := h.1; omega))).frame (Same.set _ (g := w.heap.size + 1) 1 (.slice p1 a1.length e1) (by intro h; have := h.1; omega))).frame (Same.set _ (g := w.heap.size + 1) 2 (.slice p2 a2.length e2) (by intro h; have := h.1; omega))).frame (Same.set _ (g := w.heap.size + 1) 3 (.slice p3 a3.length e3) (by intro h; have := h.1; omega)))
  · exact fun b h => ⟨by have := h.1; omega, by have := h.2; show _ < (World.heap _).size; simp only [setCell_size]; omega⟩
  · exact (((((Q3.out.frame (Same.set _ (g := w.heap.size) 3 (.slice p3 a3.length e3) (by intro h; have := h.1; omega))).frame (Same.set _ (g := w.heap.size + 1) 0 (.string a0) (by intro h; have := h.1; omega))).frame (Same.set _ (g := w.heap.size + 1) 1 (.slice p1 a1.length e1) (by intro h; have := h.1; omega))).frame (Same.set _ (g := w.heap.size + 1) 2 (.slice p2 a2.length e2) (by intro h; have := h.1; omega))).frame (Same.set _ (g := w.heap.size + 1) 3 (.slice p3 a3.length e3) (by intro h; have := h.1; omega)))
  · exact fun b h => ⟨by have := h.1; omega, by have := h.2; show _ < (World.heap _).size; simp only [setCell_size]; omega⟩
  · exact fun b h1 h2 => by have := h1.2; have := h2.1; omega
  · exact fun b h1 h2 => by have := h1.2; have := h2.1; omega
  · exact fun b h1 h2 => by have := h1.2; have := h2.1; omega
  · exact ((((B3.out.setCell (p := ⟨w.heap.size, 3, none⟩) (Nat.le_refl _) (.slice p3 a3.length e3)).setCell (p := ⟨w.heap.size + 1, 0, none⟩) (by show w.heap.size ≤ w.heap.size + 1; omega) (.string a0)).setCell (p := ⟨w.heap.size + 1, 1, none⟩) (by show w.heap.size ≤ w.heap.size + 1; omega) (.slice p1 a1.length e1)).setCell (p := ⟨w.heap.size + 1, 2, none⟩) (by show w.heap.size ≤ w.heap.size + 1; omega) (.slice p2 a2.length e2)).setCell (p := ⟨w.heap.size + 1, 3, none⟩) (by show w.heap.size ≤ w.heap.size + 1; omega) (.slice p3 a3.length e3)
end Go.Proofs.Ytlgafmgohinkbaa
