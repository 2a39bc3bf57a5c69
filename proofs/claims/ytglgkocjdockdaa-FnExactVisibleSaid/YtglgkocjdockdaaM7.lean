/- Merged texts: Held2, Held3, VwS0, toRdn, toEntry, MemL, MemE, VisI, VwS. -/
import Derived.Deep.RegionHeld
import Derived.Test.YtglgkocjdockdaaM1
import Derived.Test.YtglgkocjdockdaaM6
import Derived.Test.YtglgkocjdockdaaM5
import Derived.Test.YtglgkocjdockdaaM3
import Derived.Test.YtglgkocjdockdaaM2
import Derived.Laws.MakeOwn
/- A region that draws its order, where a cell that is loaded is stored anew at its end: the load may be taken first, because the store waits for what waits for the load. -/
namespace Go.Proofs.Ytglgkocjdockdaa
open Go Go.RowKit

section
variable {P : Program} {ops : Array Oper} {Q : Exit → Act → World → Prop} {md : Region.Mode} {S S' : World → Prop} {k : Nat}
/-- what is to hold behind an operation: S, and S' as long as number k has not come up -/
def Until (S S' : World → Prop) (k : Nat) (listed : Array Bool) (w : World) : Prop := S w ∧ (listed.getD k true = false → S' w)
def wpAnyL (P : Program) (md : Region.Mode) (ops : Array Oper) (Q : Exit → Act → World → Prop) (S S' : World → Prop) (k : Nat) : Nat → Array Bool → Act → World → Prop
  | 0, listed, a, w => Region.ready md ops listed = [] ∧ Q .normal a w
  | fuel + 1, listed, a, w =>
    (Region.ready md ops listed = [] → Q .normal a w) ∧
    ∀ i ∈ Region.ready md ops listed, wpOp P ops Q i (fun a' w' => Until S S' k (listed.setIfInBounds i true) w' ∧ wpAnyL P md ops Q S S' k fuel (listed.setIfInBounds i true) a' w') a w
theorem wpAny_of_until : ∀ (fuel : Nat) (listed : Array Bool) (a : Act) (w : World), wpAnyL P md ops Q S S' k fuel listed a w → wpAny P md ops Q fuel listed a w
  | 0, _, _, _, h => h
  | fuel + 1, _, _, _, h => ⟨h.1, fun i hi => wpOp_mono (fun a' w' h' => wpAny_of_until fuel _ a' w' h'.2) (h.2 i hi)⟩
theorem Until.step {listed : Array Bool} {i j : Nat} {w : World} (hki : i ≠ k) (h : Until S S' k ((listed.setIfInBounds i true).setIfInBounds j true) w) : Until S S' k (listed.setIfInBounds j true) w := by
  refine ⟨h.1, fun hk => h.2 ?_⟩
  by_cases hji : i = j
  · subst hji
    rw [getD_set_ne true hki] at hk ⊢
    rw [getD_set_ne true hki]; exact hk
  · rw [Array.setIfInBounds_comm _ _ hji, getD_set_ne true hki]; exact hk
/-- an operation that yields in every world that meets R is taken first; R is known behind each operation that may come before it -/
theorem wpAnyL_first {R : World → Prop} {i : Nat} {oi : Oper} {v : Value} (hi : ops[i]? = some oi) (hki : i ≠ k) (hsel : ∀ (j : Nat) (o : Oper) cs b, ops[j]? = some o → o.op ≠ .select cs b)
    (hQ : ∀ c a w, Q (.panic c) (a.put oi.dst v) w → Q (.panic c) a w) (I : Array Bool → Prop)
    (hI : ∀ (listed : Array Bool) (j : Nat), listed.getD i true = false → I listed → j ∈ Region.ready md ops listed → j ≠ i → I (listed.setIfInBounds j true) ∧ ∀ w, Until S S' k (listed.setIfInBounds j true) w → R w) :
    ∀ (fuel : Nat) (listed : Array Bool) (a : Act) (w : World), I listed →
      (∀ j oj, ops[j]? = some oj → j ≠ i → listed.getD j true = false → (∀ e ∈ oj.after, Region.binds md e = true → e.on ≠ i) → oi.apart ops oj = true) →
      i ∈ Region.ready md ops listed → YieldsIf P ops R oi v a → R w → Until S S' k (listed.setIfInBounds i true) w →
      wpAnyL P md ops Q S S' k fuel (listed.setIfInBounds i true) (a.put oi.dst v) w → wpAnyL P md ops Q S S' k (fuel + 1) listed a w := by
  intro fuel
  induction fuel with
  | zero =>
    intro listed a w _ _ hr hy hR hS H
    refine ⟨fun h => (by rw [h] at hr; cases hr), fun j hj => ?_⟩
    by_cases hji : j = i
    · subst hji; exact hy.wpOp hi hR ⟨hS, H⟩
    · have := ready_mono hj hji
      rw [H.1] at this
      cases this
  | succ fuel ih =>
    intro listed a w hIl hfree hr hy hR hS H
    refine ⟨fun h => (by rw [h] at hr; cases hr), fun j hj => ?_⟩
    by_cases hji : j = i
    · subst hji; exact hy.wpOp hi hR ⟨hS, H⟩
    · have h1 := H.2 j (ready_mono hj hji)
      obtain ⟨hjun, oj, hoj, hall⟩ := mem_ready.1 hj
      have hnot : ∀ e ∈ oj.after, Region.binds md e = true → e.on ≠ i := fun e he hb heq => by
        have h1 := hall e he hb
        have h0 := (mem_ready.1 hr).1
        rw [heq] at h1
        rcases Nat.lt_or_ge i listed.size with h' | h'
        · simp [h'] at h0 h1; rw [h0] at h1; cases h1
        · simp [Array.getElem?_eq_none h'] at h1
      have h2 := wpOp_putIf hoj (hfree j oj hoj hji hjun hnot) (fun cs b => hsel i oi cs b hi) (fun cs b => hsel j oj cs b hoj) hQ hy h1
      have hfree' : ∀ k ok, ops[k]? = some ok → k ≠ i → (listed.setIfInBounds j true).getD k true = false →
          (∀ e ∈ ok.after, Region.binds md e = true → e.on ≠ i) → oi.apart ops ok = true := fun k ok hk hki hun hno => by
        refine hfree k ok hk hki ?_ hno
        by_cases hjk : j = k
        · subst hjk; exact hjun
        · rw [getD_set_ne true hjk] at hun; exact hun
      obtain ⟨hI', hRk⟩ := hI listed j (mem_ready.1 hr).1 hIl hj hji
      refine wpOp_mono (fun a' w' h3 => ?_) h2
      have hU := h3.2.1
      have hU' := hU.step hki
      refine ⟨hU', ih (listed.setIfInBounds j true) a' w' hI' hfree' (ready_mono hr (Ne.symm hji)) h3.1 (hRk w' hU') ?_ ?_⟩
      · rw [Array.setIfInBounds_comm _ _ hji]; exact hU
      · rw [Array.setIfInBounds_comm _ _ hji]; exact h3.2.2
/-- take number i first: it yields in every world that meets S -/
theorem wpAnyL_take {i : Nat} {oi : Oper} {v : Value} {fuel : Nat} {listed : Array Bool} {a : Act} {w : World} (hi : ops[i]? = some oi) (hki : i ≠ k)
    (hs : Region.noSelect ops = true) (hf : Region.free md ops listed i = true) (hr : (Region.ready md ops listed).contains i = true)
    (hQ : ∀ c a w, Q (.panic c) (a.put oi.dst v) w → Q (.panic c) a w) (hy : YieldsIf P ops S oi v a) (hS : Until S S' k listed w)
    (h : Until S S' k (listed.setIfInBounds i true) w → wpAnyL P md ops Q S S' k fuel (listed.setIfInBounds i true) (a.put oi.dst v) w) : wpAnyL P md ops Q S S' k (fuel + 1) listed a w := by
  have hU : Until S S' k (listed.setIfInBounds i true) w := ⟨hS.1, fun hk => hS.2 (by rw [getD_set_ne true hki] at hk; exact hk)⟩
  exact wpAnyL_first (R := S) hi hki (Region.noSelect_spec hs) hQ (fun _ => True) (fun _ _ _ _ _ _ => ⟨trivial, fun _ h => h.1⟩) fuel listed a w trivial (Region.free_spec hi hf) (by simpa using hr) hy hS.1 hU (h hU)
/-- take number i first: it yields in every world that meets S'; number m waits for it, and number k for m -/
theorem wpAnyL_load {i m : Nat} {oi om ok : Oper} {v : Value} {fuel : Nat} {listed : Array Bool} {a : Act} {w : World} (hi : ops[i]? = some oi) (hki : i ≠ k)
    (hs : Region.noSelect ops = true) (hf : Region.free md ops listed i = true) (hr : (Region.ready md ops listed).contains i = true)
    (hom : ops[m]? = some om) (hok : ops[k]? = some ok) (hmi : om.after.any (fun e => Region.binds md e && (e.on == i)) = true) (hkm : ok.after.any (fun e => Region.binds md e && (e.on == m)) = true)
    (hlm : listed.getD m true = false) (hlk : listed.getD k true = false)
    (hQ : ∀ c a w, Q (.panic c) (a.put oi.dst v) w → Q (.panic c) a w) (hy : YieldsIf P ops S' oi v a) (hS : Until S S' k listed w)
    (h : Until S S' k (listed.setIfInBounds i true) w → wpAnyL P md ops Q S S' k fuel (listed.setIfInBounds i true) (a.put oi.dst v) w) : wpAnyL P md ops Q S S' k (fuel + 1) listed a w := by
  have hU : Until S S' k (listed.setIfInBounds i true) w := ⟨hS.1, fun hk => hS.2 (by rw [getD_set_ne true hki] at hk; exact hk)⟩
  have waits : ∀ {x y : Nat} {ox : Oper} {listed : Array Bool}, ops[x]? = some ox → ox.after.any (fun e => Region.binds md e && (e.on == y)) = true → listed.getD y true = false → x ∉ Region.ready md ops listed := by
    intro x y ox L hx ha hy hr
    obtain ⟨_, o, ho, hall⟩ := mem_ready.1 hr
    rw [hx] at ho
    cases ho
    obtain ⟨e, he, hb⟩ := Array.any_eq_true'.1 ha
    simp only [Bool.and_eq_true, beq_iff_eq] at hb
    have := hall e he hb.1
    rw [hb.2] at this
    rcases Nat.lt_or_ge y L.size with h' | h'
    · simp [h'] at this hy; rw [hy] at this; cases this
    · simp [Array.getElem?_eq_none h'] at this
  refine wpAnyL_first (R := S') hi hki (Region.noSelect_spec hs) hQ (fun L => L.getD m true = false ∧ L.getD k true = false) ?_ fuel listed a w ⟨hlm, hlk⟩ (Region.free_spec hi hf) (by simpa using hr) hy (hS.2 hlk) hU (h hU)
  intro L j hLi ⟨h1, h2⟩ hj hji
  have hjm : j ≠ m := fun e => waits hom hmi hLi (e ▸ hj)
  have hjk : j ≠ k := fun e => waits hok hkm h1 (e ▸ hj)
  refine ⟨⟨by rw [getD_set_ne true hjm]; exact h1, by rw [getD_set_ne true hjk]; exact h2⟩, fun w hw => hw.2 (by rw [getD_set_ne true hjk]; exact h2)⟩
theorem wpAnyL_done {listed : Array Bool} {a : Act} {w : World} (hr : Region.ready md ops listed = []) (h : Q .normal a w) :
    ∀ fuel, wpAnyL P md ops Q S S' k fuel listed a w
  | 0 => ⟨hr, h⟩
  | _ + 1 => ⟨fun _ => h, by rw [hr]; simp⟩
/-- the one operation that may come up comes up -/
theorem wpAnyL_only {i : Nat} {o : Oper} {fuel : Nat} {listed : Array Bool} {a : Act} {w : World} (hr : Region.ready md ops listed = [i]) (ho : ops[i]? = some o)
    (h : ∀ K' : Act → World → Prop, Shut (∀ a w, Until S S' k (listed.setIfInBounds i true) w → (Until S S' k (listed.setIfInBounds i true) w → wpAnyL P md ops Q S S' k fuel (listed.setIfInBounds i true) a w) → K' a w) → if Region.wanted o (yielded ops a.tmps) = true then Oper.wp P o a w K' Q else K' (a.put o.dst undef) w) :
    wpAnyL P md ops Q S S' k (fuel + 1) listed a w := by
  refine ⟨fun h0 => (by rw [hr] at h0; cases h0), fun j hj => ?_⟩
  rw [hr] at hj
  simp at hj
  subst hj
  exact wpOp_step ho (fun K' hK => h K' (fun a w hS hW => hK a w ⟨hS, hW hS⟩))
theorem wp_region_until (S S' : World → Prop) (k : Nat) {id : Nat} {a : Act} {w : World} (hm : P.follows .mixedOrders = true) (hS : S w.drew) (hS' : S' w.drew)
    (h : Until S S' k (Array.replicate ops.size false) w.drew → wpAnyL P .any ops Q S S' k ops.size (Array.replicate ops.size false) a w.drew) : (Code.region id ops true).wp P Q a w :=
  wp_region_any hm (wpAny_of_until _ _ _ _ (h ⟨hS, fun _ => hS'⟩))
end
end Go.Proofs.Ytglgkocjdockdaa
/- A region that draws, with a store at its end: several operations may come up. -/
namespace Go.Proofs.Ytglgkocjdockdaa
open Go Go.RowKit

section
variable {P : Program} {ops : Array Oper} {Q : Exit → Act → World → Prop} {md : Region.Mode} {S S' : World → Prop} {k : Nat}
/-- each of the operations that may come up comes up next -/
def AllReadyL (P : Program) (md : Region.Mode) (ops : Array Oper) (Q : Exit → Act → World → Prop) (S S' : World → Prop) (k fuel : Nat) (listed : Array Bool) (a : Act) (w : World) (rs : List Nat) : Prop :=
  ∀ i ∈ rs, wpOp P ops Q i (fun a' w' => Until S S' k (listed.setIfInBounds i true) w' ∧ wpAnyL P md ops Q S S' k fuel (listed.setIfInBounds i true) a' w') a w
theorem AllReadyL.nil {fuel : Nat} {listed : Array Bool} {a : Act} {w : World} : AllReadyL P md ops Q S S' k fuel listed a w [] := fun _ h => by cases h
theorem AllReadyL.cons {fuel : Nat} {listed : Array Bool} {a : Act} {w : World} {i : Nat} {o : Oper} {rs : List Nat} (ho : ops[i]? = some o)
    (h : ∀ K' : Act → World → Prop, Shut (∀ a w, Until S S' k (listed.setIfInBounds i true) w → (Until S S' k (listed.setIfInBounds i true) w → wpAnyL P md ops Q S S' k fuel (listed.setIfInBounds i true) a w) → K' a w) → if Region.wanted o (yielded ops a.tmps) = true then Oper.wp P o a w K' Q else K' (a.put o.dst undef) w)
    (hs : AllReadyL P md ops Q S S' k fuel listed a w rs) : AllReadyL P md ops Q S S' k fuel listed a w (i :: rs) := fun j hj => by
  rcases List.mem_cons.1 hj with rfl | hj
  · exact wpOp_step ho (fun K' hK => h K' (fun a w hS hW => hK a w ⟨hS, hW hS⟩))
  · exact hs j hj
theorem wpAnyL_ready {rs : List Nat} {fuel : Nat} {listed : Array Bool} {a : Act} {w : World} (hr : Region.ready md ops listed = rs) (hne : rs ≠ [])
    (h : AllReadyL P md ops Q S S' k fuel listed a w rs) : wpAnyL P md ops Q S S' k (fuel + 1) listed a w :=
  ⟨fun h0 => absurd (hr ▸ h0) hne, hr ▸ h⟩
end
end Go.Proofs.Ytglgkocjdockdaa
/- ViewOf: the specification's view: the steps. -/
namespace Go.Proofs.Ytglgkocjdockdaa
open Go.RowKit
attribute [local go_sem ↓] Go.wp_at_zero Go.wp_at_succ

set_option maxRecDepth 100000 in
theorem l03Ill_any (c : Int) (w : World) :
    Calls Try.prog 79 #[.int .i64 c] w fun e w' => e = .returned (.agg #[.slice none 0 0, .slice none 0 0, .int .i64 c]) ∧ Below w.heap.size w w' := by
  go_enter Try.func79, Try.ntmps79
  go_wp2
  exact bodyPost_ret (v := .agg #[.slice none 0 0, .slice none 0 0, .int .i64 c]) (by simp [results, Try.results79, go_sem]) rfl ⟨rfl, more' (Below.refl _ _) _⟩

theorem grown_set (w : World) (R j : Nat) (x : Value) : w.grownBy (w.setCell ⟨R, j, none⟩ x) (some R) :=
  ⟨rfl, rfl, rfl, by rw [setCell_size]; exact Nat.le_refl _, fun k hk hne => Below.heap_setCell _ _ _ _ (fun e => hne (by rw [show R = k from e.symm]))⟩
theorem own_cellOut {w : World} {B e z n R j : Nat} {v x : Value} {xs : List Value} (h : w.ownsRow B e z v n xs) (hR : R < B) : (w.setCell ⟨R, j, none⟩ x).ownsRow B e z v n xs := by
  refine h.kept (grown_set w R j x) ?_
  cases hu : v.ownBlock with
  | none => exact .inl rfl
  | some g =>
    right
    intro e
    injection e with e
    have := (h.lt g hu).1
    omega
theorem Grow.cellOut {α : Type} {e : Enc α} {T : TypeId} {B R j : Nat} {w : World} {v x : Value} {l : List α} {xs : List Value} (h : Grow e T B w v l xs) (hR : R < B) : Grow e T B (w.setCell ⟨R, j, none⟩ x) v l xs := by
  obtain ⟨hr, P, h1, h2, h3⟩ := h
  refine ⟨own_cellOut hr hR, P, fun i hi => ⟨fun b hx => ⟨((h1 i hi).1 b hx).1, by rw [setCell_size]; exact ((h1 i hi).1 b hx).2⟩, (h1 i hi).2⟩, h2, fun i hi => ?_⟩
  obtain ⟨cs, q1, q2⟩ := h3 i hi
  exact ⟨cs, q1, e.ownFrame q2 (Same.set _ j x (fun hx => by have := ((h1 i hi).1 R hx).1; omega))⟩
theorem Blk.low {w w' : World} {g N : Nat} {cs : List Value} (h : Blk w g cs) (hb : Below N w w') (hg : g < N) : Blk w' g cs := by
  obtain ⟨T, ht⟩ := h
  exact ⟨T, (hb.block g hg).trans ht⟩
section
variable {ops : Array Oper} {o : Oper} {a : Act} {Q : Exit → Act → World → Prop} {K : Act → World → Prop} {E : Prop} {w3 : World}
/-- append([]string{}, texts...) in a drawn region -/
theorem step_texts (B : Nat) (hgd : o.guard = none) (s x : Operand)
    (ho : o.op = .call { callee := .builtin .append, args := #[s, x], argTypes := #[61, 61] }) (v : Value) (hs : a.eval s = v) (hown : w3.ownsRow B 9 1 v 0 [])
    (ao : Option Addr) (d : List ByteArray) (c : Nat) (hx : a.eval x = .slice ao d.length c) (hd : StrsAt w3 ao d) (hc : ao = none → c = 0) (hlen : d.length ≤ 1000000000) (hB : B ≤ w3.heap.size)
    (h : ∀ v' w', w'.ownsRow B 9 1 v' d.length (d.map Value.string) → w3.grownBy w' v.ownBlock → K (a.put o.dst v') w') :
    if Region.wanted o (yielded ops a.tmps) = true then Oper.wp Try.prog o a w3 K Q else E := by
  have hw : Region.wanted o (yielded ops a.tmps) = true := by simp [Region.wanted, hgd]
  rw [if_pos hw]
  obtain ⟨i0, hi, hz0, hz1, hz2⟩ := info_parts Try.info9
  rcases ao with _ | ad
  · have hd0 : d = [] := by
      rcases hd with h | ⟨b, off, e, _⟩
      · exact h
      · cases e
    subst hd0
    have := hc rfl
    subst this
    have hrun := run_append_owned_none (P := Try.prog) (w := w3) B 61 o.type 9 i0 1 Try.underlying61 hi v 0 [] hown
    unfold Oper.wp execOp
    simp only [ho, resolve, invoke, builtin, Sem.run_bind, Sem.run_pure, Result.andThen_ok, List.map_toArray, List.map_cons, List.map_nil, hs, hx]
    erw [hrun]
    exact h v w3 hown ⟨rfl, rfl, rfl, Nat.le_refl _, fun _ _ _ => rfl⟩
  · have hnews : ∀ j u, (d.map Value.string)[j]? = some u → w3.cell? (ad.add j) = some u := by
      rcases hd with hd | ⟨b, off, e, h2, h3⟩
      · subst hd; intro j u hu; simp at hu
      · cases e
        intro j u hu
        have ea : (⟨b, off, none⟩ : Addr).add j = ⟨b, off + j, none⟩ := by unfold Addr.add; split <;> simp_all
        rw [ea]
        rw [List.getElem?_map] at hu
        by_cases hj : j < d.length
        · rw [List.getElem?_eq_getElem hj] at hu
          cases hu
          exact h3 j hj
        · rw [List.getElem?_eq_none (by omega)] at hu; cases hu
    refine wp_append_own _ s x 61 ho B 9 i0 _ 1 16 Try.underlying61 hi hz0 hz1 hz2 rfl (by decide) v 0 [] hs hown ad d.length c (d.map Value.string) hx (by simp) hnews (by intro u hu; obtain ⟨t, _, rfl⟩ := List.mem_map.1 hu; rfl) ?_ ?_ hB ?_
    · unfold maxLen; omega
    · omega
    · intro v' w' h1 h2 h3
      rw [Nat.zero_add] at h1
      exact h v' w' h1 h2
/-- append(attrs, x) in a drawn region -/
theorem step_attr (B : Nat) (hgd : o.guard = none) (s x : Operand)
    (ho : o.op = .call { callee := .builtin .append, args := #[s, x], argTypes := #[40, 40] }) (v : Value) (n : Nat) (xs : List Value) (hs : a.eval s = v) (hown : w3.ownsRow B 83 2 v n xs)
    (A : ByteArray) (p : Option Addr) (m c : Nat) (hx : a.eval x = .slice (some ⟨w3.heap.size, 0, none⟩) 1 1) (hlen : n ≤ 100000000) (hB : B ≤ w3.heap.size)
    (h : ∀ g cap w', w'.ownsRow B 83 2 (.slice (some ⟨g, 0, none⟩) (n + 1) cap) (n + 1) (xs ++ [.string A, .slice p m c]) → (w3.alloc (.cells #[.string A, .slice p m c] 83)).grownBy w' v.ownBlock → (v.ownBlock = some g ∨ g = w3.heap.size + 1) → K (a.put o.dst (.slice (some ⟨g, 0, none⟩) (n + 1) cap)) w') :
    if Region.wanted o (yielded ops a.tmps) = true then Oper.wp Try.prog o a (w3.alloc (.cells #[.string A, .slice p m c] 83)) K Q else E := by
  obtain ⟨i0, hi, hz0, hz1, hz2⟩ := info_parts Try.infoTAttr
  refine step_append_lies _ hgd s x 40 ho B 83 i0 _ 2 40 Try.underlying40 hi hz0 hz1 hz2 rfl (by decide) v n xs hs (hown.alloc _) ⟨w3.heap.size, 0, none⟩ 1 1 [.string A, .slice p m c] hx rfl (World.news_of_block (cs := #[.string A, .slice p m c]) (t := 83) (fr := (0, 0)) (heap_alloc_new _ _)) ?_ (by omega) ?_ ?_ ?_ (w3.heap.size + 1) (by simp) ?_
  · intro u hu; simp at hu; rcases hu with rfl | rfl <;> rfl
  · unfold maxLen; omega
  · omega
  · simp; omega
  · intro g cap w' h1 h2 h3 _
    exact h g cap w' h1 h2 h3
end
end Go.Proofs.Ytglgkocjdockdaa
/- The helpers of the laws: copies. -/
namespace Go.Proofs.Ytglgkocjdockdaa
open Go.RowKit
attribute [local go_sem ↓] Go.wp_at_zero Go.wp_at_succ

theorem Try.infoTRdn : (Try.prog.info? 104).map (fun i => (i.zero, i.size, i.bytes)) = some (some (.agg #[.string ByteArray.empty, .string ByteArray.empty]), 2, 32) := by kernel_rfl
theorem mkRdn (n : Nat) (hn : n ≤ 1048576) (W : World) : ∃ C : Array Value, C.size = n * 2 ∧
    (Instr.makeSlice 32 (.int .i64 (n : Int)) (.int .i64 (n : Int))).run Try.prog W = .ok (.slice (some ⟨W.heap.size, 0, none⟩) n n) (W.alloc (.cells C 104)) := by
  obtain ⟨i0, hi, hz0, hz1, hz2⟩ := info_parts Try.infoTRdn
  have := run_make (P := Try.prog) W 32 104 i0 _ Try.underlying32 hi hz0 .i64 .i64 (n : Int) (n : Int) (by omega) (by omega) (by rw [hz2]; omega) (by omega)
  rw [hz1] at this
  refine ⟨madeCells (Value.cells (.agg #[.string ByteArray.empty, .string ByteArray.empty])) (n * 2), size_madeCells _ _, ?_⟩
  simpa using this
set_option maxRecDepth 100000 in
set_option maxHeartbeats 4000000 in
theorem toRdn_at  (a0 : ByteArray) (a1 : ByteArray)  (w : World)   :
    Calls Try.prog 74 #[.agg #[.string a0, .string a1]] w fun e w' => e = .returned (.agg #[.string a0, .string a1]) ∧ rdnE.Own (Fresh w w') w' (a0, a1) [.string a0, .string a1] ∧ Below w.heap.size w w' := by
  go_enter Try.func74, Try.ntmps74
  go_wp2
  refine bodyPost_ret (v := .agg #[.string a0, .string a1]) (by simp [results, Try.results74, go_sem]) rfl ⟨rfl, ?_, ?_⟩
  · exact rdn_pack a0 a1 trivial
  · exact more' (more' (more' (Below.refl _ _) _) _) _
set_option maxRecDepth 100000 in
set_option maxHeartbeats 4000000 in
theorem toRdnS_at {S : Bs} (v : Value) (d : List RdnT) (w : World) (hd : SlAt rdnE S w d v) (hz : d.length + szL rdnE d ≤ 1048576) :
    Calls Try.prog 19 #[v] w fun e w' => ∃ u, e = .returned u ∧ SlOwn rdnE (Fresh w w') w' d u ∧ Below w.heap.size w w' := by
  obtain ⟨ao, cap, rfl⟩ := hd.sl
  have HD := Lib.hid hd; clear hd
  have HL := Lib.hid hz
  have hl : d.length ≤ 1048576 := by omega
  clear hz
  obtain ⟨C, hC, hmk⟩ := mkRdn d.length hl w
  have HC := Lib.hid hC; clear hC
  go_enter Try.func19, Try.ntmps19
  go_wp2
  clear hmk
  go_loopw [4] (fun i wr => ∃ k : Nat, k ≤ d.length ∧ i = .int .i64 k ∧ Build rdnE wr w.heap.size d.length (d.take k) ∧ Below w.heap.size w wr) (fun i _ => d.length - (intOf i).toNat)
  case atStart => exact ⟨0, Nat.zero_le _, rfl, Build.new _ _ _ _ HC.out, (Below.refl _ _).alloc (Nat.le_refl _) _⟩
  case round =>
    obtain ⟨k, hk, rfl, hR, hbel⟩ := hrel
    have HR := Lib.hid hR; clear hR
    have hsz := hbel.size
    by_cases hlt : k < d.length
    · obtain ⟨b, off, a0, a1, rfl, _, hb0, hx, ⟨hc0, hc1⟩, _⟩ := rdn_row (HD.out.frame (Same.of_below' hbel)) hlt
      have HT : Hid (d.take (k + 1) = d.take k ++ [(a0, a1)]) := Lib.hid (by rw [List.take_succ_eq_append_getElem hlt, hx])
      have HK : Hid ((d.take k).length = k) := Lib.hid (by rw [List.length_take]; omega)
      have HZ : Hid (rdnE.sz (a0, a1) ≤ 1048576) := Lib.hid (by have h1 := szL_mem rdnE (List.getElem_mem hlt); rw [hx] at h1; have := HL.out; omega)
      clear hx
      go_wp2_with fail
      refine (toRdn_at a0 a1 wr ).mono ?_
      rintro e w2 ⟨rfl, hq, hb2⟩
      have HR2 := Lib.hid (HR.out.below hb2)
      have B2 := Lib.hid (hbel.trans (hb2.mono hsz))
      have HQ := Lib.hid hq
      have HB := Lib.hid hb2
      clear hb2 hq hc0 hc1
      obtain ⟨x0, c0⟩ := HR2.out.cell (k := k) (u := 0) hlt (by decide)
      have c0 : w2.cell? ⟨w.heap.size, k * 2, none⟩ = some x0 := c0
      have f0 := HR2.out.soft (k * 2)
      obtain ⟨x1, c1⟩ := HR2.out.cell (k := k) (u := 1) hlt (by decide)
      have c1 : w2.cell? ⟨w.heap.size, k * 2 + 1, none⟩ = some x1 := c1
      have f1 := HR2.out.soft (k * 2 + 1)
      go_wp2
      go_roundw
      case rel => exact ⟨k + 1, by omega, by go_num, by rw [HT.out]; exact HR.out.row (o := k * 2) (cs := [.string a0, .string a1]) (by rw [HK.out]; exact hlt) (by rw [HK.out]; rfl) HB.out HQ.out, ((B2.out.setCell (Nat.le_refl _) _).setCell (Nat.le_refl _) _)⟩
      case measure => simp [intOf]; omega
    · have e : d.take k = d := List.take_of_length_le (by omega)
      rw [e] at HR
      clear e
      go_wp2
      go_ret
      exact ⟨_, rfl, HR.out.own, hbel⟩
end Go.Proofs.Ytglgkocjdockdaa
/- The helpers of the laws: copies. -/
namespace Go.Proofs.Ytglgkocjdockdaa
open Go.RowKit
attribute [local go_sem ↓] Go.wp_at_zero Go.wp_at_succ

theorem Try.infoTEntry : (Try.prog.info? 42).map (fun i => (i.zero, i.size, i.bytes)) = some (some (.agg #[.slice none 0 0, .slice none 0 0]), 2, 48) := by kernel_rfl
theorem mkEntry (n : Nat) (hn : n ≤ 1048576) (W : World) : ∃ C : Array Value, C.size = n * 2 ∧
    (Instr.makeSlice 55 (.int .i64 (n : Int)) (.int .i64 (n : Int))).run Try.prog W = .ok (.slice (some ⟨W.heap.size, 0, none⟩) n n) (W.alloc (.cells C 42)) := by
  obtain ⟨i0, hi, hz0, hz1, hz2⟩ := info_parts Try.infoTEntry
  have := run_make (P := Try.prog) W 55 42 i0 _ Try.underlying55 hi hz0 .i64 .i64 (n : Int) (n : Int) (by omega) (by omega) (by rw [hz2]; omega) (by omega)
  rw [hz1] at this
  refine ⟨madeCells (Value.cells (.agg #[.slice none 0 0, .slice none 0 0])) (n * 2), size_madeCells _ _, ?_⟩
  simpa using this
set_option maxRecDepth 100000 in
set_option maxHeartbeats 4000000 in
theorem toEntry_at {S : Bs} (a0 : (List RdnT)) (a1 : (List AttrT)) (v0 v1 : Value) (w : World) (h0 : SlAt rdnE S w a0 v0) (h1 : SlAt attrE S w a1 v1) (hz : entryE.sz (a0, a1) ≤ 1048576) :
    Calls Try.prog 24 #[.agg #[v0, v1]] w fun e w' => ∃ u0 u1, e = .returned (.agg #[u0, u1]) ∧ entryE.Own (Fresh w w') w' (a0, a1) [u0, u1] ∧ Below w.heap.size w w' := by
  have HE : entryE.sz (a0, a1) = (a0.length + szL rdnE a0) + ((a1.length + szL attrE a1)) := rfl
  rw [HE] at hz
  have C0 : Hid (∀ W : World, Below w.heap.size w W → Calls Try.prog 19 #[v0] W fun e w' => ∃ u, e = .returned u ∧ SlOwn rdnE (Fresh W w') w' a0 u ∧ Below W.heap.size W w') := Lib.hid (fun W b => toRdnS_at v0 a0 W (h0.frame (Same.of_below' b)) (by omega))
  have C1 : Hid (∀ W : World, Below w.heap.size w W → Calls Try.prog 82 #[v1] W fun e w' => ∃ u, e = .returned u ∧ SlOwn attrE (Fresh W w') w' a1 u ∧ Below W.heap.size W w') := Lib.hid (fun W b => toAttrS_at v1 a1 W (h1.frame (Same.of_below' b)) (by omega))
  obtain ⟨o0, k0, rfl⟩ := h0.sl
  obtain ⟨o1, k1, rfl⟩ := h1.sl
  clear hz HE h0 h1
  go_enter Try.func24, Try.ntmps24
  go_wp2_with fail
  refine calls_by (fun W => Below w.heap.size w W ∧ Blk W w.heap.size [.slice o0 a0.length k0, .slice o1 a1.length k1] ∧ Blk W (w.heap.size + 1) [.slice none 0 0, .slice none 0 0] ∧ Blk W (w.heap.size + 1 + 1) [.slice none 0 0, .slice none 0 0]) ⟨more' (more' (more' (Below.refl _ _) _) _) _, ((Blk.new _ _ _).alloc _).alloc _, (blk_at _ _ _ (by simp)).alloc _, blk_at _ _ _ (by simp)⟩ ?_
  rintro W0 ⟨b0, t0, r0, s0⟩
  have hn : w.heap.size + 1 + 1 < W0.heap.size := s0.lt
  refine (C0.out W0 b0).mono ?_
  rintro e y1 ⟨u0, rfl, q0, hb⟩
  obtain ⟨p0, j0, rfl⟩ := q0.at.sl
  have T := Lib.hid (t0.below hb); have Rr := Lib.hid (r0.below hb); have U := Lib.hid (s0.below hb); have B := Lib.hid (b0.trans (hb.mono b0.size)); have hs1 := hb.size
  have Q0 := Lib.hid q0
  clear t0 r0 s0 b0 hb q0 C0
  have m0 := T.out.cell 0 rfl
  have c0 := U.out.cell 0 rfl
  have f0 := U.out.soft 0
  have m1 := T.out.cell 1 rfl
  have c1 := U.out.cell 1 rfl
  have f1 := U.out.soft 1
  go_wp2_with fail
  have hW : y1.heap.size = y1.heap.size := rfl
  refine calls_by (fun W => y1.heap.size ≤ W.heap.size ∧ Below w.heap.size w W ∧ Blk W w.heap.size [.slice o0 a0.length k0, .slice o1 a1.length k1] ∧ Blk W (w.heap.size + 1) [.slice none 0 0, .slice none 0 0] ∧ Blk W (w.heap.size + 1 + 1) [.slice p0 a0.length j0, .slice none 0 0] ∧ SlOwn rdnE (Fresh W0 y1) W a0 (.slice p0 a0.length j0)) ⟨by simp [World.setCell], (B.out.setCell (p := ⟨w.heap.size + 1 + 1, 0, none⟩) (by show w.heap.size ≤ w.heap.size + 1 + 1; omega) _), (T.out.far (by omega) _), (Rr.out.far (by omega) _), (U.out.set 0 _), (Q0.out.frame (Same.set _ _ _ (by intro h; have := h.1; omega)))⟩ ?_
  clear T Rr U B Q0
  rintro W1 ⟨hl1, b1, t1, r1, s1, q0⟩
  have Q0 := Lib.hid q0; clear q0
  refine (C1.out W1 b1).mono ?_
  rintro e y2 ⟨u1, rfl, q1, hb⟩
  obtain ⟨p1, j1, rfl⟩ := q1.at.sl
  have T := Lib.hid (t1.below hb); have Rr := Lib.hid (r1.below hb); have U := Lib.hid (s1.below hb); have B := Lib.hid (b1.trans (hb.mono b1.size)); have hs2 := hb.size
  have Q1 := Lib.hid q1
  have Q0 := Lib.hid (Q0.out.frame (Same.of_below' hb))
  clear t1 r1 s1 b1 hb q1 C1
  clear c0 f0 m0 c1 f1 m1
  have m0 := T.out.cell 0 rfl
  have c0 := U.out.cell 0 rfl
  have f0 := U.out.soft 0
  have m1 := T.out.cell 1 rfl
  have c1 := U.out.cell 1 rfl
  have f1 := U.out.soft 1
  have TE := (((Rr.out.far (R := w.heap.size + 1 + 1) (j := 1) (by omega) (.slice p1 a1.length j1)).set 0 (.slice p0 a0.length j0)).set 1 (.slice p1 a1.length j1))
  have d0 := Rr.out.cell 0 rfl
  have g0 := Rr.out.soft 0
  have k100 := TE.cell 0 rfl
  have d1 := Rr.out.cell 1 rfl
  have g1 := Rr.out.soft 1
  have k101 := TE.cell 1 rfl
  clear TE
  go_wp2_with fail
  refine bodyPost_ret (v := .agg #[.slice p0 a0.length j0, .slice p1 a1.length j1]) (by simp [results, Try.results24, go_sem, k100, k101]) rfl ⟨_, _, rfl, ?_, ?_⟩
  · exact entry_pack a0 a1 _ _ (Fresh W0 y1) (Fresh W1 y2) ⟨(((Q0.out.frame (Same.set _ _ _ (by intro h; have := h.1; omega))).frame (Same.set _ _ _ (by intro h; have := h.1; omega))).frame (Same.set _ _ _ (by intro h; have := h.1; omega))), (fun k z => ⟨by have := z.1; omega, by have := z.2; show _ < (World.heap _).size; simp only [setCell_size]; omega⟩), (((Q1.out.frame (Same.set _ _ _ (by intro h; have := h.1; omega))).frame (Same.set _ _ _ (by intro h; have := h.1; omega))).frame (Same.set _ _ _ (by intro h; have := h.1; omega))), (fun k z => ⟨by have := z.1; omega, by have := z.2; show _ < (World.heap _).size; simp only [setCell_size]; omega⟩), (fun k z y => by have := z.2; have := y.1; omega), trivial⟩
  · exact (((B.out.setCell (p := ⟨w.heap.size + 1 + 1, 1, none⟩) (by show w.heap.size ≤ w.heap.size + 1 + 1; omega) _).setCell (p := ⟨w.heap.size + 1, 0, none⟩) (by show w.heap.size ≤ w.heap.size + 1; omega) _).setCell (p := ⟨w.heap.size + 1, 1, none⟩) (by show w.heap.size ≤ w.heap.size + 1; omega) _)
set_option maxRecDepth 100000 in
set_option maxHeartbeats 4000000 in
theorem toEntryS_at {S : Bs} (v : Value) (d : List EntryT) (w : World) (hd : SlAt entryE S w d v) (hz : d.length + szL entryE d ≤ 1048576) :
    Calls Try.prog 34 #[v] w fun e w' => ∃ u, e = .returned u ∧ SlOwn entryE (Fresh w w') w' d u ∧ Below w.heap.size w w' := by
  obtain ⟨ao, cap, rfl⟩ := hd.sl
  have HD := Lib.hid hd; clear hd
  have HL := Lib.hid hz
  have hl : d.length ≤ 1048576 := by omega
  clear hz
  obtain ⟨C, hC, hmk⟩ := mkEntry d.length hl w
  have HC := Lib.hid hC; clear hC
  go_enter Try.func34, Try.ntmps34
  go_wp2
  clear hmk
  go_loopw [4] (fun i wr => ∃ k : Nat, k ≤ d.length ∧ i = .int .i64 k ∧ Build entryE wr w.heap.size d.length (d.take k) ∧ Below w.heap.size w wr) (fun i _ => d.length - (intOf i).toNat)
  case atStart => exact ⟨0, Nat.zero_le _, rfl, Build.new _ _ _ _ HC.out, (Below.refl _ _).alloc (Nat.le_refl _) _⟩
  case round =>
    obtain ⟨k, hk, rfl, hR, hbel⟩ := hrel
    have HR := Lib.hid hR; clear hR
    have hsz := hbel.size
    by_cases hlt : k < d.length
    · obtain ⟨b, off, a0, a1, v0, v1, rfl, _, hb0, hx, ⟨hc0, hc1⟩, s0, s1, _⟩ := entry_row (HD.out.frame (Same.of_below' hbel)) hlt
      have HT : Hid (d.take (k + 1) = d.take k ++ [(a0, a1)]) := Lib.hid (by rw [List.take_succ_eq_append_getElem hlt, hx])
      have HK : Hid ((d.take k).length = k) := Lib.hid (by rw [List.length_take]; omega)
      have HZ : Hid (entryE.sz (a0, a1) ≤ 1048576) := Lib.hid (by have h1 := szL_mem entryE (List.getElem_mem hlt); rw [hx] at h1; have := HL.out; omega)
      clear hx
      have HV0 := Lib.hid s0; clear s0
      have HV1 := Lib.hid s1; clear s1
      obtain ⟨o0, k0, rfl⟩ := HV0.out.sl
      obtain ⟨o1, k1, rfl⟩ := HV1.out.sl
      go_wp2_with fail
      refine (toEntry_at a0 a1 _ _ wr HV0.out HV1.out HZ.out).mono ?_
      rintro e w2 ⟨u0, u1, rfl, hq, hb2⟩
      have HR2 := Lib.hid (HR.out.below hb2)
      have B2 := Lib.hid (hbel.trans (hb2.mono hsz))
      have HQ := Lib.hid hq
      have HB := Lib.hid hb2
      clear hb2 hq hc0 hc1
      have hsl := entry_sl HQ.out rfl
      obtain ⟨⟨p0, l0, j0, rfl⟩, ⟨p1, l1, j1, rfl⟩⟩ := hsl
      obtain ⟨x0, c0⟩ := HR2.out.cell (k := k) (u := 0) hlt (by decide)
      have c0 : w2.cell? ⟨w.heap.size, k * 2, none⟩ = some x0 := c0
      have f0 := HR2.out.soft (k * 2)
      obtain ⟨x1, c1⟩ := HR2.out.cell (k := k) (u := 1) hlt (by decide)
      have c1 : w2.cell? ⟨w.heap.size, k * 2 + 1, none⟩ = some x1 := c1
      have f1 := HR2.out.soft (k * 2 + 1)
      go_wp2
      go_roundw
      case rel => exact ⟨k + 1, by omega, by go_num, by rw [HT.out]; exact HR.out.row (o := k * 2) (cs := [.slice p0 l0 j0, .slice p1 l1 j1]) (by rw [HK.out]; exact hlt) (by rw [HK.out]; rfl) HB.out HQ.out, ((B2.out.setCell (Nat.le_refl _) _).setCell (Nat.le_refl _) _)⟩
      case measure => simp [intOf]; omega
    · have e : d.take k = d := List.take_of_length_le (by omega)
      rw [e] at HR
      clear e
      go_wp2
      go_ret
      exact ⟨_, rfl, HR.out.own, hbel⟩
end Go.Proofs.Ytglgkocjdockdaa
/- Laws whose result lies in memory: what a walk of them needs. -/
namespace Go.Proofs.Ytglgkocjdockdaa
open Go Go.RowKit

/-- what holds behind a statement, however its order was drawn -/
def OnlyNormal (F : Act → World → Prop) (e : Exit) (a : Act) (w : World) : Prop := match e with | .normal => F a w | _ => False
theorem region_join (F : Act → Act → World → Prop) {P : Program} {c : Code} {Q : Exit → Act → World → Prop} {a : Act} {w : World} (h : c.wp P (OnlyNormal (F a)) a w) (hq : ∀ a' w', F a a' w' → Q .normal a' w') : c.wp P Q a w :=
  Code.wp_mono (fun e a' w' he => by cases e <;> first | exact hq _ _ he | exact he.elim) h
theorem Blk.turn {S : Bs} {w w' : World} {g : Nat} {cs : List Value} (h : Blk w g cs) (ht : Turn S w w') (hg : ¬ S g) : Blk w' g cs := by
  have hl := h.lt
  obtain ⟨T, e⟩ := h
  exact ⟨T, (ht.block g hl hg).trans e⟩
theorem cnt_fit {α : Type} {e : Enc α} (l : List α) (hc : e.c ≤ 50) (h : l.length + szL e l ≤ 1048576) : cntL e l ≤ 52428800 := by
  have h1 := cntL_le e l
  have h2 : e.c * (l.length + szL e l) ≤ 50 * 1048576 := Nat.mul_le_mul hc h
  omega
end Go.Proofs.Ytglgkocjdockdaa
/- An owned entry and an owned answer, taken apart. -/
namespace Go.Proofs.Ytglgkocjdockdaa
open Go Go.RowKit
theorem entry_ownp {S : Bs} {w : World} {a0 : List RdnT} {a1 : List AttrT} {v0 v1 : Value} (h : entryE.Own S w (a0, a1) [v0, v1]) :
    ∃ S0 S1 : Bs, SlOwn rdnE S0 w a0 v0 ∧ (∀ k, S0 k → S k) ∧ SlOwn attrE S1 w a1 v1 ∧ (∀ k, S1 k → S k) ∧ ∀ k, S0 k → ¬ S1 k := by
  obtain ⟨b0, b1, y0, y1, S0, S1, e1, e2, q0, i0, q1, i1, d, _⟩ := entry_own h
  simp only [Prod.mk.injEq] at e1
  obtain ⟨rfl, rfl⟩ := e1
  simp only [List.cons.injEq, and_true] at e2
  obtain ⟨rfl, rfl⟩ := e2
  exact ⟨S0, S1, q0, i0, q1, i1, d⟩
theorem entryOut_ownp {S : Bs} {w : World} {a0 : List RdnT} {a1 : List AttrT} {a2 : Int} {v0 v1 : Value} (h : entryOutE.Own S w ((a0, a1), a2) [v0, v1, .int .i64 a2]) :
    ∃ S0 S1 : Bs, SlOwn rdnE S0 w a0 v0 ∧ (∀ k, S0 k → S k) ∧ SlOwn attrE S1 w a1 v1 ∧ (∀ k, S1 k → S k) ∧ ∀ k, S0 k → ¬ S1 k := by
  obtain ⟨b0, b1, b2, y0, y1, S0, S1, e1, e2, q0, i0, q1, i1, d, _⟩ := entryOut_own h
  simp only [Prod.mk.injEq] at e1
  obtain ⟨⟨rfl, rfl⟩, rfl⟩ := e1
  simp only [List.cons.injEq, and_true] at e2
  obtain ⟨rfl, rfl⟩ := e2
  exact ⟨S0, S1, q0, i0, q1, i1, d⟩
example : ruleE.c ≤ 50 := by decide
example : attrE.c ≤ 50 := by decide
end Go.Proofs.Ytglgkocjdockdaa
/- Visible: what the program returns. -/
namespace Go.Proofs.Ytglgkocjdockdaa
open Go.RowKit
attribute [local go_sem ↓] Go.wp_at_zero Go.wp_at_succ

noncomputable def codeV (l : List RuleT) (who : ByteArray) (e : EntryT) : Int := (viewR l who e.1 e.2).2
noncomputable def badV (l : List RuleT) (who : ByteArray) (e : EntryT) : Bool := decide (codeV l who e ≠ 0) && decide (codeV l who e ≠ 11)
noncomputable def visL (l : List RuleT) (who : ByteArray) (es : List EntryT) : List EntryT := (es.filter (fun e => decide (codeV l who e = 0))).map (fun e => (viewR l who e.1 e.2).1)
noncomputable def visR (l : List RuleT) (who : ByteArray) (es : List EntryT) : List EntryT := if 400 < es.length ∨ es.any (badV l who) = true then [] else visL l who es
theorem visL_snoc (l : List RuleT) (who : ByteArray) (es : List EntryT) (x : EntryT) : visL l who (es ++ [x]) = visL l who es ++ (if codeV l who x = 0 then [(viewR l who x.1 x.2).1] else []) := by
  unfold visL
  rw [List.filter_append, List.map_append]
  by_cases h : codeV l who x = 0 <;> simp [List.filter_cons, h]
section
variable {ops : Array Oper} {rest : List Oper} {o : Oper} {a : Act} {Q : Exit → Act → World → Prop} {w3 : World}
theorem append_entry (B : Nat) (hgd : o.guard = none) (s x : Operand)
    (ho : o.op = .call { callee := .builtin .append, args := #[s, x], argTypes := #[55, 55] }) (v : Value) (n : Nat) (xs : List Value) (hs : a.eval s = v) (hown : w3.ownsRow B 42 2 v n xs)
    (p p' : Option Addr) (m c m' c' N : Nat) (hN : N = w3.heap.size) (hx : a.eval x = .slice (some ⟨N, 0, none⟩) 1 1) (hlen : n ≤ 100000000) (hB : B ≤ w3.heap.size)
    (h : ∀ g cap w', w'.ownsRow B 42 2 (.slice (some ⟨g, 0, none⟩) (n + 1) cap) (n + 1) (xs ++ [.slice p m c, .slice p' m' c']) → (w3.alloc (.cells #[.slice p m c, .slice p' m' c'] 42)).grownBy w' v.ownBlock → (v.ownBlock = some g ∨ g = w3.heap.size + 1) → wpList Try.prog ops Q rest (a.put o.dst (.slice (some ⟨g, 0, none⟩) (n + 1) cap)) w') :
    wpList Try.prog ops Q (o :: rest) a (w3.alloc (.cells #[.slice p m c, .slice p' m' c'] 42)) := by
  subst hN
  obtain ⟨i0, hi, hz0, hz1, hz2⟩ := info_parts Try.infoTEntry
  refine wpList_append_lies _ hgd s x 55 ho B 42 i0 _ 2 48 Try.underlying55 hi hz0 hz1 hz2 rfl (by decide) v n xs hs (hown.alloc _) ⟨w3.heap.size, 0, none⟩ 1 1 [.slice p m c, .slice p' m' c'] hx rfl (World.news_of_block (cs := #[.slice p m c, .slice p' m' c']) (t := 42) (fr := (0, 0)) (heap_alloc_new _ _)) ?_ (by omega) ?_ ?_ ?_ (w3.heap.size + 1) (by simp) ?_
  · intro u hu; simp at hu; rcases hu with rfl | rfl <;> rfl
  · unfold maxLen; omega
  · omega
  · simp; omega
  · intro g cap w' h1 h2 h3 _
    exact h g cap w' h1 h2 h3
end
set_option maxRecDepth 100000 in
set_option maxHeartbeats 4000000 in
theorem Visible_any {S S1 : Bs} (v : Value) (d : List RuleT) (who : ByteArray) (es : List EntryT) (ev : Value) (w : World) (hL : SlAt ruleE S w d v) (he : SlAt entryE S1 w es ev)
    (hz : d.length + szL ruleE d ≤ 1048576) (hze : es.length + szL entryE es ≤ 1048576) (hw : who.size ≤ 1048576) :
    Calls Try.prog 35 #[v, .string who, ev] w fun e w' => (∃ u, e = .returned u ∧ SlOwn entryE (Fresh w w') w' (visR d who es) u) ∧ Below w.heap.size w w' := by
  have CV : Hid (∀ (W : World) (S2 S3 : Bs) (dn : RdnL) (at_ : List AttrT) (dv av : Value), Below w.heap.size w W → SlAt rdnE S2 W dn dv → SlAt attrE S3 W at_ av → entryE.sz (dn, at_) ≤ 1048576 → Calls Try.prog 25 #[v, .string who, .agg #[dv, av]] W (GivesView W (viewR d who dn at_))) := Lib.hid (fun W S2 S3 dn at_ dv av b h1 h2 z => ViewOf_any v d who dn at_ dv av W (hL.frame (Same.of_below' b)) h1 h2 hz z hw)
  obtain ⟨o1, k1, rfl⟩ := hL.sl
  obtain ⟨o3, k3, rfl⟩ := he.sl
  have HA := Lib.hid he
  have HZ : Hid (∀ x ∈ es, entryE.sz x ≤ 1048576) := Lib.hid (fun x h => by have h1 := szL_mem entryE h; omega)
  have hl : es.length ≤ 1048576 := by omega
  have HX1 : Hid (400 < es.length → visR d who es = []) := Lib.hid (fun h => by unfold visR; rw [if_pos (.inl h)])
  have HX2 : Hid (∀ x ∈ es, badV d who x = true → visR d who es = []) := Lib.hid (fun x hx h => by unfold visR; rw [if_pos (.inr (List.any_eq_true.2 ⟨x, hx, h⟩))])
  have HX3 : Hid (¬ 400 < es.length → (∀ x ∈ es, badV d who x = false) → visR d who es = visL d who es) := Lib.hid (fun h h2 => by
    unfold visR
    rw [if_neg]
    rintro (h3 | h3)
    · exact h h3
    · obtain ⟨x, hx, hb⟩ := List.any_eq_true.1 h3
      rw [h2 x hx] at hb; cases hb)
  clear hL he hz hze
  by_cases c1 : 400 < es.length
  · have HR := Lib.hid (HX1.out c1)
    have c1' : (400 : Int) < (es.length : Int) := by omega
    go_enter Try.func35, Try.ntmps35
    go_wp2
    go_ret
    rw [HR.out]
    exact ⟨⟨_, rfl, own_nilS _ _ _⟩, Below.refl _ _⟩
  have c1' : ¬ (400 : Int) < (es.length : Int) := by omega
  go_enter Try.func35, Try.ntmps35
  go_wp2
  go_loopw [7, 16] (fun v i wr => ∃ k : Nat, k ≤ es.length ∧ i = .int .i64 k ∧ (∀ x ∈ es.take k, badV d who x = false) ∧ (∃ xs, Grow entryE 42 w.heap.size wr v (visL d who (es.take k)) xs) ∧ Below w.heap.size w wr) (fun _ i _ => es.length - (intOf i).toNat)
  case atStart => exact ⟨0, Nat.zero_le _, rfl, fun x h => by simp at h, ⟨[], Grow.nil _ _ _ _⟩, Below.refl _ _⟩
  case round =>
    obtain ⟨k, hk, rfl, hgood, ⟨xs, hg⟩, hbel⟩ := hrel
    have HG := Lib.hid hg; have HGood := Lib.hid hgood; clear hg hgood
    obtain ⟨p7, n7, q7, hv7⟩ := own_slice3' HG.out.row
    subst hv7
    by_cases hlt : k < es.length
    · obtain ⟨b, off, a0, a1, v0, v1, rfl, _, hb0, hx, ⟨hc0, hc1⟩, s0, s1, _⟩ := entry_row (HA.out.frame (Same.of_below' hbel)) hlt
      have HZ1 : Hid (entryE.sz (a0, a1) ≤ 1048576) := Lib.hid (by have := HZ.out _ (List.getElem_mem hlt); rw [hx] at this; exact this)
      have HT : Hid (es.take (k + 1) = es.take k ++ [(a0, a1)]) := Lib.hid (by rw [List.take_succ_eq_append_getElem hlt, hx])
      have HM : Hid ((a0, a1) ∈ es) := Lib.hid (by rw [← hx]; exact List.getElem_mem hlt)
      have HS0 := Lib.hid s0; have HS1 := Lib.hid s1
      obtain ⟨o4, k4, rfl⟩ := s0.sl
      obtain ⟨o5, k5, rfl⟩ := s1.sl
      clear s0 s1 hx
      have HV : Hid (visL d who (es.take k ++ [(a0, a1)]) = visL d who (es.take k) ++ (if (viewR d who a0 a1).2 = 0 then [(viewR d who a0 a1).1] else [])) := Lib.hid (visL_snoc d who (es.take k) (a0, a1))
      have HBad : Hid (badV d who (a0, a1) = (decide ((viewR d who a0 a1).2 ≠ 0) && decide ((viewR d who a0 a1).2 ≠ 11))) := Lib.hid rfl
      have CVk : Hid (∀ W : World, Below wr.heap.size wr W → Calls Try.prog 25 #[.slice o1 d.length k1, .string who, .agg #[.slice o4 a0.length k4, .slice o5 a1.length k5]] W (GivesView W (viewR d who a0 a1))) := Lib.hid (fun W bb => CV.out W _ _ a0 a1 _ _ (hbel.trans (bb.mono hbel.size)) (HS0.out.frame (Same.of_below' bb)) (HS1.out.frame (Same.of_below' bb)) HZ1.out)
      generalize viewR d who a0 a1 = R at *
      obtain ⟨⟨r0, r1⟩, r2⟩ := R
      dsimp only at HV HBad CVk
      have hrl : Hid ((visL d who (es.take k)).length ≤ 100000000) := Lib.hid (by
        have h1 := List.length_filter_le (fun e => decide (codeV d who e = 0)) (es.take k)
        have h2 : (es.take k).length ≤ k := by rw [List.length_take]; omega
        unfold visL
        rw [List.length_map]
        omega)
      generalize visL d who (es.take k) = pre at *
      have g1 : (0 : Int) ≤ (k : Int) := by omega
      have g2 : (k : Int) < (es.length : Int) := by omega
      go_wp2_with fail
      refine calls_by (fun W => Below wr.heap.size wr W) (more' (Below.refl _ _) _) ?_
      clear hc0 hc1
      intro W1 c1
      have G1 := Lib.hid (HG.out.below c1)
      refine (CVk.out W1 c1).mono ?_
      rintro e w2 ⟨u0, u1, rfl, q, hb⟩
      have Q2 := Lib.hid q
      obtain ⟨S0, S1', q0, i0, q1, i1, d01⟩ := entryOut_ownp q
      have QE : Hid (entryE.Own (Fresh W1 w2) w2 (r0, r1) [u0, u1]) := Lib.hid (entry_pack r0 r1 _ _ S0 S1' ⟨q0, i0, q1, i1, d01, trivial⟩)
      obtain ⟨p8, c8, rfl⟩ := q0.at.sl
      obtain ⟨p9, c9, rfl⟩ := q1.at.sl
      have D2 := Lib.hid hb
      have hbs := c1.size; have hbs2 := hb.size
      have hb1 : w.heap.size ≤ wr.heap.size := hbel.size
      have b2 : Below w.heap.size w w2 := hbel.trans ((c1.trans (hb.mono c1.size)).mono hbel.size)
      clear q q0 q1 i0 i1 d01 hb Q2
      by_cases e0 : r2 = 0
      · subst e0
        have HT2 : Hid (visL d who (es.take (k + 1)) = pre ++ [(r0, r1)]) := Lib.hid (by rw [HT.out, HV.out]; simp)
        have HGd : Hid (∀ x ∈ es.take (k + 1), badV d who x = false) := Lib.hid (by
          rw [HT.out]
          intro x hx
          rcases List.mem_append.1 hx with h | h
          · exact HGood.out x h
          · rw [List.mem_singleton.1 h, HBad.out]; simp)
        have R3 := Lib.hid ((G1.out.below D2.out).below (more' (Below.refl _ _) (.cells #[.slice p8 r0.length c8, .slice p9 r1.length c9, .int .i64 0] 44))).row
        have hB3 : w.heap.size ≤ (w2.alloc (.cells #[.slice p8 r0.length c8, .slice p9 r1.length c9, .int .i64 0] 44)).heap.size := by simp; omega
        go_wp2_with (first
          | (at_builtin; refine append_entry w.heap.size rfl _ _ rfl _ _ xs rfl R3.out p8 p9 r0.length c8 r1.length c9 (w2.heap.size + 1) (World.size_alloc _ _).symm rfl hrl.out hB3 ?_; intro g cap w5 h1 h2 h3)
          | (fail "none"))
        have HG5 : Hid (Grow entryE 42 w.heap.size w5 (.slice (some ⟨g, 0, none⟩) (pre.length + 1) cap) (pre ++ [(r0, r1)]) (xs ++ [.slice p8 r0.length c8, .slice p9 r1.length c9])) := Lib.hid (Grow.step G1.out (by omega) D2.out QE.out (more' (more' (Below.refl _ _) _) _) h1 h2 (fun g' hg' => by
          have e : g = g' := by simpa [Value.ownBlock] using hg'
          subst e
          rcases h3 with h | h
          · exact .inl h
          · exact .inr (by rw [World.size_alloc] at h; omega)))
        have B5 : Below w.heap.size w w5 := (more' (more' b2 _) _).grown h2 (by simp only [World.size_alloc]; omega) (fun r hr => (R3.out.lt r hr).1)
        clear h1 h2 h3 R3
        go_wp2
        go_roundw
        case rel => exact ⟨k + 1, by omega, by go_num, HGd.out, ⟨_, by rw [HT2.out]; exact HG5.out⟩, B5⟩
        case measure => simp [intOf]; omega
      · by_cases e11 : r2 = 11
        · subst e11
          have HT2 : Hid (visL d who (es.take (k + 1)) = pre) := Lib.hid (by rw [HT.out, HV.out]; simp)
          have HGd : Hid (∀ x ∈ es.take (k + 1), badV d who x = false) := Lib.hid (by
            rw [HT.out]
            intro x hx
            rcases List.mem_append.1 hx with h | h
            · exact HGood.out x h
            · rw [List.mem_singleton.1 h, HBad.out]; simp)
          have G3 := Lib.hid ((G1.out.below D2.out).below (more' (Below.refl _ _) (.cells #[.slice p8 r0.length c8, .slice p9 r1.length c9, .int .i64 11] 44)))
          go_wp2
          go_roundw
          case rel => exact ⟨k + 1, by omega, by go_num, HGd.out, ⟨xs, by rw [HT2.out]; exact G3.out⟩, more' b2 _⟩
          case measure => simp [intOf]; omega
        · have HR := Lib.hid (HX2.out (a0, a1) HM.out (by rw [HBad.out]; simp [e0, e11]))
          have e0' : (r2 == 0) = false := by simp [e0]
          have e11' : (r2 == 11) = false := by simp [e11]
          go_wp2
          go_ret
          rw [HR.out]
          exact ⟨⟨_, rfl, own_nilS _ _ _⟩, more' b2 _⟩
    · have e : es.take k = es := List.take_of_length_le (by omega)
      have HO : Hid (SlOwn entryE (Fresh w wr) wr (visR d who es) (.slice p7 n7 q7)) := Lib.hid (by
        have h1 := HG.out.own
        have h2 := HGood.out
        rw [e] at h1 h2
        rw [HX3.out c1 h2]
        exact h1)
      clear e
      go_wp2
      go_ret
      exact ⟨⟨_, rfl, HO.out⟩, hbel⟩
end Go.Proofs.Ytglgkocjdockdaa
/- ViewOf: the specification's view. -/
namespace Go.Proofs.Ytglgkocjdockdaa
open Go.RowKit
attribute [local go_sem ↓] Go.wp_at_zero Go.wp_at_succ

theorem own_zeroD (w : World) {B g : Nat} (hg : g = w.heap.size) (hB : B ≤ g) : (w.alloc (.cells #[] 104)).ownsRow B 104 2 (.slice (some ⟨g, 0, none⟩) 0 0) 0 (rs []) := by
  subst hg
  exact ⟨rfl, .inr ⟨w.heap.size, 0, #[], rfl, hB, heap_alloc_new w _, by simp, by unfold maxLen; simp, rfl, rfl⟩⟩
/-- a view is returned, and whether it may be seen -/
def GivesPair (w : World) (g : Bool) (dn : RdnL) (r : List AttrT) (e : Ending) (w' : World) : Prop :=
  (g = false → e = .returned (.tuple #[.agg #[.slice none 0 0, .slice none 0 0], .bool false])) ∧ (g = true → ∃ u0 u1 S T, e = .returned (.tuple #[.agg #[u0, u1], .bool true]) ∧ SlOwn rdnE S w' dn u0 ∧ SlOwn attrE T w' r u1 ∧ (∀ b, S b → Fresh w w' b) ∧ (∀ b, T b → Fresh w w' b) ∧ ∀ b, S b → ¬ T b) ∧ Below w.heap.size w w'
set_option maxRecDepth 100000 in
set_option maxHeartbeats 4000000 in
theorem l06View_any {S S1 S2 : Bs} (v : Value) (d : List RuleT) (who : ByteArray) (dn : RdnL) (at_ : List AttrT) (dv av : Value) (w : World) (hL : SlAt ruleE S w d v) (hd : SlAt rdnE S1 w dn dv) (ha : SlAt attrE S2 w at_ av)
    (hz : d.length + szL ruleE d ≤ 1048576) (hze : entryE.sz (dn, at_) ≤ 1048576) :
    Calls Try.prog 81 #[v, .string who, .agg #[dv, av]] w (GivesPair w (grantB d who dn ⟨#[]⟩ 1) dn (readR d who dn at_)) := by
  have HE : entryE.sz (dn, at_) = (dn.length + szL rdnE dn) + (at_.length + szL attrE at_) := rfl
  rw [HE] at hze
  have CG : Hid (∀ (W : World) (n : ByteArray), Below w.heap.size w W → Calls Try.prog 73 #[v, .string who, dv, .string n, .int .i64 1] W fun e w' => e = .returned (.bool (grantB d who dn n 1)) ∧ Below W.heap.size W w') := Lib.hid (fun W n b => l06Allowed_any v d who dn dv n 1 W (hL.frame (Same.of_below' b)) (hd.frame (Same.of_below' b)) hz (by omega))
  obtain ⟨o1, k1, rfl⟩ := hL.sl
  have hd0 := hd
  obtain ⟨o2, k2, rfl⟩ := hd.sl
  obtain ⟨o3, k3, rfl⟩ := ha.sl
  have HA := Lib.hid ha
  have HZ : Hid (∀ x ∈ at_, attrE.sz x ≤ 1048576) := Lib.hid (fun x h => by have h1 := szL_mem attrE h; omega)
  have HD : Hid (∀ W : World, Below w.heap.size w W → DnAt W o2 dn) := Lib.hid (fun W b => (dn_of hd0).below b)
  have hac : o2 = none → k2 = 0 := hd0.cap.2.2
  have hl : at_.length ≤ 1048576 := by omega
  have hdl : dn.length ≤ 1048576 := by omega
  clear hL hd hd0 ha hz hze HE
  have CG0 : Hid (∀ W : World, Below w.heap.size w W → Calls Try.prog 73 #[.slice o1 d.length k1, .string who, .slice o2 dn.length k2, .string ⟨#[]⟩, .int .i64 1] W fun e w' => e = .returned (.bool (grantB d who dn ⟨#[]⟩ 1)) ∧ Below W.heap.size W w') := Lib.hid (fun W b => CG.out W _ b)
  generalize grantB d who dn ⟨#[]⟩ 1 = g0 at *
  go_enter Try.func81, Try.ntmps81
  go_wp2_with fail
  refine calls_by (fun W => Below w.heap.size w W ∧ Blk W w.heap.size [.slice o2 dn.length k2, .slice o3 at_.length k3] ∧ Blk W (w.heap.size + 1) [.slice none 0 0, .slice none 0 0]) ⟨more' (more' (Below.refl _ _) _) _, (Blk.new _ _ _).alloc _, blk_at _ _ _ (by simp)⟩ ?_
  rintro W1 ⟨b1, t1, r1⟩
  refine (CG0.out W1 b1).mono ?_
  rintro e w2 ⟨rfl, hb⟩
  have b2 := b1.trans (hb.mono b1.size); have T2 := Lib.hid (t1.below hb); have R2 := Lib.hid (r1.below hb)
  clear hb t1 r1 b1 CG0
  cases g0
  · have TE := (R2.out.set 0 (.slice none 0 0)).set 1 (.slice none 0 0)
    have j0 := TE.cell 0 rfl
    have j1 := TE.cell 1 rfl
    have x0 := R2.out.cell 0 rfl
    have x1 := R2.out.cell 1 rfl
    have f0 := R2.out.soft 0
    have f1 := R2.out.soft 1
    clear TE
    go_wp2
    refine bodyPost_ret (v := .tuple #[.agg #[.slice none 0 0, .slice none 0 0], .bool false]) (by simp [results, Try.results81, go_sem, j0, j1]) rfl ?_
    exact ⟨fun _ => rfl, (fun h => by cases h), (b2.setCell (p := ⟨w.heap.size + 1, 0, none⟩) (by show w.heap.size ≤ w.heap.size + 1; omega) _).setCell (p := ⟨w.heap.size + 1, 1, none⟩) (by show w.heap.size ≤ w.heap.size + 1; omega) _⟩
  have m0 := T2.out.cell 0 rfl
  have hs2 : w.heap.size + 1 < w2.heap.size := R2.out.lt
  have B0 : Below w2.heap.size w2 (w2.alloc (.cells #[] 104)) := more' (Below.refl _ _) _
  have D0 := HD.out _ (b2.trans (B0.mono b2.size))
  have m0' := (T2.out.below B0).cell 0 rfl
  have O0 : (w2.alloc (.cells #[] 104)).ownsRow w2.heap.size 104 2 (.slice (some ⟨w2.heap.size, 0, none⟩) 0 0) 0 (rs []) := own_zeroD _ rfl (Nat.le_refl _)
  have hs0 : w2.heap.size ≤ (w2.alloc (.cells #[] 104)).heap.size := B0.size
  have hlen : ([] : RdnL).length + dn.length ≤ 1000000000 := by simp; omega
  go_wp2_with (first
    | (at_builtin; refine append_dn w2.heap.size rfl _ _ rfl _ [] rfl O0 o2 dn k2 _ rfl rfl D0 hac hlen hs0 B0 ?_; intro v1 w1 hown1 hbel1; obtain ⟨d0, nn, dc, rfl⟩ := own_slice3' hown1; simp only [List.nil_append] at hown1 ⊢)
    | (fail "none"))
  obtain ⟨d0', dc', e9, _⟩ := own_rdns hown1
  injection e9 with e1 e2 e3
  subst e1 e2 e3
  have OD := Lib.hid (own_rdns hown1)
  refine wp_world (fun W => Below w.heap.size w W ∧ Blk W w.heap.size [.slice o2 dn.length k2, .slice o3 at_.length k3] ∧ Blk W (w.heap.size + 1) [.slice none 0 0, .slice none 0 0] ∧ Blk W w1.heap.size [.slice d0 dn.length dc, .slice none 0 0] ∧ SlOwn rdnE (Fresh w2 w1) W dn (.slice d0 dn.length dc)) ⟨more' (b2.trans (hbel1.mono b2.size)) _, (T2.out.below hbel1).alloc _, (R2.out.below hbel1).alloc _, Blk.new _ _ _, OD.out.frame (Same.of_below' (more' (Below.refl _ _) _))⟩ ?_
  have hR2 := hbel1.size
  clear OD hown1 hbel1 T2 R2 B0 D0 m0 m0' O0 hs0
  have hSF : Hid (∀ k, Fresh w2 w1 k → w2.heap.size ≤ k ∧ k < w1.heap.size) := Lib.hid (fun k h => h)
  generalize w1.heap.size = R at *
  generalize Fresh w2 w1 = SF at *
  rintro W ⟨hbW, t0, t1, t2, od⟩
  go_loopw [9] (fun i wr => ∃ (k : Nat) (p : Option Addr) (n c : Nat) (xs : List Value), k ≤ at_.length ∧ i = .int .i64 k ∧ Blk wr w.heap.size [.slice o2 dn.length k2, .slice o3 at_.length k3] ∧ Blk wr (w.heap.size + 1) [.slice none 0 0, .slice none 0 0] ∧ Blk wr R [.slice d0 dn.length dc, .slice p n c] ∧ Grow attrE 83 (R + 1) wr (.slice p n c) (readR d who dn (at_.take k)) xs ∧ SlOwn rdnE SF wr dn (.slice d0 dn.length dc) ∧ Below w.heap.size w wr) (fun i _ => at_.length - (intOf i).toNat)
  case atStart => exact ⟨0, none, 0, 0, [], Nat.zero_le _, rfl, t0, t1, t2, Grow.nil _ _ _ _, od, hbW⟩
  case round =>
    clear t0 t1 t2 od hbW
    obtain ⟨k, p, n, c, xs, hk, rfl, t0, t1, t2, hg, hod, hbel⟩ := hrel
    obtain ⟨_, _, e9, _⟩ := hg.own
    injection e9 with ep en ec
    subst ep; subst en; subst ec

    have HT0 := Lib.hid t0; have HT1 := Lib.hid t1; have HT2 := Lib.hid t2; have HG := Lib.hid hg; have HOD := Lib.hid hod; have HB := Lib.hid hbel
    have hRs : R < wr.heap.size := t2.lt
    have c0 := t0.cell 0 rfl
    have c1 := t0.cell 1 rfl
    clear t0 t1 t2 hg hod hbel
    by_cases hlt : k < at_.length
    · obtain ⟨b, off, a0, a1, v1, rfl, _, hb0, hx, ⟨hc0, hc1⟩, s1, _⟩ := attr_row HA.out hlt
      have HZ1 : Hid (attrE.sz (a0, a1) ≤ 1048576) := Lib.hid (by have := HZ.out _ (List.getElem_mem hlt); rw [hx] at this; exact this)
      have HT : Hid (readR d who dn (at_.take (k + 1)) = readR d who dn (at_.take k) ++ (if grantB d who dn a0 1 then [(a0, a1)] else [])) := Lib.hid (by
        unfold readR
        rw [List.take_succ_eq_append_getElem hlt, List.filter_append, hx]
        cases h : grantB d who dn a0 1 <;> simp [List.filter_cons, h])
      have HS1 := Lib.hid (s1.frame (Same.of_below' HB.out))
      obtain ⟨o4, k4, rfl⟩ := s1.sl
      clear s1 hx
      have CGk : Hid (∀ W : World, Below w.heap.size w W → Calls Try.prog 73 #[.slice o1 d.length k1, .string who, .slice o2 dn.length k2, .string a0, .int .i64 1] W fun e w' => e = .returned (.bool (grantB d who dn a0 1)) ∧ Below W.heap.size W w') := Lib.hid (fun W b => CG.out W a0 b)
      generalize grantB d who dn a0 1 = gr at *
      have hrl : Hid ((readR d who dn (at_.take k)).length ≤ 100000000) := Lib.hid (by
        have h1 := List.length_filter_le (fun a => grantB d who dn a.1 1) (at_.take k)
        have h2 : (at_.take k).length ≤ k := by rw [List.length_take]; omega
        unfold readR
        omega)
      generalize readR d who dn (at_.take k) = pre at *
      have g1 : (0 : Int) ≤ (k : Int) := by omega
      have g2 : (k : Int) < (at_.length : Int) := by omega
      have SK : Hid (∀ Z' : World, Below wr.heap.size wr Z' → Z'.cell? ⟨w.heap.size, 0, none⟩ = some (.slice o2 dn.length k2) ∧ Z'.cell? ⟨w.heap.size, 1, none⟩ = some (.slice (some ⟨b, off, none⟩) at_.length k3) ∧ Z'.cell? ⟨b, off + k * 2, none⟩ = some (.string a0) ∧ Z'.cell? ⟨b, off + k * 2 + 1, none⟩ = some (.slice o4 a1.length k4)) := Lib.hid (fun Z' h => ⟨(HT0.out.below h).cell 0 rfl, (HT0.out.below h).cell 1 rfl, (h.cell (p := ⟨b, off + k * 2, none⟩) (Nat.lt_of_lt_of_le hb0 HB.out.size)).trans ((HB.out.cell (p := ⟨b, off + k * 2, none⟩) hb0).trans hc0), (h.cell (p := ⟨b, off + k * 2 + 1, none⟩) (Nat.lt_of_lt_of_le hb0 HB.out.size)).trans ((HB.out.cell (p := ⟨b, off + k * 2 + 1, none⟩) hb0).trans hc1)⟩)
      clear hc0 hc1 c0
      go_wp2_with fail
      have BD : Below wr.heap.size wr wr.drew := (Below.refl _ _).drew
      refine wp_region_held_drew (S := (fun Z' => Z'.cell? ⟨w.heap.size, 0, none⟩ = some (.slice o2 dn.length k2) ∧ Z'.cell? ⟨w.heap.size, 1, none⟩ = some (.slice (some ⟨b, off, none⟩) at_.length k3) ∧ Z'.cell? ⟨b, off + k * 2, none⟩ = some (.string a0) ∧ Z'.cell? ⟨b, off + k * 2 + 1, none⟩ = some (.slice o4 a1.length k4))) (by kernel_rfl) ?_ (fun hHeld => ?_)
      · (try dsimp only)
        first | exact SK.out _ (by assumption) | exact SK.out _ BD
      refine wpAnyH_take (i := 0) (oi := { dst := some 29, op := Op.move (Operand.tmp 0), type := 25, pos := "l06_acl.go:46", after := #[], guard := none }) (v := ?_) rfl (by kernel_rfl) (by kernel_rfl) (by kernel_rfl) (fun _ _ _ h => h) (Or.inl ⟨by rfl, ?_⟩) (by assumption) ?_
      rotate_left
      · intro w hSw; (try dsimp only at hSw); go_simp; (try with_reducible rfl)
      (try simp only [Act.put, List.setIfInBounds_toArray, List.set_cons_zero, List.set_cons_succ])
      refine wpAnyH_take (i := 1) (oi := { dst := some 30, op := Op.move (Operand.tmp 1), type := 9, pos := "l06_acl.go:46", after := #[], guard := none }) (v := ?_) rfl (by kernel_rfl) (by kernel_rfl) (by kernel_rfl) (fun _ _ _ h => h) (Or.inl ⟨by rfl, ?_⟩) (by assumption) ?_
      rotate_left
      · intro w hSw; (try dsimp only at hSw); go_simp; (try with_reducible rfl)
      (try simp only [Act.put, List.setIfInBounds_toArray, List.set_cons_zero, List.set_cons_succ])
      refine wpAnyH_take (i := 2) (oi := { dst := some 31, op := Op.fieldAddr 42 (Operand.tmp 5) 0, type := 0, pos := "l06_acl.go:46", after := #[], guard := none }) (v := ?_) rfl (by kernel_rfl) (by kernel_rfl) (by kernel_rfl) (fun _ _ _ h => h) (Or.inl ⟨by rfl, ?_⟩) (by assumption) ?_
      rotate_left
      · intro w hSw; (try dsimp only at hSw); go_simp; (try with_reducible rfl)
      (try simp only [Act.put, List.setIfInBounds_toArray, List.set_cons_zero, List.set_cons_succ])
      refine wpAnyH_take (i := 3) (oi := { dst := some 32, op := Op.load 32 (Operand.tmp 31), type := 32, pos := "l06_acl.go:46", after := #[{ on := 2, ground := Ground.data }], guard := none }) (v := ?_) rfl (by kernel_rfl) (by kernel_rfl) (by kernel_rfl) (fun _ _ _ h => h) (Or.inl ⟨by rfl, ?_⟩) (by assumption) ?_
      rotate_left
      · intro w hSw; (try dsimp only at hSw); go_simp; (try with_reducible rfl)
      (try simp only [Act.put, List.setIfInBounds_toArray, List.set_cons_zero, List.set_cons_succ])
      refine wpAnyH_take (i := 4) (oi := { dst := some 33, op := Op.fieldAddr 42 (Operand.tmp 5) 1, type := 0, pos := "l06_acl.go:46", after := #[], guard := none }) (v := ?_) rfl (by kernel_rfl) (by kernel_rfl) (by kernel_rfl) (fun _ _ _ h => h) (Or.inl ⟨by rfl, ?_⟩) (by assumption) ?_
      rotate_left
      · intro w hSw; (try dsimp only at hSw); go_simp; (try with_reducible rfl)
      (try simp only [Act.put, List.setIfInBounds_toArray, List.set_cons_zero, List.set_cons_succ])
      refine wpAnyH_take (i := 5) (oi := { dst := some 34, op := Op.load 40 (Operand.tmp 33), type := 40, pos := "l06_acl.go:46", after := #[{ on := 4, ground := Ground.data }], guard := none }) (v := ?_) rfl (by kernel_rfl) (by kernel_rfl) (by kernel_rfl) (fun _ _ _ h => h) (Or.inl ⟨by rfl, ?_⟩) (by assumption) ?_
      rotate_left
      · intro w hSw; (try dsimp only at hSw); go_simp; (try with_reducible rfl)
      (try simp only [Act.put, List.setIfInBounds_toArray, List.set_cons_zero, List.set_cons_succ])
      refine wpAnyH_take (i := 6) (oi := { dst := some 35, op := Op.move (Operand.tmp 9), type := 3, pos := "l06_acl.go:46", after := #[], guard := none }) (v := ?_) rfl (by kernel_rfl) (by kernel_rfl) (by kernel_rfl) (fun _ _ _ h => h) (Or.inl ⟨by rfl, ?_⟩) (by assumption) ?_
      rotate_left
      · intro w hSw; (try dsimp only at hSw); go_simp; (try with_reducible rfl)
      (try simp only [Act.put, List.setIfInBounds_toArray, List.set_cons_zero, List.set_cons_succ])
      refine wpAnyH_take (i := 7) (oi := { dst := some 36, op := Op.indexAddr 40 (Operand.tmp 34) (Operand.tmp 35), type := 0, pos := "l06_acl.go:46", after := #[{ on := 5, ground := Ground.data }, { on := 6, ground := Ground.data }], guard := none }) (v := ?_) rfl (by kernel_rfl) (by kernel_rfl) (by kernel_rfl) (fun _ _ _ h => h) (Or.inl ⟨by rfl, ?_⟩) (by assumption) ?_
      rotate_left
      · intro w hSw; (try dsimp only at hSw); go_simp; (try with_reducible rfl)
      (try simp only [Act.put, List.setIfInBounds_toArray, List.set_cons_zero, List.set_cons_succ])
      refine wpAnyH_take (i := 8) (oi := { dst := some 37, op := Op.fieldAddr 83 (Operand.tmp 36) 0, type := 0, pos := "l06_acl.go:46", after := #[{ on := 7, ground := Ground.data }], guard := none }) (v := ?_) rfl (by kernel_rfl) (by kernel_rfl) (by kernel_rfl) (fun _ _ _ h => h) (Or.inl ⟨by rfl, ?_⟩) (by assumption) ?_
      rotate_left
      · intro w hSw; (try dsimp only at hSw); go_simp; (try with_reducible rfl)
      (try simp only [Act.put, List.setIfInBounds_toArray, List.set_cons_zero, List.set_cons_succ])
      refine wpAnyH_take (i := 9) (oi := { dst := some 38, op := Op.load 9 (Operand.tmp 37), type := 9, pos := "l06_acl.go:46", after := #[{ on := 8, ground := Ground.data }], guard := none }) (v := ?_) rfl (by kernel_rfl) (by kernel_rfl) (by kernel_rfl) (fun _ _ _ h => h) (Or.inl ⟨by rfl, ?_⟩) (by assumption) ?_
      rotate_left
      · intro w hSw; (try dsimp only at hSw); go_simp; (try with_reducible rfl)
      (try simp only [Act.put, List.setIfInBounds_toArray, List.set_cons_zero, List.set_cons_succ])
      refine wpAnyH_ready (rs := [10]) (by kernel_rfl) (by simp) ?_
      refine AllReadyH.cons (o := { dst := some 39, op := Op.call { callee := Callee.value (Operand.func 73), args := #[Operand.tmp 29, Operand.tmp 30, Operand.tmp 32, Operand.tmp 38, Operand.const (Value.int IntKind.i64 1)], argTypes := #[25, 9, 32, 9, 2] }, type := 4, pos := "l06_acl.go:46", after := #[{ on := 0, ground := Ground.data }, { on := 1, ground := Ground.data }, { on := 3, ground := Ground.data }, { on := 9, ground := Ground.data }], guard := none }) rfl (fun K hK => ?_) (AllReadyH.nil)
      go_simp
      refine (CGk.out _ (HB.out.trans (BD.mono HB.out.size))).mono ?_
      rintro e w3 ⟨rfl, hb⟩
      have D3 : Below wr.heap.size wr w3 := BD.trans hb
      clear hb
      clear hHeld
      refine hK.out _ _ ?_ (fun hHeld => ?_)
      · (try dsimp only)
        first | exact SK.out _ (by assumption) | exact SK.out _ BD
      clear hK K
      (try simp only [Act.put, List.setIfInBounds_toArray, List.set_cons_zero, List.set_cons_succ])
      refine wpAnyH_done (by kernel_rfl) ?_ _
      have HB3 := Lib.hid (HB.out.trans (D3.mono HB.out.size))
      have HT03 := Lib.hid (HT0.out.below D3); have HT13 := Lib.hid (HT1.out.below D3); have HT23 := Lib.hid (HT2.out.below D3); have HG3 := Lib.hid (HG.out.below D3); have HOD3 := Lib.hid (HOD.out.frame (Same.of_below' D3))
      have HS3 := Lib.hid (HS1.out.frame (Same.of_below' D3))
      have hR3 : R < w3.heap.size := Nat.lt_of_lt_of_le hRs D3.size
      cases gr
      · have HT2' : Hid (readR d who dn (at_.take (k + 1)) = pre) := Lib.hid (by rw [HT.out]; simp)
        go_wp2
        go_roundw
        case rel => exact ⟨k + 1, p, pre.length, c, xs, by omega, by go_num, HT03.out, HT13.out, HT23.out, by rw [HT2'.out]; exact HG3.out, HOD3.out, HB3.out⟩
        case measure => simp [intOf]; omega
      have HT2' : Hid (readR d who dn (at_.take (k + 1)) = pre ++ [(a0, a1)]) := Lib.hid (by rw [HT.out]; simp)
      have SK3 : Hid (∀ Z' : World, Below w3.heap.size w3 Z' → Z'.cell? ⟨w.heap.size, 0, none⟩ = some (.slice o2 dn.length k2) ∧ Z'.cell? ⟨w.heap.size, 1, none⟩ = some (.slice (some ⟨b, off, none⟩) at_.length k3) ∧ Z'.cell? ⟨b, off + k * 2, none⟩ = some (.string a0) ∧ Z'.cell? ⟨b, off + k * 2 + 1, none⟩ = some (.slice o4 a1.length k4)) := Lib.hid (fun Z' h => SK.out Z' (D3.trans (h.mono D3.size)))
      clear SK CGk HT HS1 HG HT0 HT1 HT2 HOD HB
      have hnp := HG3.out.row
      have OZ : Hid ((w3.drew.alloc (.cells #[] 9)).ownsRow w3.heap.size 9 1 (.slice (some ⟨w3.heap.size, 0, none⟩) 0 0) 0 []) := Lib.hid ⟨rfl, .inr ⟨w3.heap.size, 0, #[], rfl, Nat.le_refl _, heap_alloc_new w3.drew _, by simp, by unfold maxLen; simp, rfl, rfl⟩⟩
      have BZ : Below w3.heap.size w3 (w3.drew.alloc (.cells #[] 9)) := more' (Below.refl _ _).drew _
      have HSz : Hid (StrsAt (w3.drew.alloc (.cells #[] 9)) o4 a1) := Lib.hid (strs_of (HS3.out.frame (Same.of_below' BZ)))
      have hc4 : o4 = none → k4 = 0 := HS3.out.cap.2.2
      have hl1 : a1.length ≤ 1000000000 := by have h1 := HZ1.out; have h2 : attrE.sz (a0, a1) = a0.size + (a1.length + szL strE a1) := rfl; omega
      have hsz1 : w3.heap.size ≤ (w3.drew.alloc (.cells #[] 9)).heap.size := BZ.size
      clear hnp
      have hbR : b < w.heap.size := hb0
      have SK1 : Hid (∀ Z' : World, Below R w3 Z' → Z'.cell? ⟨w.heap.size, 0, none⟩ = some (.slice o2 dn.length k2) ∧ Z'.cell? ⟨w.heap.size, 1, none⟩ = some (.slice (some ⟨b, off, none⟩) at_.length k3) ∧ Z'.cell? ⟨b, off + k * 2, none⟩ = some (.string a0) ∧ Z'.cell? ⟨b, off + k * 2 + 1, none⟩ = some (.slice o4 a1.length k4)) := Lib.hid (fun Z' h => by
        obtain ⟨q0, q1, q2, q3⟩ := SK3.out w3 (Below.refl _ _)
        exact ⟨(h.cell (p := ⟨w.heap.size, 0, none⟩) (by show w.heap.size < R; omega)).trans q0, (h.cell (p := ⟨w.heap.size, 1, none⟩) (by show w.heap.size < R; omega)).trans q1, (h.cell (p := ⟨b, off + k * 2, none⟩) (by show b < R; omega)).trans q2, (h.cell (p := ⟨b, off + k * 2 + 1, none⟩) (by show b < R; omega)).trans q3⟩)
      have KP : Hid (∀ (L : Array Bool) (Z : World), Below (R + 1) w3 Z → Until (fun Z' => Z'.cell? ⟨w.heap.size, 0, none⟩ = some (.slice o2 dn.length k2) ∧ Z'.cell? ⟨w.heap.size, 1, none⟩ = some (.slice (some ⟨b, off, none⟩) at_.length k3) ∧ Z'.cell? ⟨b, off + k * 2, none⟩ = some (.string a0) ∧ Z'.cell? ⟨b, off + k * 2 + 1, none⟩ = some (.slice o4 a1.length k4)) (fun Z => Z.cell? ⟨R, 1, none⟩ = some (.slice p pre.length c)) 20 L Z) :=
        Lib.hid (fun L Z h => ⟨SK1.out Z (h.mono (Nat.le_succ _)), fun _ => (HT23.out.low h (Nat.lt_succ_self _)).cell 1 rfl⟩)
      have hbd : Below (R + 1) w3 w3.drew := (Below.refl _ _).drew
      have hbz8 : Below (R + 1) w3 (w3.drew.alloc (.cells #[] 9)) := BZ.mono (by omega)
      have hRd : R + 1 ≤ w3.drew.heap.size := hR3
      clear SK3
      go_wp2_with fail
      refine wp_region_until (fun Z' => Z'.cell? ⟨w.heap.size, 0, none⟩ = some (.slice o2 dn.length k2) ∧ Z'.cell? ⟨w.heap.size, 1, none⟩ = some (.slice (some ⟨b, off, none⟩) at_.length k3) ∧ Z'.cell? ⟨b, off + k * 2, none⟩ = some (.string a0) ∧ Z'.cell? ⟨b, off + k * 2 + 1, none⟩ = some (.slice o4 a1.length k4)) (fun Z => Z.cell? ⟨R, 1, none⟩ = some (.slice p pre.length c)) 20 (by kernel_rfl) (KP.out #[] _ hbd).1 ((KP.out #[false, false, false, false, false, false, false, false, false, false, false, false, false, false, false, false, false, false, false, false, false] _ hbd).2 rfl) (fun hU => ?_)

      refine wpAnyL_take (i := 0) (oi := { dst := some 40, op := Op.fieldAddr 42 (Operand.tmp 8) 1, type := 0, pos := "l06_acl.go:47", after := #[], guard := none }) (v := ?_) rfl (by decide) (by kernel_rfl) (by kernel_rfl) (by kernel_rfl) (fun _ _ _ h => h) (Or.inl ⟨by rfl, ?_⟩) (by assumption) ?_
      rotate_left
      · intro w hSw; (try dsimp only at hSw); go_simp; (try with_reducible rfl)
      clear hU; intro hU
      (try simp only [Act.put, List.setIfInBounds_toArray, List.set_cons_zero, List.set_cons_succ])
      refine wpAnyL_load (i := 1) (m := 18) (oi := { dst := some 41, op := Op.load 40 (Operand.tmp 40), type := 40, pos := "l06_acl.go:47", after := #[{ on := 0, ground := Ground.data }], guard := none }) (om := { dst := some 58, op := Op.call { callee := Callee.builtin Builtin.append, args := #[Operand.tmp 41, Operand.tmp 57], argTypes := #[40, 40] }, type := 40, pos := "l06_acl.go:47", after := #[{ on := 1, ground := Ground.data }, { on := 17, ground := Ground.data }, { on := 15, ground := Ground.chain }], guard := none }) (ok := _) (v := ?_) rfl (by decide) (by kernel_rfl) (by kernel_rfl) (by kernel_rfl) rfl rfl (by kernel_rfl) (by kernel_rfl) (by kernel_rfl) (by kernel_rfl) (fun _ _ _ h => h) (Or.inl ⟨by rfl, ?_⟩) (by assumption) ?_
      rotate_left
      · intro w hSw; (try dsimp only at hSw); go_simp; (try with_reducible rfl)
      clear hU; intro hU
      (try simp only [Act.put, List.setIfInBounds_toArray, List.set_cons_zero, List.set_cons_succ])
      refine wpAnyL_take (i := 2) (oi := { dst := some 42, op := Op.fieldAddr 42 (Operand.tmp 5) 1, type := 0, pos := "l06_acl.go:47", after := #[], guard := none }) (v := ?_) rfl (by decide) (by kernel_rfl) (by kernel_rfl) (by kernel_rfl) (fun _ _ _ h => h) (Or.inl ⟨by rfl, ?_⟩) (by assumption) ?_
      rotate_left
      · intro w hSw; (try dsimp only at hSw); go_simp; (try with_reducible rfl)
      clear hU; intro hU
      (try simp only [Act.put, List.setIfInBounds_toArray, List.set_cons_zero, List.set_cons_succ])
      refine wpAnyL_take (i := 3) (oi := { dst := some 43, op := Op.load 40 (Operand.tmp 42), type := 40, pos := "l06_acl.go:47", after := #[{ on := 2, ground := Ground.data }], guard := none }) (v := ?_) rfl (by decide) (by kernel_rfl) (by kernel_rfl) (by kernel_rfl) (fun _ _ _ h => h) (Or.inl ⟨by rfl, ?_⟩) (by assumption) ?_
      rotate_left
      · intro w hSw; (try dsimp only at hSw); go_simp; (try with_reducible rfl)
      clear hU; intro hU
      (try simp only [Act.put, List.setIfInBounds_toArray, List.set_cons_zero, List.set_cons_succ])
      refine wpAnyL_take (i := 4) (oi := { dst := some 44, op := Op.move (Operand.tmp 9), type := 3, pos := "l06_acl.go:47", after := #[], guard := none }) (v := ?_) rfl (by decide) (by kernel_rfl) (by kernel_rfl) (by kernel_rfl) (fun _ _ _ h => h) (Or.inl ⟨by rfl, ?_⟩) (by assumption) ?_
      rotate_left
      · intro w hSw; (try dsimp only at hSw); go_simp; (try with_reducible rfl)
      clear hU; intro hU
      (try simp only [Act.put, List.setIfInBounds_toArray, List.set_cons_zero, List.set_cons_succ])
      refine wpAnyL_take (i := 5) (oi := { dst := some 45, op := Op.indexAddr 40 (Operand.tmp 43) (Operand.tmp 44), type := 0, pos := "l06_acl.go:47", after := #[{ on := 3, ground := Ground.data }, { on := 4, ground := Ground.data }], guard := none }) (v := ?_) rfl (by decide) (by kernel_rfl) (by kernel_rfl) (by kernel_rfl) (fun _ _ _ h => h) (Or.inl ⟨by rfl, ?_⟩) (by assumption) ?_
      rotate_left
      · intro w hSw; (try dsimp only at hSw); go_simp; (try with_reducible rfl)
      clear hU; intro hU
      (try simp only [Act.put, List.setIfInBounds_toArray, List.set_cons_zero, List.set_cons_succ])
      refine wpAnyL_take (i := 6) (oi := { dst := some 46, op := Op.fieldAddr 83 (Operand.tmp 45) 0, type := 0, pos := "l06_acl.go:47", after := #[{ on := 5, ground := Ground.data }], guard := none }) (v := ?_) rfl (by decide) (by kernel_rfl) (by kernel_rfl) (by kernel_rfl) (fun _ _ _ h => h) (Or.inl ⟨by rfl, ?_⟩) (by assumption) ?_
      rotate_left
      · intro w hSw; (try dsimp only at hSw); go_simp; (try with_reducible rfl)
      clear hU; intro hU
      (try simp only [Act.put, List.setIfInBounds_toArray, List.set_cons_zero, List.set_cons_succ])
      refine wpAnyL_take (i := 7) (oi := { dst := some 47, op := Op.load 9 (Operand.tmp 46), type := 9, pos := "l06_acl.go:47", after := #[{ on := 6, ground := Ground.data }], guard := none }) (v := ?_) rfl (by decide) (by kernel_rfl) (by kernel_rfl) (by kernel_rfl) (fun _ _ _ h => h) (Or.inl ⟨by rfl, ?_⟩) (by assumption) ?_
      rotate_left
      · intro w hSw; (try dsimp only at hSw); go_simp; (try with_reducible rfl)
      clear hU; intro hU
      (try simp only [Act.put, List.setIfInBounds_toArray, List.set_cons_zero, List.set_cons_succ])
      refine wpAnyL_take (i := 9) (oi := { dst := some 49, op := Op.fieldAddr 42 (Operand.tmp 5) 1, type := 0, pos := "l06_acl.go:47", after := #[], guard := none }) (v := ?_) rfl (by decide) (by kernel_rfl) (by kernel_rfl) (by kernel_rfl) (fun _ _ _ h => h) (Or.inl ⟨by rfl, ?_⟩) (by assumption) ?_
      rotate_left
      · intro w hSw; (try dsimp only at hSw); go_simp; (try with_reducible rfl)
      clear hU; intro hU
      (try simp only [Act.put, List.setIfInBounds_toArray, List.set_cons_zero, List.set_cons_succ])
      refine wpAnyL_take (i := 10) (oi := { dst := some 50, op := Op.load 40 (Operand.tmp 49), type := 40, pos := "l06_acl.go:47", after := #[{ on := 9, ground := Ground.data }], guard := none }) (v := ?_) rfl (by decide) (by kernel_rfl) (by kernel_rfl) (by kernel_rfl) (fun _ _ _ h => h) (Or.inl ⟨by rfl, ?_⟩) (by assumption) ?_
      rotate_left
      · intro w hSw; (try dsimp only at hSw); go_simp; (try with_reducible rfl)
      clear hU; intro hU
      (try simp only [Act.put, List.setIfInBounds_toArray, List.set_cons_zero, List.set_cons_succ])
      refine wpAnyL_take (i := 11) (oi := { dst := some 51, op := Op.move (Operand.tmp 9), type := 3, pos := "l06_acl.go:47", after := #[], guard := none }) (v := ?_) rfl (by decide) (by kernel_rfl) (by kernel_rfl) (by kernel_rfl) (fun _ _ _ h => h) (Or.inl ⟨by rfl, ?_⟩) (by assumption) ?_
      rotate_left
      · intro w hSw; (try dsimp only at hSw); go_simp; (try with_reducible rfl)
      clear hU; intro hU
      (try simp only [Act.put, List.setIfInBounds_toArray, List.set_cons_zero, List.set_cons_succ])
      refine wpAnyL_take (i := 12) (oi := { dst := some 52, op := Op.indexAddr 40 (Operand.tmp 50) (Operand.tmp 51), type := 0, pos := "l06_acl.go:47", after := #[{ on := 10, ground := Ground.data }, { on := 11, ground := Ground.data }], guard := none }) (v := ?_) rfl (by decide) (by kernel_rfl) (by kernel_rfl) (by kernel_rfl) (fun _ _ _ h => h) (Or.inl ⟨by rfl, ?_⟩) (by assumption) ?_
      rotate_left
      · intro w hSw; (try dsimp only at hSw); go_simp; (try with_reducible rfl)
      clear hU; intro hU
      (try simp only [Act.put, List.setIfInBounds_toArray, List.set_cons_zero, List.set_cons_succ])
      refine wpAnyL_take (i := 13) (oi := { dst := some 53, op := Op.fieldAddr 83 (Operand.tmp 52) 1, type := 0, pos := "l06_acl.go:47", after := #[{ on := 12, ground := Ground.data }], guard := none }) (v := ?_) rfl (by decide) (by kernel_rfl) (by kernel_rfl) (by kernel_rfl) (fun _ _ _ h => h) (Or.inl ⟨by rfl, ?_⟩) (by assumption) ?_
      rotate_left
      · intro w hSw; (try dsimp only at hSw); go_simp; (try with_reducible rfl)
      clear hU; intro hU
      (try simp only [Act.put, List.setIfInBounds_toArray, List.set_cons_zero, List.set_cons_succ])
      refine wpAnyL_take (i := 14) (oi := { dst := some 54, op := Op.load 61 (Operand.tmp 53), type := 61, pos := "l06_acl.go:47", after := #[{ on := 13, ground := Ground.data }], guard := none }) (v := ?_) rfl (by decide) (by kernel_rfl) (by kernel_rfl) (by kernel_rfl) (fun _ _ _ h => h) (Or.inl ⟨by rfl, ?_⟩) (by assumption) ?_
      rotate_left
      · intro w hSw; (try dsimp only at hSw); go_simp; (try with_reducible rfl)
      clear hU; intro hU
      (try simp only [Act.put, List.setIfInBounds_toArray, List.set_cons_zero, List.set_cons_succ])
      refine wpAnyL_ready (rs := [8]) (by kernel_rfl) (by simp) ?_
      refine AllReadyL.cons (o := { dst := some 48, op := Op.buildSlice 61 0 #[], type := 61, pos := "l06_acl.go:47", after := #[], guard := none }) rfl (fun K hK => ?_) (AllReadyL.nil)
      go_simp
      clear hU
      refine hK.out _ _ ?_ (fun hU => ?_)
      · (try dsimp only)
        first | exact KP.out _ _ (by assumption) | exact KP.out _ _ hbz8 | exact KP.out _ _ hbd | exact KP.out _ _ (Below.alloc (by assumption) (by first | exact hRd | exact hR6) _) | exact ⟨SK1.out _ (Below.setCell (hb7.mono (Nat.le_succ R)) (p := ⟨R, 1, none⟩) (Nat.le_refl _) _), fun h => absurd (h.symm.trans (show _ = true by kernel_rfl)) (by decide)⟩
      clear hK K
      (try simp only [Act.put, List.setIfInBounds_toArray, List.set_cons_zero, List.set_cons_succ])
      refine wpAnyL_ready (rs := [15]) (by kernel_rfl) (by simp) ?_
      refine AllReadyL.cons (o := { dst := some 55, op := Op.call { callee := Callee.builtin Builtin.append, args := #[Operand.tmp 48, Operand.tmp 54], argTypes := #[61, 61] }, type := 61, pos := "l06_acl.go:47", after := #[{ on := 8, ground := Ground.data }, { on := 14, ground := Ground.data }], guard := none }) rfl (fun K hK => ?_) (AllReadyL.nil)
      refine step_texts w3.heap.size rfl _ _ rfl (.slice (some ⟨w3.heap.size, 0, none⟩) 0 0) rfl OZ.out o4 a1 k4 rfl HSz.out hc4 hl1 hsz1 ?_
      intro v6 w6 hown6 hgr6
      have hbel6 : Below w3.heap.size w3 w6 := BZ.grown hgr6 hsz1 (fun k hk => (OZ.out.lt k hk).1)
      have Q6 := Lib.hid (own_texts hown6)
      obtain ⟨xo, xc, rfl⟩ := (own_texts hown6).at.sl
      have hb6 : Below (R + 1) w3 w6 := hbel6.mono hR3
      have hR6 : R + 1 ≤ w6.heap.size := Nat.le_trans hR3 hbel6.size
      have R6 := Lib.hid (HG3.out.below hbel6).row
      clear hown6 hgr6
      clear hU
      refine hK.out _ _ ?_ (fun hU => ?_)
      · (try dsimp only)
        first | exact KP.out _ _ (by assumption) | exact KP.out _ _ hbz8 | exact KP.out _ _ hbd | exact KP.out _ _ (Below.alloc (by assumption) (by first | exact hRd | exact hR6) _) | exact ⟨SK1.out _ (Below.setCell (hb7.mono (Nat.le_succ R)) (p := ⟨R, 1, none⟩) (Nat.le_refl _) _), fun h => absurd (h.symm.trans (show _ = true by kernel_rfl)) (by decide)⟩
      clear hK K
      (try simp only [Act.put, List.setIfInBounds_toArray, List.set_cons_zero, List.set_cons_succ])
      refine wpAnyL_take (i := 16) (oi := { dst := some 56, op := Op.build 83 #[(0, Operand.tmp 47), (1, Operand.tmp 55)], type := 83, pos := "l06_acl.go:47", after := #[{ on := 7, ground := Ground.data }, { on := 15, ground := Ground.data }], guard := none }) (v := ?_) rfl (by decide) (by kernel_rfl) (by kernel_rfl) (by kernel_rfl) (fun _ _ _ h => h) (Or.inl ⟨by rfl, ?_⟩) (by assumption) ?_
      rotate_left
      · intro w hSw; (try dsimp only at hSw); go_simp; (try with_reducible rfl)
      clear hU; intro hU
      (try simp only [Act.put, List.setIfInBounds_toArray, List.set_cons_zero, List.set_cons_succ])
      refine wpAnyL_ready (rs := [17]) (by kernel_rfl) (by simp) ?_
      refine AllReadyL.cons (o := { dst := some 57, op := Op.buildSlice 40 1 #[(0, Operand.tmp 56)], type := 40, pos := "l06_acl.go:47", after := #[{ on := 16, ground := Ground.data }], guard := none }) rfl (fun K hK => ?_) (AllReadyL.nil)
      go_simp
      clear hU
      refine hK.out _ _ ?_ (fun hU => ?_)
      · (try dsimp only)
        first | exact KP.out _ _ (by assumption) | exact KP.out _ _ hbz8 | exact KP.out _ _ hbd | exact KP.out _ _ (Below.alloc (by assumption) (by first | exact hRd | exact hR6) _) | exact ⟨SK1.out _ (Below.setCell (hb7.mono (Nat.le_succ R)) (p := ⟨R, 1, none⟩) (Nat.le_refl _) _), fun h => absurd (h.symm.trans (show _ = true by kernel_rfl)) (by decide)⟩
      clear hK K
      (try simp only [Act.put, List.setIfInBounds_toArray, List.set_cons_zero, List.set_cons_succ])
      refine wpAnyL_ready (rs := [18]) (by kernel_rfl) (by simp) ?_
      refine AllReadyL.cons (o := { dst := some 58, op := Op.call { callee := Callee.builtin Builtin.append, args := #[Operand.tmp 41, Operand.tmp 57], argTypes := #[40, 40] }, type := 40, pos := "l06_acl.go:47", after := #[{ on := 1, ground := Ground.data }, { on := 17, ground := Ground.data }, { on := 15, ground := Ground.chain }], guard := none }) rfl (fun K hK => ?_) (AllReadyL.nil)
      refine step_attr (R + 1) rfl _ _ rfl (.slice p pre.length c) pre.length xs rfl R6.out a0 xo a1.length xc rfl hrl.out hR6 ?_
      intro g7 cp7 w7 h71 h72 h73
      have hb7 : Below (R + 1) w3 w7 := (hb6.alloc hR6 _).grown h72 (by simp; omega) (fun r hr => (R6.out.lt r hr).1)
      have T7 := Lib.hid (HT23.out.low hb7 (Nat.lt_succ_self _))
      have q1 := T7.out.cell 1 rfl
      have f1 := T7.out.soft 1
      clear hU
      refine hK.out _ _ ?_ (fun hU => ?_)
      · (try dsimp only)
        first | exact KP.out _ _ (by assumption) | exact KP.out _ _ hbz8 | exact KP.out _ _ hbd | exact KP.out _ _ (Below.alloc (by assumption) (by first | exact hRd | exact hR6) _) | exact ⟨SK1.out _ (Below.setCell (hb7.mono (Nat.le_succ R)) (p := ⟨R, 1, none⟩) (Nat.le_refl _) _), fun h => absurd (h.symm.trans (show _ = true by kernel_rfl)) (by decide)⟩
      clear hK K
      (try simp only [Act.put, List.setIfInBounds_toArray, List.set_cons_zero, List.set_cons_succ])
      refine wpAnyL_take (i := 19) (oi := _) (v := ?_) rfl (by decide) (by kernel_rfl) (by kernel_rfl) (by kernel_rfl) (fun _ _ _ h => h) (Or.inl ⟨by rfl, ?_⟩) (by assumption) ?_
      rotate_left
      · intro w hSw; (try dsimp only at hSw); go_simp; (try with_reducible rfl)
      clear hU; intro hU
      (try simp only [Act.put, List.setIfInBounds_toArray, List.set_cons_zero, List.set_cons_succ])
      refine wpAnyL_ready (rs := [20]) (by kernel_rfl) (by simp) ?_
      refine AllReadyL.cons (o := _) rfl (fun K hK => ?_) (AllReadyL.nil)
      go_simp
      clear hU
      refine hK.out _ _ ?_ (fun hU => ?_)
      · (try dsimp only)
        first | exact KP.out _ _ (by assumption) | exact KP.out _ _ hbz8 | exact KP.out _ _ hbd | exact KP.out _ _ (Below.alloc (by assumption) (by first | exact hRd | exact hR6) _) | exact ⟨SK1.out _ (Below.setCell (hb7.mono (Nat.le_succ R)) (p := ⟨R, 1, none⟩) (Nat.le_refl _) _), fun h => absurd (h.symm.trans (show _ = true by kernel_rfl)) (by decide)⟩
      clear hK K
      (try simp only [Act.put, List.setIfInBounds_toArray, List.set_cons_zero, List.set_cons_succ])
      refine wpAnyL_done (by kernel_rfl) ?_ _
      have HG9 : Hid (Grow attrE 83 (R + 1) (w7.setCell ⟨R, 1, none⟩ (.slice (some ⟨g7, 0, none⟩) (pre.length + 1) cp7)) (.slice (some ⟨g7, 0, none⟩) (pre.length + 1) cp7) (pre ++ [(a0, a1)]) (xs ++ [.string a0, .slice xo a1.length xc])) := Lib.hid ((Grow.step HG3.out hR3 hbel6 (attr_pack a0 a1 _ (Fresh w3 w6) ⟨Q6.out, fun _ h => h, trivial⟩) (more' (Below.refl _ _) _) h71 h72 (fun g' hg' => by
        have e : g7 = g' := by simpa [Value.ownBlock] using hg'
        subst e
        rcases h73 with h | h
        · exact .inl h
        · exact .inr (by omega))).cellOut (Nat.lt_succ_self R))
      have T9 := Lib.hid (T7.out.set 1 (.slice (some ⟨g7, 0, none⟩) (pre.length + 1) cp7))
      have A9 := Lib.hid ((HT03.out.low hb7 (by omega)).far (j := 1) (R := R) (by omega) (.slice (some ⟨g7, 0, none⟩) (pre.length + 1) cp7))
      have U9 := Lib.hid ((HT13.out.low hb7 (by omega)).far (j := 1) (R := R) (by omega) (.slice (some ⟨g7, 0, none⟩) (pre.length + 1) cp7))
      have D9 := Lib.hid (((HOD3.out.frame (S := SF) (fun k h _ => hb7.block k (by have := (hSF.out k h).2; omega)))).frame (Same.set _ (g := R) 1 (.slice (some ⟨g7, 0, none⟩) (pre.length + 1) cp7) (by intro h; have := (hSF.out _ h).2; omega)))
      have B9 := Lib.hid (HB3.out.trans (((hb7.mono (Nat.le_succ R)).setCell (p := ⟨R, 1, none⟩) (Nat.le_refl _) (.slice (some ⟨g7, 0, none⟩) (pre.length + 1) cp7)).mono (by omega)))
      clear SK1 KP hbd hbz8 OZ HSz h71 h72 h73 hb7 hbel6 hU T7 q1 f1 BZ D3 HS3
      go_wp2
      go_roundw
      case rel => exact ⟨k + 1, some ⟨g7, 0, none⟩, pre.length + 1, cp7, _, by omega, by go_num, A9.out, U9.out, T9.out, by rw [HT2'.out]; exact HG9.out, D9.out, B9.out⟩
      case measure => simp [intOf]; omega
    · have e : at_.take k = at_ := List.take_of_length_le (by omega)
      have HO : Hid (SlOwn attrE (fun b => R + 1 ≤ b ∧ b < wr.heap.size) wr (readR d who dn at_) (.slice p (readR d who dn (at_.take k)).length c)) := Lib.hid (by have := HG.out.own; rw [e] at this ⊢; exact this)
      clear e
      have x0 := HT1.out.cell 0 rfl
      have x1 := HT1.out.cell 1 rfl
      have y0 := HT2.out.cell 0 rfl
      have y1 := HT2.out.cell 1 rfl
      have f0 := HT1.out.soft 0
      have f1 := HT1.out.soft 1
      have TE := (HT1.out.set 0 (.slice d0 dn.length dc)).set 1 (.slice p (readR d who dn (at_.take k)).length c)
      have j0 := TE.cell 0 rfl
      have j1 := TE.cell 1 rfl
      clear TE
      go_wp2_with fail
      refine bodyPost_ret (v := .tuple #[.agg #[.slice d0 dn.length dc, .slice p (readR d who dn (at_.take k)).length c], .bool true]) (by simp [results, Try.results81, go_sem, j0, j1]) rfl ⟨(fun h => by cases h), fun _ => ⟨_, _, SF, (fun b => R + 1 ≤ b ∧ b < wr.heap.size), rfl, ?_, ?_, (fun b h => ?_), (fun b h => ?_), fun b h1 h2 => ?_⟩, ?_⟩
      · exact ((HOD.out.frame (Same.set _ (g := w.heap.size + 1) 0 _ (by intro h; have := (hSF.out _ h).1; omega))).frame (Same.set _ (g := w.heap.size + 1) 1 _ (by intro h; have := (hSF.out _ h).1; omega)))
      · exact ((HO.out.frame (Same.set _ (g := w.heap.size + 1) 0 _ (by intro h; have := h.1; omega))).frame (Same.set _ (g := w.heap.size + 1) 1 _ (by intro h; have := h.1; omega)))
      · have h1 := hSF.out b h
        exact ⟨by omega, by show _ < (World.heap _).size; simp only [setCell_size]; omega⟩
      · exact ⟨by have := h.1; omega, by have := h.2; show _ < (World.heap _).size; simp only [setCell_size]; omega⟩
      · have := hSF.out b h1; have := h2.1; omega
      · exact (HB.out.setCell (p := ⟨w.heap.size + 1, 0, none⟩) (by show w.heap.size ≤ w.heap.size + 1; omega) _).setCell (p := ⟨w.heap.size + 1, 1, none⟩) (by show w.heap.size ≤ w.heap.size + 1; omega) _
end Go.Proofs.Ytglgkocjdockdaa
