/- Merged texts: Pg, Held2, Held3, VwS00, L3c, ClsMath, EntR1, ClsR1. -/
import Derived.Test.YtlgafmgohinkbaaM4
import Derived.Deep.RegionHeld
import Derived.Test.YtlgafmgohinkbaaM1
import Derived.Test.YtlgafmgohinkbaaM3
import Derived.Shelf.Small.Strs
/- PageOf: what the program returns. -/
namespace Go.Proofs.Ytlgafmgohinkbaa
open Go.RowKit
attribute [local go_sem ↓] Go.wp_at_zero Go.wp_at_succ

theorem calls_sl {P : Program} {f : Nat} {ao : Option Addr} {n c n' c' : Nat} {x : Value} {w : World} {Q : Ending → World → Prop} (h : Calls P f #[.slice ao n c, x] w Q) (e1 : n' = n) (e2 : c' = c) : Calls P f #[.slice ao n' c', x] w Q := by subst e1 e2; exact h
/-- a page -/
def pageR (d : List EntryT) (n m : Int) : List EntryT := if d.length ≤ 20 ∧ 0 ≤ n ∧ 1 ≤ m ∧ m ≤ 20 then (d.drop n.toNat).take m.toNat else []
theorem SlAt.part {α : Type} {e : Enc α} {S : Bs} {w : World} {l : List α} {b off n cap i j c : Nat} (h : SlAt e S w l (.slice (some ⟨b, off, none⟩) n cap)) (hij : i + j ≤ l.length) (hc : j ≤ c) : SlAt e S w ((l.drop i).take j) (.slice (some ⟨b, off + i * e.n, none⟩) j c) := by
  obtain ⟨ao', cap', e1, _, _, h4⟩ := h
  injection e1 with e1 _ _
  subst e1
  have hl : ((l.drop i).take j).length = j := by rw [List.length_take, List.length_drop]; omega
  refine ⟨_, c, by rw [hl], by omega, (fun x => by cases x), ?_⟩
  rcases h4 with h4 | ⟨b', off', g1, g2, g3, g4⟩
  · exact .inl (by rw [h4]; simp)
  · cases g1
    refine .inr ⟨b, off + i * e.n, rfl, g2, g3, fun k hk => ?_⟩
    rw [hl] at hk
    obtain ⟨cs, q1, q2⟩ := g4 (i + k) (by omega)
    refine ⟨cs, ?_, ?_⟩
    · rw [Nat.add_assoc, ← Nat.add_mul]; exact q1
    · rw [List.getElem_take, List.getElem_drop]; exact q2
set_option maxRecDepth 100000 in
set_option maxHeartbeats 1000000 in
theorem PageOf_any {S : Bs} (v : Value) (d : List EntryT) (n m : Int) (w : World) (hd : SlAt entryE S w d v) (hz : d.length + szL entryE d ≤ 1048576) :
    Calls Try.prog 30 #[v, .int .i64 n, .int .i64 m] w fun e w' => (∃ u, e = .returned u ∧ SlOwn entryE (Fresh w w') w' (pageR d n m) u) ∧ Below w.heap.size w w' := by
  have hl : d.length ≤ 1048576 := by omega
  obtain ⟨ao, ca, rfl⟩ := hd.sl
  by_cases c1 : d.length ≤ 20
  rotate_left
  · have HR : Hid (pageR d n m = []) := Lib.hid (by unfold pageR; rw [if_neg (by omega)])
    have c1' : (20 : Int) < (d.length : Int) := by omega
    clear hd
    go_enter Try.func30, Try.ntmps30
    go_wp2
    go_ret
    rw [HR.out]
    exact ⟨⟨_, rfl, own_nilS _ _ _⟩, Below.refl _ _⟩
  have c1' : ¬ (20 : Int) < (d.length : Int) := by omega
  by_cases c2 : 0 ≤ n
  rotate_left
  · have HR : Hid (pageR d n m = []) := Lib.hid (by unfold pageR; rw [if_neg (by omega)])
    have c2' : n < 0 := by omega
    clear hd
    go_enter Try.func30, Try.ntmps30
    go_wp2
    go_ret
    rw [HR.out]
    exact ⟨⟨_, rfl, own_nilS _ _ _⟩, Below.refl _ _⟩
  have c2' : ¬ n < 0 := by omega
  by_cases c3 : 1 ≤ m
  rotate_left
  · have HR : Hid (pageR d n m = []) := Lib.hid (by unfold pageR; rw [if_neg (by omega)])
    have c3' : m < 1 := by omega
    clear hd
    go_enter Try.func30, Try.ntmps30
    go_wp2
    go_ret
    rw [HR.out]
    exact ⟨⟨_, rfl, own_nilS _ _ _⟩, Below.refl _ _⟩
  have c3' : ¬ m < 1 := by omega
  by_cases c4 : m ≤ 20
  rotate_left
  · have HR : Hid (pageR d n m = []) := Lib.hid (by unfold pageR; rw [if_neg (by omega)])
    have c4' : 20 < m := by omega
    clear hd
    go_enter Try.func30, Try.ntmps30
    go_wp2
    go_ret
    rw [HR.out]
    exact ⟨⟨_, rfl, own_nilS _ _ _⟩, Below.refl _ _⟩
  have c4' : ¬ 20 < m := by omega
  have HR : Hid (pageR d n m = (d.drop n.toNat).take m.toNat) := Lib.hid (by unfold pageR; rw [if_pos ⟨c1, c2, c3, c4⟩])
  generalize pageR d n m = R at *
  obtain ⟨i, rfl⟩ : ∃ i : Nat, n = (i : Int) := ⟨n.toNat, by omega⟩
  obtain ⟨j, rfl⟩ : ∃ j : Nat, m = (j : Int) := ⟨m.toNat, by omega⟩
  have hca : d.length ≤ ca := hd.cap.2.1
  have CP : Hid (∀ (u : Value) (l : List EntryT) (W : World), SlAt entryE S W l u → l.length + szL entryE l ≤ 1048576 → Calls Try.prog 91 #[u, .func (.func 92) #[] #[]] W fun e w' => (∃ u, e = .returned u ∧ SlOwn entryE (Fresh W w') w' l u) ∧ Below W.heap.size W w') := Lib.hid (fun u l W h z => cpysEntry_any u l W h z)
  by_cases hi : i < d.length
  rotate_left
  · have HR2 : Hid (R = []) := Lib.hid (by rw [HR.out, List.drop_eq_nil_of_le (by omega)]; simp)
    have HS : Hid (SlAt entryE S w [] (.slice ao 0 0)) := Lib.hid ⟨ao, 0, rfl, Nat.le_refl _, fun _ => rfl, .inl rfl⟩
    have m1 : min (i : Int) (d.length : Int) = (d.length : Int) := by omega
    have m2 : min ((d.length : Int) + (j : Int)) (d.length : Int) = (d.length : Int) := by omega
    have hz0 : ([] : List EntryT).length + szL entryE [] ≤ 1048576 := by simp [szL]
    have HC := Lib.hid (CP.out _ [] w HS.out hz0)
    clear hd HR CP HS
    go_enter Try.func30, Try.ntmps30
    go_wp2_with fail
    all_goals clear m1 m2
    all_goals
      refine calls_sl (n := 0) (c := 0) ?_ (by omega) (by omega)
      refine HC.out.mono ?_
      rintro e w2 ⟨⟨u, rfl, q⟩, hb⟩
      have Q := Lib.hid q
      clear q
      go_wp2
      go_ret
      rw [HR2.out]
      exact ⟨⟨_, rfl, Q.out⟩, hb⟩
  obtain ⟨b, off, x0, x1, y0, y1, rfl, _⟩ := entry_row hd hi
  have hsz : ∀ n, ((d.drop i).take n).length + szL entryE ((d.drop i).take n) ≤ 1048576 := fun n => by
    have h1 := szL_le entryE (d.drop i) n
    have h2 : szL entryE d = szL entryE (d.take i) + szL entryE (d.drop i) := by unfold szL; rw [← List.sum_append, ← List.map_append, List.take_append_drop]
    have h3 : ((d.drop i).take n).length ≤ d.length := by rw [List.length_take, List.length_drop]; omega
    omega
  by_cases he : i + j ≤ d.length
  · have HR2 : Hid (R = (d.drop i).take j) := Lib.hid (by rw [HR.out]; rfl)
    have HC := Lib.hid (CP.out _ _ w (hd.part (i := i) (j := j) (c := j) he (Nat.le_refl _)) (hsz j))
    have en : entryE.n = 2 := rfl
    rw [en] at HC
    clear en
    have m1 : min (i : Int) (d.length : Int) = (i : Int) := by omega
    have m2 : min ((i : Int) + (j : Int)) (d.length : Int) = (i : Int) + (j : Int) := by omega
    have e1' : (i : Int) + (j : Int) - i = j := by omega
    have he' : ¬ (d.length : Int) < (i : Int) + (j : Int) := by omega
    clear hd HR CP hsz
    go_enter Try.func30, Try.ntmps30
    go_wp2_with fail
    all_goals clear m1 m2
    clear e1'
    generalize (d.drop i).take j = R2 at *
    have X := HC.out
    clear HC
    refine calls_sl (n := j) (c := j) ?_ (by omega) (by omega)
    refine X.mono ?_
    rintro e w2 ⟨⟨u, rfl, q⟩, hb⟩
    have Q := Lib.hid q
    clear q
    go_wp2
    go_ret
    rw [HR2.out]
    exact ⟨⟨_, rfl, Q.out⟩, hb⟩
  · have HR2 : Hid (R = (d.drop i).take (d.length - i)) := Lib.hid (by rw [HR.out]; show (d.drop i).take j = _; rw [List.take_of_length_le (by rw [List.length_drop]; omega), List.take_of_length_le (by rw [List.length_drop]; omega)])
    have HC := Lib.hid (CP.out _ _ w (hd.part (i := i) (j := d.length - i) (c := d.length - i) (by omega) (Nat.le_refl _)) (hsz _))
    have en : entryE.n = 2 := rfl
    rw [en] at HC
    clear en
    have m1 : min (i : Int) (d.length : Int) = (i : Int) := by omega
    have m2 : min ((i : Int) + (j : Int)) (d.length : Int) = (d.length : Int) := by omega
    have he' : (d.length : Int) < (i : Int) + (j : Int) := by omega
    clear hd HR CP hsz
    go_enter Try.func30, Try.ntmps30
    go_wp2_with fail
    all_goals clear m1 m2
    generalize (d.drop i).take (d.length - i) = R2 at *
    have X := HC.out
    clear HC
    refine calls_sl (n := d.length - i) (c := d.length - i) ?_ (by omega) (by omega)
    refine X.mono ?_
    rintro e w2 ⟨⟨u, rfl, q⟩, hb⟩
    have Q := Lib.hid q
    clear q
    go_wp2
    go_ret
    rw [HR2.out]
    exact ⟨⟨_, rfl, Q.out⟩, hb⟩
end Go.Proofs.Ytlgafmgohinkbaa
/- A region that draws its order, where a cell that is loaded is stored anew at its end: the load may be taken first, because the store waits for what waits for the load. -/
namespace Go.Proofs.Ytlgafmgohinkbaa
open Go Go.RowKit

section
variable {P : Program} {ops : Array Oper} {Q : Exit → Act → World → Prop} {md : Region.Mode} {S S' : World → Prop} {k : Nat}
/-- what is to hold behind an operation: S, and S' as long as number k has not come up -/
def Until (S S' : World → Prop) (k : Nat) (listed : Array Bool) (w : World) : Prop := S w ∧ (listed.getD k true = false → S' w)
def wpAnyL (P : Program) (md : Region.Mode) (ops : Array Oper) (Q : Exit → Act → World → Prop) (S S' : World → Prop) (k : Nat) : Nat → Array Bool → Act → World → Prop
  | 0, listed, a, w => Region.ready md ops listed = [] ∧ Q .normal a w
  | fuel + 1, listed, a, w =>
    (Region.ready md ops listed = [] → Q .normal a w) ∧
    ∀ i ∈ Region.ready md ops listed, wpOp P ops Q i (fun a' w' => Until S S' k (listed.setIfInBounds i true) w' ∧ wpAnyL P md ops Q S S' k fuel (listed.setIfInBounds i true) a' w') a w
theorem wpAny_of_until : ∀ (fuel : Nat) (listed : Array Bool) (a : Act) (w : World), wpAnyL P md ops Q S S' k fuel listed a w → wpAny P md ops Q fuel listed a w
  | 0, _, _, _, h => h
  | fuel + 1, _, _, _, h => ⟨h.1, fun i hi => wpOp_mono (fun a' w' h' => wpAny_of_until fuel _ a' w' h'.2) (h.2 i hi)⟩
theorem Until.step {listed : Array Bool} {i j : Nat} {w : World} (hki : i ≠ k) (h : Until S S' k ((listed.setIfInBounds i true).setIfInBounds j true) w) : Until S S' k (listed.setIfInBounds j true) w := by
  refine ⟨h.1, fun hk => h.2 ?_⟩
  by_cases hji : i = j
  · subst hji
    rw [getD_set_ne true hki] at hk ⊢
    rw [getD_set_ne true hki]; exact hk
  · rw [Array.setIfInBounds_comm _ _ hji, getD_set_ne true hki]; exact hk
/-- an operation that yields in every world that meets R is taken first; R is known behind each operation that may come before it -/
theorem wpAnyL_first {R : World → Prop} {i : Nat} {oi : Oper} {v : Value} (hi : ops[i]? = some oi) (hki : i ≠ k) (hsel : ∀ (j : Nat) (o : Oper) cs b, ops[j]? = some o → o.op ≠ .select cs b)
    (hQ : ∀ c a w, Q (.panic c) (a.put oi.dst v) w → Q (.panic c) a w) (I : Array Bool → Prop)
    (hI : ∀ (listed : Array Bool) (j : Nat), listed.getD i true = false → I listed → j ∈ Region.ready md ops listed → j ≠ i → I (listed.setIfInBounds j true) ∧ ∀ w, Until S S' k (listed.setIfInBounds j true) w → R w) :
    ∀ (fuel : Nat) (listed : Array Bool) (a : Act) (w : World), I listed →
      (∀ j oj, ops[j]? = some oj → j ≠ i → listed.getD j true = false → (∀ e ∈ oj.after, Region.binds md e = true → e.on ≠ i) → oi.apart ops oj = true) →
      i ∈ Region.ready md ops listed → YieldsIf P ops R oi v a → R w → Until S S' k (listed.setIfInBounds i true) w →
      wpAnyL P md ops Q S S' k fuel (listed.setIfInBounds i true) (a.put oi.dst v) w → wpAnyL P md ops Q S S' k (fuel + 1) listed a w := by
  intro fuel
  induction fuel with
  | zero =>
    intro listed a w _ _ hr hy hR hS H
    refine ⟨fun h => (by rw [h] at hr; cases hr), fun j hj => ?_⟩
    by_cases hji : j = i
    · subst hji; exact hy.wpOp hi hR ⟨hS, H⟩
    · have := ready_mono hj hji
      rw [H.1] at this
      cases this
  | succ fuel ih =>
    intro listed a w hIl hfree hr hy hR hS H
    refine ⟨fun h => (by rw [h] at hr; cases hr), fun j hj => ?_⟩
    by_cases hji : j = i
    · subst hji; exact hy.wpOp hi hR ⟨hS, H⟩
    · have h1 := H.2 j (ready_mono hj hji)
      obtain ⟨hjun, oj, hoj, hall⟩ := mem_ready.1 hj
      have hnot : ∀ e ∈ oj.after, Region.binds md e = true → e.on ≠ i := fun e he hb heq => by
        have h1 := hall e he hb
        have h0 := (mem_ready.1 hr).1
        rw [heq] at h1
        rcases Nat.lt_or_ge i listed.size with h' | h'
        · simp [h'] at h0 h1; rw [h0] at h1; cases h1
        · simp [Array.getElem?_eq_none h'] at h1
      have h2 := wpOp_putIf hoj (hfree j oj hoj hji hjun hnot) (fun cs b => hsel i oi cs b hi) (fun cs b => hsel j oj cs b hoj) hQ hy h1
      have hfree' : ∀ k ok, ops[k]? = some ok → k ≠ i → (listed.setIfInBounds j true).getD k true = false →
          (∀ e ∈ ok.after, Region.binds md e = true → e.on ≠ i) → oi.apart ops ok = true := fun k ok hk hki hun hno => by
        refine hfree k ok hk hki ?_ hno
        by_cases hjk : j = k
        · subst hjk; exact hjun
        · rw [getD_set_ne true hjk] at hun; exact hun
      obtain ⟨hI', hRk⟩ := hI listed j (mem_ready.1 hr).1 hIl hj hji
      refine wpOp_mono (fun a' w' h3 => ?_) h2
      have hU := h3.2.1
      have hU' := hU.step hki
      refine ⟨hU', ih (listed.setIfInBounds j true) a' w' hI' hfree' (ready_mono hr (Ne.symm hji)) h3.1 (hRk w' hU') ?_ ?_⟩
      · rw [Array.setIfInBounds_comm _ _ hji]; exact hU
      · rw [Array.setIfInBounds_comm _ _ hji]; exact h3.2.2
/-- take number i first: it yields in every world that meets S -/
theorem wpAnyL_take {i : Nat} {oi : Oper} {v : Value} {fuel : Nat} {listed : Array Bool} {a : Act} {w : World} (hi : ops[i]? = some oi) (hki : i ≠ k)
    (hs : Region.noSelect ops = true) (hf : Region.free md ops listed i = true) (hr : (Region.ready md ops listed).contains i = true)
    (hQ : ∀ c a w, Q (.panic c) (a.put oi.dst v) w → Q (.panic c) a w) (hy : YieldsIf P ops S oi v a) (hS : Until S S' k listed w)
    (h : Until S S' k (listed.setIfInBounds i true) w → wpAnyL P md ops Q S S' k fuel (listed.setIfInBounds i true) (a.put oi.dst v) w) : wpAnyL P md ops Q S S' k (fuel + 1) listed a w := by
  have hU : Until S S' k (listed.setIfInBounds i true) w := ⟨hS.1, fun hk => hS.2 (by rw [getD_set_ne true hki] at hk; exact hk)⟩
  exact wpAnyL_first (R := S) hi hki (Region.noSelect_spec hs) hQ (fun _ => True) (fun _ _ _ _ _ _ => ⟨trivial, fun _ h => h.1⟩) fuel listed a w trivial (Region.free_spec hi hf) (by simpa using hr) hy hS.1 hU (h hU)
/-- take number i first: it yields in every world that meets S'; number m waits for it, and number k for m -/
theorem wpAnyL_load {i m : Nat} {oi om ok : Oper} {v : Value} {fuel : Nat} {listed : Array Bool} {a : Act} {w : World} (hi : ops[i]? = some oi) (hki : i ≠ k)
    (hs : Region.noSelect ops = true) (hf : Region.free md ops listed i = true) (hr : (Region.ready md ops listed).contains i = true)
    (hom : ops[m]? = some om) (hok : ops[k]? = some ok) (hmi : om.after.any (fun e => Region.binds md e && (e.on == i)) = true) (hkm : ok.after.any (fun e => Region.binds md e && (e.on == m)) = true)
    (hlm : listed.getD m true = false) (hlk : listed.getD k true = false)
    (hQ : ∀ c a w, Q (.panic c) (a.put oi.dst v) w → Q (.panic c) a w) (hy : YieldsIf P ops S' oi v a) (hS : Until S S' k listed w)
    (h : Until S S' k (listed.setIfInBounds i true) w → wpAnyL P md ops Q S S' k fuel (listed.setIfInBounds i true) (a.put oi.dst v) w) : wpAnyL P md ops Q S S' k (fuel + 1) listed a w := by
  have hU : Until S S' k (listed.setIfInBounds i true) w := ⟨hS.1, fun hk => hS.2 (by rw [getD_set_ne true hki] at hk; exact hk)⟩
  have waits : ∀ {x y : Nat} {ox : Oper} {listed : Array Bool}, ops[x]? = some ox → ox.after.any (fun e => Region.binds md e && (e.on == y)) = true → listed.getD y true = false → x ∉ Region.ready md ops listed := by
    intro x y ox L hx ha hy hr
    obtain ⟨_, o, ho, hall⟩ := mem_ready.1 hr
    rw [hx] at ho
    cases ho
    obtain ⟨e, he, hb⟩ := Array.any_eq_true'.1 ha
    simp only [Bool.and_eq_true, beq_iff_eq] at hb
    have := hall e he hb.1
    rw [hb.2] at this
    rcases Nat.lt_or_ge y L.size with h' | h'
    · simp [h'] at this hy; rw [hy] at this; cases this
    · simp [Array.getElem?_eq_none h'] at this
  refine wpAnyL_first (R := S') hi hki (Region.noSelect_spec hs) hQ (fun L => L.getD m true = false ∧ L.getD k true = false) ?_ fuel listed a w ⟨hlm, hlk⟩ (Region.free_spec hi hf) (by simpa using hr) hy (hS.2 hlk) hU (h hU)
  intro L j hLi ⟨h1, h2⟩ hj hji
  have hjm : j ≠ m := fun e => waits hom hmi hLi (e ▸ hj)
  have hjk : j ≠ k := fun e => waits hok hkm h1 (e ▸ hj)
  refine ⟨⟨by rw [getD_set_ne true hjm]; exact h1, by rw [getD_set_ne true hjk]; exact h2⟩, fun w hw => hw.2 (by rw [getD_set_ne true hjk]; exact h2)⟩
theorem wpAnyL_done {listed : Array Bool} {a : Act} {w : World} (hr : Region.ready md ops listed = []) (h : Q .normal a w) :
    ∀ fuel, wpAnyL P md ops Q S S' k fuel listed a w
  | 0 => ⟨hr, h⟩
  | _ + 1 => ⟨fun _ => h, by rw [hr]; simp⟩
/-- the one operation that may come up comes up -/
theorem wpAnyL_only {i : Nat} {o : Oper} {fuel : Nat} {listed : Array Bool} {a : Act} {w : World} (hr : Region.ready md ops listed = [i]) (ho : ops[i]? = some o)
    (h : ∀ K' : Act → World → Prop, Shut (∀ a w, Until S S' k (listed.setIfInBounds i true) w → (Until S S' k (listed.setIfInBounds i true) w → wpAnyL P md ops Q S S' k fuel (listed.setIfInBounds i true) a w) → K' a w) → if Region.wanted o (yielded ops a.tmps) = true then Oper.wp P o a w K' Q else K' (a.put o.dst undef) w) :
    wpAnyL P md ops Q S S' k (fuel + 1) listed a w := by
  refine ⟨fun h0 => (by rw [hr] at h0; cases h0), fun j hj => ?_⟩
  rw [hr] at hj
  simp at hj
  subst hj
  exact wpOp_step ho (fun K' hK => h K' (fun a w hS hW => hK a w ⟨hS, hW hS⟩))
theorem wp_region_until (S S' : World → Prop) (k : Nat) {id : Nat} {a : Act} {w : World} (hm : P.follows .mixedOrders = true) (hS : S w.drew) (hS' : S' w.drew)
    (h : Until S S' k (Array.replicate ops.size false) w.drew → wpAnyL P .any ops Q S S' k ops.size (Array.replicate ops.size false) a w.drew) : (Code.region id ops true).wp P Q a w :=
  wp_region_any hm (wpAny_of_until _ _ _ _ (h ⟨hS, fun _ => hS'⟩))
end
end Go.Proofs.Ytlgafmgohinkbaa
/- A region that draws, with a store at its end: several operations may come up. -/
namespace Go.Proofs.Ytlgafmgohinkbaa
open Go Go.RowKit

section
variable {P : Program} {ops : Array Oper} {Q : Exit → Act → World → Prop} {md : Region.Mode} {S S' : World → Prop} {k : Nat}
/-- each of the operations that may come up comes up next -/
def AllReadyL (P : Program) (md : Region.Mode) (ops : Array Oper) (Q : Exit → Act → World → Prop) (S S' : World → Prop) (k fuel : Nat) (listed : Array Bool) (a : Act) (w : World) (rs : List Nat) : Prop :=
  ∀ i ∈ rs, wpOp P ops Q i (fun a' w' => Until S S' k (listed.setIfInBounds i true) w' ∧ wpAnyL P md ops Q S S' k fuel (listed.setIfInBounds i true) a' w') a w
theorem AllReadyL.nil {fuel : Nat} {listed : Array Bool} {a : Act} {w : World} : AllReadyL P md ops Q S S' k fuel listed a w [] := fun _ h => by cases h
theorem AllReadyL.cons {fuel : Nat} {listed : Array Bool} {a : Act} {w : World} {i : Nat} {o : Oper} {rs : List Nat} (ho : ops[i]? = some o)
    (h : ∀ K' : Act → World → Prop, Shut (∀ a w, Until S S' k (listed.setIfInBounds i true) w → (Until S S' k (listed.setIfInBounds i true) w → wpAnyL P md ops Q S S' k fuel (listed.setIfInBounds i true) a w) → K' a w) → if Region.wanted o (yielded ops a.tmps) = true then Oper.wp P o a w K' Q else K' (a.put o.dst undef) w)
    (hs : AllReadyL P md ops Q S S' k fuel listed a w rs) : AllReadyL P md ops Q S S' k fuel listed a w (i :: rs) := fun j hj => by
  rcases List.mem_cons.1 hj with rfl | hj
  · exact wpOp_step ho (fun K' hK => h K' (fun a w hS hW => hK a w ⟨hS, hW hS⟩))
  · exact hs j hj
theorem wpAnyL_ready {rs : List Nat} {fuel : Nat} {listed : Array Bool} {a : Act} {w : World} (hr : Region.ready md ops listed = rs) (hne : rs ≠ [])
    (h : AllReadyL P md ops Q S S' k fuel listed a w rs) : wpAnyL P md ops Q S S' k (fuel + 1) listed a w :=
  ⟨fun h0 => absurd (hr ▸ h0) hne, hr ▸ h⟩
end
end Go.Proofs.Ytlgafmgohinkbaa
/- Copies by the specification: the steps. -/
namespace Go.Proofs.Ytlgafmgohinkbaa
open Go.RowKit
attribute [local go_sem ↓] Go.wp_at_zero Go.wp_at_succ

theorem own_zeroD (w : World) {B g : Nat} (hg : g = w.heap.size) (hB : B ≤ g) : (w.alloc (.cells #[] 157)).ownsRow B 157 2 (.slice (some ⟨g, 0, none⟩) 0 0) 0 (rs []) := by
  subst hg
  exact ⟨rfl, .inr ⟨w.heap.size, 0, #[], rfl, hB, heap_alloc_new w _, by simp, by unfold maxLen; simp, rfl, rfl⟩⟩
set_option maxRecDepth 100000 in
theorem l03Ill_any (c : Int) (w : World) :
    Calls Try.prog 126 #[.int .i64 c] w fun e w' => e = .returned (.agg #[.slice none 0 0, .slice none 0 0, .int .i64 c]) ∧ Below w.heap.size w w' := by
  go_enter Try.func126, Try.ntmps126
  go_wp2
  exact bodyPost_ret (v := .agg #[.slice none 0 0, .slice none 0 0, .int .i64 c]) (by simp [results, Try.results126, go_sem]) rfl ⟨rfl, more' (Below.refl _ _) _⟩

theorem grown_set (w : World) (R j : Nat) (x : Value) : w.grownBy (w.setCell ⟨R, j, none⟩ x) (some R) :=
  ⟨rfl, rfl, rfl, by rw [setCell_size]; exact Nat.le_refl _, fun k hk hne => Below.heap_setCell _ _ _ _ (fun e => hne (by rw [show R = k from e.symm]))⟩
theorem own_cellOut {w : World} {B e z n R j : Nat} {v x : Value} {xs : List Value} (h : w.ownsRow B e z v n xs) (hR : R < B) : (w.setCell ⟨R, j, none⟩ x).ownsRow B e z v n xs := by
  refine h.kept (grown_set w R j x) ?_
  cases hu : v.ownBlock with
  | none => exact .inl rfl
  | some g =>
    right
    intro e
    injection e with e
    have := (h.lt g hu).1
    omega
theorem Grow.cellOut {α : Type} {e : Enc α} {T : TypeId} {B R j : Nat} {w : World} {v x : Value} {l : List α} {xs : List Value} (h : Grow e T B w v l xs) (hR : R < B) : Grow e T B (w.setCell ⟨R, j, none⟩ x) v l xs := by
  obtain ⟨hr, P, h1, h2, h3⟩ := h
  refine ⟨own_cellOut hr hR, P, fun i hi => ⟨fun b hx => ⟨((h1 i hi).1 b hx).1, by rw [setCell_size]; exact ((h1 i hi).1 b hx).2⟩, (h1 i hi).2⟩, h2, fun i hi => ?_⟩
  obtain ⟨cs, q1, q2⟩ := h3 i hi
  exact ⟨cs, q1, e.ownFrame q2 (Same.set _ j x (fun hx => by have := ((h1 i hi).1 R hx).1; omega))⟩
theorem Blk.low {w w' : World} {g N : Nat} {cs : List Value} (h : Blk w g cs) (hb : Below N w w') (hg : g < N) : Blk w' g cs := by
  obtain ⟨T, ht⟩ := h
  exact ⟨T, (hb.block g hg).trans ht⟩
section
variable {ops : Array Oper} {o : Oper} {a : Act} {Q : Exit → Act → World → Prop} {K : Act → World → Prop} {E : Prop} {w3 : World}
/-- append([]string{}, texts...) in a drawn region -/
theorem step_texts (B : Nat) (hgd : o.guard = none) (s x : Operand)
    (ho : o.op = .call { callee := .builtin .append, args := #[s, x], argTypes := #[29, 29] }) (v : Value) (hs : a.eval s = v) (hown : w3.ownsRow B 9 1 v 0 [])
    (ao : Option Addr) (d : List ByteArray) (c : Nat) (hx : a.eval x = .slice ao d.length c) (hd : StrsAt w3 ao d) (hc : ao = none → c = 0) (hlen : d.length ≤ 1000000000) (hB : B ≤ w3.heap.size)
    (h : ∀ v' w', w'.ownsRow B 9 1 v' d.length (d.map Value.string) → w3.grownBy w' v.ownBlock → K (a.put o.dst v') w') :
    if Region.wanted o (yielded ops a.tmps) = true then Oper.wp Try.prog o a w3 K Q else E := by
  have hw : Region.wanted o (yielded ops a.tmps) = true := by simp [Region.wanted, hgd]
  rw [if_pos hw]
  obtain ⟨i0, hi, hz0, hz1, hz2⟩ := info_parts Try.info9
  rcases ao with _ | ad
  · have hd0 : d = [] := by
      rcases hd with h | ⟨b, off, e, _⟩
      · exact h
      · cases e
    subst hd0
    have := hc rfl
    subst this
    have hrun := run_append_owned_none (P := Try.prog) (w := w3) B 29 o.type 9 i0 1 Try.underlying29 hi v 0 [] hown
    unfold Oper.wp execOp
    simp only [ho, resolve, invoke, builtin, Sem.run_bind, Sem.run_pure, Result.andThen_ok, List.map_toArray, List.map_cons, List.map_nil, hs, hx]
    erw [hrun]
    exact h v w3 hown ⟨rfl, rfl, rfl, Nat.le_refl _, fun _ _ _ => rfl⟩
  · have hnews : ∀ j u, (d.map Value.string)[j]? = some u → w3.cell? (ad.add j) = some u := by
      rcases hd with hd | ⟨b, off, e, h2, h3⟩
      · subst hd; intro j u hu; simp at hu
      · cases e
        intro j u hu
        have ea : (⟨b, off, none⟩ : Addr).add j = ⟨b, off + j, none⟩ := by unfold Addr.add; split <;> simp_all
        rw [ea]
        rw [List.getElem?_map] at hu
        by_cases hj : j < d.length
        · rw [List.getElem?_eq_getElem hj] at hu
          cases hu
          exact h3 j hj
        · rw [List.getElem?_eq_none (by omega)] at hu; cases hu
    refine wp_append_own _ s x 29 ho B 9 i0 _ 1 16 Try.underlying29 hi hz0 hz1 hz2 rfl (by decide) v 0 [] hs hown ad d.length c (d.map Value.string) hx (by simp) hnews (by intro u hu; obtain ⟨t, _, rfl⟩ := List.mem_map.1 hu; rfl) ?_ ?_ hB ?_
    · unfold maxLen; omega
    · omega
    · intro v' w' h1 h2 h3
      rw [Nat.zero_add] at h1
      exact h v' w' h1 h2
/-- append(attrs, x) in a drawn region -/
theorem step_attr (B : Nat) (hgd : o.guard = none) (s x : Operand)
    (ho : o.op = .call { callee := .builtin .append, args := #[s, x], argTypes := #[75, 75] }) (v : Value) (n : Nat) (xs : List Value) (hs : a.eval s = v) (hown : w3.ownsRow B 97 2 v n xs)
    (A : ByteArray) (p : Option Addr) (m c : Nat) (hx : a.eval x = .slice (some ⟨w3.heap.size, 0, none⟩) 1 1) (hlen : n ≤ 100000000) (hB : B ≤ w3.heap.size)
    (h : ∀ g cap w', w'.ownsRow B 97 2 (.slice (some ⟨g, 0, none⟩) (n + 1) cap) (n + 1) (xs ++ [.string A, .slice p m c]) → (w3.alloc (.cells #[.string A, .slice p m c] 97)).grownBy w' v.ownBlock → (v.ownBlock = some g ∨ g = w3.heap.size + 1) → K (a.put o.dst (.slice (some ⟨g, 0, none⟩) (n + 1) cap)) w') :
    if Region.wanted o (yielded ops a.tmps) = true then Oper.wp Try.prog o a (w3.alloc (.cells #[.string A, .slice p m c] 97)) K Q else E := by
  obtain ⟨i0, hi, hz0, hz1, hz2⟩ := info_parts Try.infoTAttr
  refine step_append_lies _ hgd s x 75 ho B 97 i0 _ 2 40 Try.underlying75 hi hz0 hz1 hz2 rfl (by decide) v n xs hs (hown.alloc _) ⟨w3.heap.size, 0, none⟩ 1 1 [.string A, .slice p m c] hx rfl (World.news_of_block (cs := #[.string A, .slice p m c]) (t := 97) (fr := (0, 0)) (heap_alloc_new _ _)) ?_ (by omega) ?_ ?_ ?_ (w3.heap.size + 1) (by simp) ?_
  · intro u hu; simp at hu; rcases hu with rfl | rfl <;> rfl
  · unfold maxLen; omega
  · omega
  · simp; omega
  · intro g cap w' h1 h2 h3 _
    exact h g cap w' h1 h2 h3
end
section
variable {ops : Array Oper} {rest : List Oper} {o : Oper} {a : Act} {Q : Exit → Act → World → Prop} {W : World}
/-- append([]Rdn{}, dn...) -/
theorem app_dn0 (N : Nat) (hgd : o.guard = none) (s x : Operand)
    (ho : o.op = .call { callee := .builtin .append, args := #[s, x], argTypes := #[70, 70] }) (hs : a.eval s = .slice (some ⟨N, 0, none⟩) 0 0)
    (ao : Option Addr) (d : RdnL) (c n : Nat) (hn : n = d.length) (hx : a.eval x = .slice ao n c) (hd : DnAt W ao d) (hc : ao = none → c = 0) (hlen : ([] : RdnL).length + d.length ≤ 1000000000) (hN : N = W.heap.size)
    (h : ∀ v' w', w'.ownsRow N 157 2 v' d.length (rs d) → Below W.heap.size W w' → N ≤ w'.heap.size → wpList Try.prog ops Q rest (a.put o.dst v') w') :
    wpList Try.prog ops Q (o :: rest) a (W.alloc (.cells #[] 157)) := by
  subst hN
  have B0 : Below W.heap.size W (W.alloc (.cells #[] 157)) := more' (Below.refl _ _) _
  refine append_dn W.heap.size hgd s x ho _ [] hs (own_zeroD _ rfl (Nat.le_refl _)) ao d c n hn hx (hd.below B0) hc hlen B0.size B0 ?_
  intro v' w' h1 h2
  exact h v' w' h1 h2 h2.size
end
end Go.Proofs.Ytlgafmgohinkbaa
/- l03Copy: what the specification's text returns. -/
namespace Go.Proofs.Ytlgafmgohinkbaa
open Go.RowKit
attribute [local go_sem ↓] Go.wp_at_zero Go.wp_at_succ

set_option maxRecDepth 100000 in
set_option maxHeartbeats 4000000 in
theorem l03Copy_any {S : Bs} (dn : RdnL) (at_ : List AttrT) (dv av : Value) (w : World) (hd : SlAt rdnE S w dn dv) (ha : SlAt attrE S w at_ av) (hze : entryE.sz (dn, at_) ≤ 1048576) :
    Calls Try.prog 89 #[.agg #[dv, av]] w fun e w' => ∃ u0 u1, e = .returned (.agg #[u0, u1]) ∧ entryE.Own (Fresh w w') w' (dn, at_) [u0, u1] ∧ Below w.heap.size w w' := by
  have HE : entryE.sz (dn, at_) = (dn.length + szL rdnE dn) + (at_.length + szL attrE at_) := rfl
  rw [HE] at hze
  have hd0 := hd
  obtain ⟨o2, k2, rfl⟩ := hd.sl
  obtain ⟨o3, k3, rfl⟩ := ha.sl
  have HA := Lib.hid ha
  have HZ : Hid (∀ x ∈ at_, attrE.sz x ≤ 1048576) := Lib.hid (fun x h => by have h1 := szL_mem attrE h; omega)
  have HD : Hid (∀ W : World, Below w.heap.size w W → DnAt W o2 dn) := Lib.hid (fun W b => (dn_of hd0).below b)
  have hac : o2 = none → k2 = 0 := hd0.cap.2.2
  have hl : at_.length ≤ 1048576 := by omega
  have hdl : dn.length ≤ 1048576 := by omega
  clear hd hd0 ha hze HE
  have hlen : ([] : RdnL).length + dn.length ≤ 1000000000 := by simp; omega
  go_enter Try.func89, Try.ntmps89
  have W00 : Hid (∀ (C D : Array Value) (T : TypeId), C = #[.slice o2 dn.length k2, .slice o3 at_.length k3] → D = #[.slice none 0 0, .slice none 0 0] → Below w.heap.size w ((w.alloc (.cells C T)).alloc (.cells D T)) ∧ Blk ((w.alloc (.cells C T)).alloc (.cells D T)) w.heap.size [.slice o2 dn.length k2, .slice o3 at_.length k3] ∧ Blk ((w.alloc (.cells C T)).alloc (.cells D T)) (w.heap.size + 1) [.slice none 0 0, .slice none 0 0]) := Lib.hid (fun C D T hC hD => by subst hC hD; exact ⟨more' (more' (Below.refl _ _) _) _, (Blk.new _ _ _).alloc _, blk_at _ _ _ (by simp)⟩)
  go_wp2_with (first
    | (at_builtin; obtain ⟨b2, t2, r2⟩ := W00.out _ _ 77 rfl rfl; refine app_dn0 _ rfl _ _ rfl rfl o2 dn k2 _ rfl rfl (HD.out _ b2) hac hlen (by simp) ?_; intro v1 w1 hown1 hbel1 hR1; obtain ⟨d0, nn, dc, rfl⟩ := own_slice3' hown1)
    | (fail "none"))
  have T1 := Lib.hid (t2.below hbel1); have R1b := Lib.hid (r2.below hbel1)
  have b1 := b2.trans (hbel1.mono b2.size)
  have hR2 : w.heap.size + 1 + 1 ≤ w1.heap.size := hR1
  clear t2 r2 b2 hbel1 W00
  obtain ⟨d0', dc', e9, _⟩ := own_rdns hown1
  injection e9 with e1 e2 e3
  subst e1 e2 e3
  have OD := Lib.hid (own_rdns hown1)
  refine wp_world (fun W => Below w.heap.size w W ∧ Blk W w.heap.size [.slice o2 dn.length k2, .slice o3 at_.length k3] ∧ Blk W (w.heap.size + 1) [.slice none 0 0, .slice none 0 0] ∧ Blk W w1.heap.size [.slice d0 dn.length dc, .slice none 0 0] ∧ SlOwn rdnE (fun b => w.heap.size + 1 + 1 ≤ b ∧ b < w1.heap.size) W dn (.slice d0 dn.length dc)) ⟨more' b1 _, T1.out.alloc _, R1b.out.alloc _, Blk.new _ _ _, OD.out.frame (Same.of_below' (more' (Below.refl _ _) _))⟩ ?_
  clear OD hown1 T1 R1b b1
  generalize w1.heap.size = R at *
  rintro W ⟨hbW, t0, t1, t2, od⟩
  go_loopw [4] (fun i wr => ∃ (k : Nat) (p : Option Addr) (n c : Nat) (xs : List Value), k ≤ at_.length ∧ i = .int .i64 k ∧ Blk wr w.heap.size [.slice o2 dn.length k2, .slice o3 at_.length k3] ∧ Blk wr (w.heap.size + 1) [.slice none 0 0, .slice none 0 0] ∧ Blk wr R [.slice d0 dn.length dc, .slice p n c] ∧ Grow attrE 97 (R + 1) wr (.slice p n c) (at_.take k) xs ∧ SlOwn rdnE (fun b => w.heap.size + 1 + 1 ≤ b ∧ b < R) wr dn (.slice d0 dn.length dc) ∧ Below w.heap.size w wr) (fun i _ => at_.length - (intOf i).toNat)
  case atStart => exact ⟨0, none, 0, 0, [], Nat.zero_le _, rfl, t0, t1, t2, Grow.nil _ _ _ _, od, hbW⟩
  case round =>
    clear t0 t1 t2 od hbW
    obtain ⟨k, p, n, c, xs, hk, rfl, t0, t1, t2, hg, hod, hbel⟩ := hrel
    obtain ⟨_, _, e9, _⟩ := hg.own
    injection e9 with ep en ec
    subst ep; subst en; subst ec
    have HT0 := Lib.hid t0; have HT1 := Lib.hid t1; have HT2 := Lib.hid t2; have HG := Lib.hid hg; have HOD := Lib.hid hod; have HB := Lib.hid hbel
    have hRs : R < wr.heap.size := t2.lt
    have c0 := t0.cell 0 rfl
    have c1 := t0.cell 1 rfl
    clear t0 t1 t2 hg hod hbel
    by_cases hlt : k < at_.length
    · obtain ⟨b, off, a0, a1, v1, rfl, _, hb0, hx, ⟨hc0, hc1⟩, s1, _⟩ := attr_row HA.out hlt
      have HZ1 : Hid (attrE.sz (a0, a1) ≤ 1048576) := Lib.hid (by have := HZ.out _ (List.getElem_mem hlt); rw [hx] at this; exact this)
      have HT : Hid (at_.take (k + 1) = at_.take k ++ [(a0, a1)]) := Lib.hid (by rw [List.take_succ_eq_append_getElem hlt, hx])
      have HS3 := Lib.hid (s1.frame (Same.of_below' HB.out))
      obtain ⟨o4, k4, rfl⟩ := s1.sl
      clear s1 hx
      have hrl : Hid ((at_.take k).length ≤ 100000000) := Lib.hid (by rw [List.length_take]; omega)
      generalize at_.take k = pre at *
      have g1 : (0 : Int) ≤ (k : Int) := by omega
      have g2 : (k : Int) < (at_.length : Int) := by omega
      have hR3 : R < wr.heap.size := hRs
      have OZ : Hid ((wr.drew.alloc (.cells #[] 9)).ownsRow wr.heap.size 9 1 (.slice (some ⟨wr.heap.size, 0, none⟩) 0 0) 0 []) := Lib.hid ⟨rfl, .inr ⟨wr.heap.size, 0, #[], rfl, Nat.le_refl _, heap_alloc_new wr.drew _, by simp, by unfold maxLen; simp, rfl, rfl⟩⟩
      have BZ : Below wr.heap.size wr (wr.drew.alloc (.cells #[] 9)) := more' (Below.refl _ _).drew _
      have HSz : Hid (StrsAt (wr.drew.alloc (.cells #[] 9)) o4 a1) := Lib.hid (strs_of (HS3.out.frame (Same.of_below' BZ)))
      have hc4 : o4 = none → k4 = 0 := HS3.out.cap.2.2
      have hl1 : a1.length ≤ 1000000000 := by have h1 := HZ1.out; have h2 : attrE.sz (a0, a1) = a0.size + (a1.length + szL strE a1) := rfl; omega
      have hsz1 : wr.heap.size ≤ (wr.drew.alloc (.cells #[] 9)).heap.size := BZ.size
      have hbR : b < w.heap.size := hb0
      have SK1 : Hid (∀ Z' : World, Below R wr Z' → Z'.cell? ⟨w.heap.size, 0, none⟩ = some (.slice o2 dn.length k2) ∧ Z'.cell? ⟨w.heap.size, 1, none⟩ = some (.slice (some ⟨b, off, none⟩) at_.length k3) ∧ Z'.cell? ⟨b, off + k * 2, none⟩ = some (.string a0) ∧ Z'.cell? ⟨b, off + k * 2 + 1, none⟩ = some (.slice o4 a1.length k4)) := Lib.hid (fun Z' h => ⟨(h.cell (p := ⟨w.heap.size, 0, none⟩) (by show w.heap.size < R; omega)).trans c0, (h.cell (p := ⟨w.heap.size, 1, none⟩) (by show w.heap.size < R; omega)).trans c1, (h.cell (p := ⟨b, off + k * 2, none⟩) (by show b < R; omega)).trans ((HB.out.cell (p := ⟨b, off + k * 2, none⟩) hb0).trans hc0), (h.cell (p := ⟨b, off + k * 2 + 1, none⟩) (by show b < R; omega)).trans ((HB.out.cell (p := ⟨b, off + k * 2 + 1, none⟩) hb0).trans hc1)⟩)
      clear hc0 hc1 c0 c1
      have KP : Hid (∀ (L : Array Bool) (Z : World), Below (R + 1) wr Z → Until (fun Z' => Z'.cell? ⟨w.heap.size, 0, none⟩ = some (.slice o2 dn.length k2) ∧ Z'.cell? ⟨w.heap.size, 1, none⟩ = some (.slice (some ⟨b, off, none⟩) at_.length k3) ∧ Z'.cell? ⟨b, off + k * 2, none⟩ = some (.string a0) ∧ Z'.cell? ⟨b, off + k * 2 + 1, none⟩ = some (.slice o4 a1.length k4)) (fun Z => Z.cell? ⟨R, 1, none⟩ = some (.slice p pre.length c)) 20 L Z) :=
        Lib.hid (fun L Z h => ⟨SK1.out Z (h.mono (Nat.le_succ _)), fun _ => (HT2.out.low h (Nat.lt_succ_self _)).cell 1 rfl⟩)
      have hbd : Below (R + 1) wr wr.drew := (Below.refl _ _).drew
      have hbz8 : Below (R + 1) wr (wr.drew.alloc (.cells #[] 9)) := BZ.mono (by omega)
      have hRd : R + 1 ≤ wr.drew.heap.size := hR3
      have M0 := HT0.out.cell 1 rfl
      go_wp2_with fail
      refine wp_region_until (fun Z' => Z'.cell? ⟨w.heap.size, 0, none⟩ = some (.slice o2 dn.length k2) ∧ Z'.cell? ⟨w.heap.size, 1, none⟩ = some (.slice (some ⟨b, off, none⟩) at_.length k3) ∧ Z'.cell? ⟨b, off + k * 2, none⟩ = some (.string a0) ∧ Z'.cell? ⟨b, off + k * 2 + 1, none⟩ = some (.slice o4 a1.length k4)) (fun Z => Z.cell? ⟨R, 1, none⟩ = some (.slice p pre.length c)) 20 (by kernel_rfl) (KP.out #[] _ hbd).1 ((KP.out #[false, false, false, false, false, false, false, false, false, false, false, false, false, false, false, false, false, false, false, false, false] _ hbd).2 rfl) (fun hU => ?_)
      refine wpAnyL_take (i := 0) (oi := { dst := some 17, op := Op.fieldAddr 77 (Operand.tmp 3) 1, type := 0, pos := "l03_entry.go:77", after := #[], guard := none }) (v := ?_) rfl (by decide) (by kernel_rfl) (by kernel_rfl) (by kernel_rfl) (fun _ _ _ h => h) (Or.inl ⟨by rfl, ?_⟩) (by assumption) ?_
      rotate_left
      · intro w hSw; (try dsimp only at hSw); go_simp; (try with_reducible rfl)
      clear hU; intro hU
      (try simp only [Act.put, List.setIfInBounds_toArray, List.set_cons_zero, List.set_cons_succ])
      refine wpAnyL_load (i := 1) (m := 18) (oi := { dst := some 18, op := Op.load 75 (Operand.tmp 17), type := 75, pos := "l03_entry.go:77", after := #[{ on := 0, ground := Ground.data }], guard := none }) (om := { dst := some 35, op := Op.call { callee := Callee.builtin Builtin.append, args := #[Operand.tmp 18, Operand.tmp 34], argTypes := #[75, 75] }, type := 75, pos := "l03_entry.go:77", after := #[{ on := 1, ground := Ground.data }, { on := 17, ground := Ground.data }, { on := 15, ground := Ground.chain }], guard := none }) (ok := { dst := none, op := Op.store 75 (Operand.tmp 36) (Operand.tmp 35), type := 0, pos := "l03_entry.go:77", after := #[{ on := 19, ground := Ground.data }, { on := 18, ground := Ground.data }, { on := 18, ground := Ground.chain }, { on := 0, ground := Ground.phase }, { on := 1, ground := Ground.phase }, { on := 2, ground := Ground.phase }, { on := 3, ground := Ground.phase }, { on := 4, ground := Ground.phase }, { on := 5, ground := Ground.phase }, { on := 6, ground := Ground.phase }, { on := 7, ground := Ground.phase }, { on := 8, ground := Ground.phase }, { on := 9, ground := Ground.phase }, { on := 10, ground := Ground.phase }, { on := 11, ground := Ground.phase }, { on := 12, ground := Ground.phase }, { on := 13, ground := Ground.phase }, { on := 14, ground := Ground.phase }, { on := 15, ground := Ground.phase }, { on := 16, ground := Ground.phase }, { on := 17, ground := Ground.phase }, { on := 18, ground := Ground.phase }], guard := none }) (v := ?_) rfl (by decide) (by kernel_rfl) (by kernel_rfl) (by kernel_rfl) rfl rfl (by kernel_rfl) (by kernel_rfl) (by kernel_rfl) (by kernel_rfl) (fun _ _ _ h => h) (Or.inl ⟨by rfl, ?_⟩) (by assumption) ?_
      rotate_left
      · intro w hSw; (try dsimp only at hSw); go_simp; (try with_reducible rfl)
      clear hU; intro hU
      (try simp only [Act.put, List.setIfInBounds_toArray, List.set_cons_zero, List.set_cons_succ])
      refine wpAnyL_take (i := 2) (oi := { dst := some 19, op := Op.fieldAddr 77 (Operand.tmp 1) 1, type := 0, pos := "l03_entry.go:77", after := #[], guard := none }) (v := ?_) rfl (by decide) (by kernel_rfl) (by kernel_rfl) (by kernel_rfl) (fun _ _ _ h => h) (Or.inl ⟨by rfl, ?_⟩) (by assumption) ?_
      rotate_left
      · intro w hSw; (try dsimp only at hSw); go_simp; (try with_reducible rfl)
      clear hU; intro hU
      (try simp only [Act.put, List.setIfInBounds_toArray, List.set_cons_zero, List.set_cons_succ])
      refine wpAnyL_take (i := 3) (oi := { dst := some 20, op := Op.load 75 (Operand.tmp 19), type := 75, pos := "l03_entry.go:77", after := #[{ on := 2, ground := Ground.data }], guard := none }) (v := ?_) rfl (by decide) (by kernel_rfl) (by kernel_rfl) (by kernel_rfl) (fun _ _ _ h => h) (Or.inl ⟨by rfl, ?_⟩) (by assumption) ?_
      rotate_left
      · intro w hSw; (try dsimp only at hSw); go_simp; (try with_reducible rfl)
      clear hU; intro hU
      (try simp only [Act.put, List.setIfInBounds_toArray, List.set_cons_zero, List.set_cons_succ])
      refine wpAnyL_take (i := 4) (oi := { dst := some 21, op := Op.move (Operand.tmp 4), type := 3, pos := "l03_entry.go:77", after := #[], guard := none }) (v := ?_) rfl (by decide) (by kernel_rfl) (by kernel_rfl) (by kernel_rfl) (fun _ _ _ h => h) (Or.inl ⟨by rfl, ?_⟩) (by assumption) ?_
      rotate_left
      · intro w hSw; (try dsimp only at hSw); go_simp; (try with_reducible rfl)
      clear hU; intro hU
      (try simp only [Act.put, List.setIfInBounds_toArray, List.set_cons_zero, List.set_cons_succ])
      refine wpAnyL_take (i := 5) (oi := { dst := some 22, op := Op.indexAddr 75 (Operand.tmp 20) (Operand.tmp 21), type := 0, pos := "l03_entry.go:77", after := #[{ on := 3, ground := Ground.data }, { on := 4, ground := Ground.data }], guard := none }) (v := ?_) rfl (by decide) (by kernel_rfl) (by kernel_rfl) (by kernel_rfl) (fun _ _ _ h => h) (Or.inl ⟨by rfl, ?_⟩) (by assumption) ?_
      rotate_left
      · intro w hSw; (try dsimp only at hSw); go_simp; (try with_reducible rfl)
      clear hU; intro hU
      (try simp only [Act.put, List.setIfInBounds_toArray, List.set_cons_zero, List.set_cons_succ])
      refine wpAnyL_take (i := 6) (oi := { dst := some 23, op := Op.fieldAddr 97 (Operand.tmp 22) 0, type := 0, pos := "l03_entry.go:77", after := #[{ on := 5, ground := Ground.data }], guard := none }) (v := ?_) rfl (by decide) (by kernel_rfl) (by kernel_rfl) (by kernel_rfl) (fun _ _ _ h => h) (Or.inl ⟨by rfl, ?_⟩) (by assumption) ?_
      rotate_left
      · intro w hSw; (try dsimp only at hSw); go_simp; (try with_reducible rfl)
      clear hU; intro hU
      (try simp only [Act.put, List.setIfInBounds_toArray, List.set_cons_zero, List.set_cons_succ])
      refine wpAnyL_take (i := 7) (oi := { dst := some 24, op := Op.load 9 (Operand.tmp 23), type := 9, pos := "l03_entry.go:77", after := #[{ on := 6, ground := Ground.data }], guard := none }) (v := ?_) rfl (by decide) (by kernel_rfl) (by kernel_rfl) (by kernel_rfl) (fun _ _ _ h => h) (Or.inl ⟨by rfl, ?_⟩) (by assumption) ?_
      rotate_left
      · intro w hSw; (try dsimp only at hSw); go_simp; (try with_reducible rfl)
      clear hU; intro hU
      (try simp only [Act.put, List.setIfInBounds_toArray, List.set_cons_zero, List.set_cons_succ])
      refine wpAnyL_take (i := 9) (oi := { dst := some 26, op := Op.fieldAddr 77 (Operand.tmp 1) 1, type := 0, pos := "l03_entry.go:77", after := #[], guard := none }) (v := ?_) rfl (by decide) (by kernel_rfl) (by kernel_rfl) (by kernel_rfl) (fun _ _ _ h => h) (Or.inl ⟨by rfl, ?_⟩) (by assumption) ?_
      rotate_left
      · intro w hSw; (try dsimp only at hSw); go_simp; (try with_reducible rfl)
      clear hU; intro hU
      (try simp only [Act.put, List.setIfInBounds_toArray, List.set_cons_zero, List.set_cons_succ])
      refine wpAnyL_take (i := 10) (oi := { dst := some 27, op := Op.load 75 (Operand.tmp 26), type := 75, pos := "l03_entry.go:77", after := #[{ on := 9, ground := Ground.data }], guard := none }) (v := ?_) rfl (by decide) (by kernel_rfl) (by kernel_rfl) (by kernel_rfl) (fun _ _ _ h => h) (Or.inl ⟨by rfl, ?_⟩) (by assumption) ?_
      rotate_left
      · intro w hSw; (try dsimp only at hSw); go_simp; (try with_reducible rfl)
      clear hU; intro hU
      (try simp only [Act.put, List.setIfInBounds_toArray, List.set_cons_zero, List.set_cons_succ])
      refine wpAnyL_take (i := 11) (oi := { dst := some 28, op := Op.move (Operand.tmp 4), type := 3, pos := "l03_entry.go:77", after := #[], guard := none }) (v := ?_) rfl (by decide) (by kernel_rfl) (by kernel_rfl) (by kernel_rfl) (fun _ _ _ h => h) (Or.inl ⟨by rfl, ?_⟩) (by assumption) ?_
      rotate_left
      · intro w hSw; (try dsimp only at hSw); go_simp; (try with_reducible rfl)
      clear hU; intro hU
      (try simp only [Act.put, List.setIfInBounds_toArray, List.set_cons_zero, List.set_cons_succ])
      refine wpAnyL_take (i := 12) (oi := { dst := some 29, op := Op.indexAddr 75 (Operand.tmp 27) (Operand.tmp 28), type := 0, pos := "l03_entry.go:77", after := #[{ on := 10, ground := Ground.data }, { on := 11, ground := Ground.data }], guard := none }) (v := ?_) rfl (by decide) (by kernel_rfl) (by kernel_rfl) (by kernel_rfl) (fun _ _ _ h => h) (Or.inl ⟨by rfl, ?_⟩) (by assumption) ?_
      rotate_left
      · intro w hSw; (try dsimp only at hSw); go_simp; (try with_reducible rfl)
      clear hU; intro hU
      (try simp only [Act.put, List.setIfInBounds_toArray, List.set_cons_zero, List.set_cons_succ])
      refine wpAnyL_take (i := 13) (oi := { dst := some 30, op := Op.fieldAddr 97 (Operand.tmp 29) 1, type := 0, pos := "l03_entry.go:77", after := #[{ on := 12, ground := Ground.data }], guard := none }) (v := ?_) rfl (by decide) (by kernel_rfl) (by kernel_rfl) (by kernel_rfl) (fun _ _ _ h => h) (Or.inl ⟨by rfl, ?_⟩) (by assumption) ?_
      rotate_left
      · intro w hSw; (try dsimp only at hSw); go_simp; (try with_reducible rfl)
      clear hU; intro hU
      (try simp only [Act.put, List.setIfInBounds_toArray, List.set_cons_zero, List.set_cons_succ])
      refine wpAnyL_take (i := 14) (oi := { dst := some 31, op := Op.load 29 (Operand.tmp 30), type := 29, pos := "l03_entry.go:77", after := #[{ on := 13, ground := Ground.data }], guard := none }) (v := ?_) rfl (by decide) (by kernel_rfl) (by kernel_rfl) (by kernel_rfl) (fun _ _ _ h => h) (Or.inl ⟨by rfl, ?_⟩) (by assumption) ?_
      rotate_left
      · intro w hSw; (try dsimp only at hSw); go_simp; (try with_reducible rfl)
      clear hU; intro hU
      (try simp only [Act.put, List.setIfInBounds_toArray, List.set_cons_zero, List.set_cons_succ])
      refine wpAnyL_ready (rs := [8]) (by kernel_rfl) (by simp) ?_
      refine AllReadyL.cons (o := { dst := some 25, op := Op.buildSlice 29 0 #[], type := 29, pos := "l03_entry.go:77", after := #[], guard := none }) rfl (fun K hK => ?_) (AllReadyL.nil)
      go_simp
      clear hU
      refine hK.out _ _ ?_ (fun hU => ?_)
      · (try dsimp only)
        first | exact KP.out _ _ (by assumption) | exact KP.out _ _ hbz8 | exact KP.out _ _ hbd | exact KP.out _ _ (Below.alloc (by assumption) (by first | exact hRd | exact hR6) _) | exact ⟨SK1.out _ (Below.setCell (hb7.mono (Nat.le_succ R)) (p := ⟨R, 1, none⟩) (Nat.le_refl _) _), fun h => absurd (h.symm.trans (show _ = true by kernel_rfl)) (by decide)⟩
      clear hK K
      (try simp only [Act.put, List.setIfInBounds_toArray, List.set_cons_zero, List.set_cons_succ])
      refine wpAnyL_ready (rs := [15]) (by kernel_rfl) (by simp) ?_
      refine AllReadyL.cons (o := { dst := some 32, op := Op.call { callee := Callee.builtin Builtin.append, args := #[Operand.tmp 25, Operand.tmp 31], argTypes := #[29, 29] }, type := 29, pos := "l03_entry.go:77", after := #[{ on := 8, ground := Ground.data }, { on := 14, ground := Ground.data }], guard := none }) rfl (fun K hK => ?_) (AllReadyL.nil)
      refine step_texts wr.heap.size rfl _ _ rfl (.slice (some ⟨wr.heap.size, 0, none⟩) 0 0) rfl OZ.out o4 a1 k4 rfl HSz.out hc4 hl1 hsz1 ?_
      intro v6 w6 hown6 hgr6
      have hbel6 : Below wr.heap.size wr w6 := BZ.grown hgr6 hsz1 (fun k hk => (OZ.out.lt k hk).1)
      have Q6 := Lib.hid (own_texts hown6)
      obtain ⟨xo, xc, rfl⟩ := (own_texts hown6).at.sl
      have hb6 : Below (R + 1) wr w6 := hbel6.mono hR3
      have hR6 : R + 1 ≤ w6.heap.size := Nat.le_trans hR3 hbel6.size
      have R6 := Lib.hid (HG.out.below hbel6).row
      clear hown6 hgr6
      clear hU
      refine hK.out _ _ ?_ (fun hU => ?_)
      · (try dsimp only)
        first | exact KP.out _ _ (by assumption) | exact KP.out _ _ hbz8 | exact KP.out _ _ hbd | exact KP.out _ _ (Below.alloc (by assumption) (by first | exact hRd | exact hR6) _) | exact ⟨SK1.out _ (Below.setCell (hb7.mono (Nat.le_succ R)) (p := ⟨R, 1, none⟩) (Nat.le_refl _) _), fun h => absurd (h.symm.trans (show _ = true by kernel_rfl)) (by decide)⟩
      clear hK K
      (try simp only [Act.put, List.setIfInBounds_toArray, List.set_cons_zero, List.set_cons_succ])
      refine wpAnyL_take (i := 16) (oi := { dst := some 33, op := Op.build 97 #[(0, Operand.tmp 24), (1, Operand.tmp 32)], type := 97, pos := "l03_entry.go:77", after := #[{ on := 7, ground := Ground.data }, { on := 15, ground := Ground.data }], guard := none }) (v := ?_) rfl (by decide) (by kernel_rfl) (by kernel_rfl) (by kernel_rfl) (fun _ _ _ h => h) (Or.inl ⟨by rfl, ?_⟩) (by assumption) ?_
      rotate_left
      · intro w hSw; (try dsimp only at hSw); go_simp; (try with_reducible rfl)
      clear hU; intro hU
      (try simp only [Act.put, List.setIfInBounds_toArray, List.set_cons_zero, List.set_cons_succ])
      refine wpAnyL_ready (rs := [17]) (by kernel_rfl) (by simp) ?_
      refine AllReadyL.cons (o := { dst := some 34, op := Op.buildSlice 75 1 #[(0, Operand.tmp 33)], type := 75, pos := "l03_entry.go:77", after := #[{ on := 16, ground := Ground.data }], guard := none }) rfl (fun K hK => ?_) (AllReadyL.nil)
      go_simp
      clear hU
      refine hK.out _ _ ?_ (fun hU => ?_)
      · (try dsimp only)
        first | exact KP.out _ _ (by assumption) | exact KP.out _ _ hbz8 | exact KP.out _ _ hbd | exact KP.out _ _ (Below.alloc (by assumption) (by first | exact hRd | exact hR6) _) | exact ⟨SK1.out _ (Below.setCell (hb7.mono (Nat.le_succ R)) (p := ⟨R, 1, none⟩) (Nat.le_refl _) _), fun h => absurd (h.symm.trans (show _ = true by kernel_rfl)) (by decide)⟩
      clear hK K
      (try simp only [Act.put, List.setIfInBounds_toArray, List.set_cons_zero, List.set_cons_succ])
      refine wpAnyL_ready (rs := [18]) (by kernel_rfl) (by simp) ?_
      refine AllReadyL.cons (o := { dst := some 35, op := Op.call { callee := Callee.builtin Builtin.append, args := #[Operand.tmp 18, Operand.tmp 34], argTypes := #[75, 75] }, type := 75, pos := "l03_entry.go:77", after := #[{ on := 1, ground := Ground.data }, { on := 17, ground := Ground.data }, { on := 15, ground := Ground.chain }], guard := none }) rfl (fun K hK => ?_) (AllReadyL.nil)
      refine step_attr (R + 1) rfl _ _ rfl (.slice p pre.length c) pre.length xs rfl R6.out a0 xo a1.length xc rfl hrl.out hR6 ?_
      intro g7 cp7 w7 h71 h72 h73
      have hb7 : Below (R + 1) wr w7 := (hb6.alloc hR6 _).grown h72 (by simp; omega) (fun r hr => (R6.out.lt r hr).1)
      have T7 := Lib.hid (HT2.out.low hb7 (Nat.lt_succ_self _))
      have q1 := T7.out.cell 1 rfl
      have f1 := T7.out.soft 1
      clear hU
      refine hK.out _ _ ?_ (fun hU => ?_)
      · (try dsimp only)
        first | exact KP.out _ _ (by assumption) | exact KP.out _ _ hbz8 | exact KP.out _ _ hbd | exact KP.out _ _ (Below.alloc (by assumption) (by first | exact hRd | exact hR6) _) | exact ⟨SK1.out _ (Below.setCell (hb7.mono (Nat.le_succ R)) (p := ⟨R, 1, none⟩) (Nat.le_refl _) _), fun h => absurd (h.symm.trans (show _ = true by kernel_rfl)) (by decide)⟩
      clear hK K
      (try simp only [Act.put, List.setIfInBounds_toArray, List.set_cons_zero, List.set_cons_succ])
      refine wpAnyL_take (i := 19) (oi := { dst := some 36, op := Op.fieldAddr 77 (Operand.tmp 3) 1, type := 0, pos := "l03_entry.go:77", after := #[{ on := 0, ground := Ground.phase }, { on := 1, ground := Ground.phase }, { on := 2, ground := Ground.phase }, { on := 3, ground := Ground.phase }, { on := 4, ground := Ground.phase }, { on := 5, ground := Ground.phase }, { on := 6, ground := Ground.phase }, { on := 7, ground := Ground.phase }, { on := 8, ground := Ground.phase }, { on := 9, ground := Ground.phase }, { on := 10, ground := Ground.phase }, { on := 11, ground := Ground.phase }, { on := 12, ground := Ground.phase }, { on := 13, ground := Ground.phase }, { on := 14, ground := Ground.phase }, { on := 15, ground := Ground.phase }, { on := 16, ground := Ground.phase }, { on := 17, ground := Ground.phase }, { on := 18, ground := Ground.phase }], guard := none }) (v := ?_) rfl (by decide) (by kernel_rfl) (by kernel_rfl) (by kernel_rfl) (fun _ _ _ h => h) (Or.inl ⟨by rfl, ?_⟩) (by assumption) ?_
      rotate_left
      · intro w hSw; (try dsimp only at hSw); go_simp; (try with_reducible rfl)
      clear hU; intro hU
      (try simp only [Act.put, List.setIfInBounds_toArray, List.set_cons_zero, List.set_cons_succ])
      refine wpAnyL_ready (rs := [20]) (by kernel_rfl) (by simp) ?_
      refine AllReadyL.cons (o := { dst := none, op := Op.store 75 (Operand.tmp 36) (Operand.tmp 35), type := 0, pos := "l03_entry.go:77", after := #[{ on := 19, ground := Ground.data }, { on := 18, ground := Ground.data }, { on := 18, ground := Ground.chain }, { on := 0, ground := Ground.phase }, { on := 1, ground := Ground.phase }, { on := 2, ground := Ground.phase }, { on := 3, ground := Ground.phase }, { on := 4, ground := Ground.phase }, { on := 5, ground := Ground.phase }, { on := 6, ground := Ground.phase }, { on := 7, ground := Ground.phase }, { on := 8, ground := Ground.phase }, { on := 9, ground := Ground.phase }, { on := 10, ground := Ground.phase }, { on := 11, ground := Ground.phase }, { on := 12, ground := Ground.phase }, { on := 13, ground := Ground.phase }, { on := 14, ground := Ground.phase }, { on := 15, ground := Ground.phase }, { on := 16, ground := Ground.phase }, { on := 17, ground := Ground.phase }, { on := 18, ground := Ground.phase }], guard := none }) rfl (fun K hK => ?_) (AllReadyL.nil)
      go_simp
      clear hU
      refine hK.out _ _ ?_ (fun hU => ?_)
      · (try dsimp only)
        first | exact KP.out _ _ (by assumption) | exact KP.out _ _ hbz8 | exact KP.out _ _ hbd | exact KP.out _ _ (Below.alloc (by assumption) (by first | exact hRd | exact hR6) _) | exact ⟨SK1.out _ (Below.setCell (hb7.mono (Nat.le_succ R)) (p := ⟨R, 1, none⟩) (Nat.le_refl _) _), fun h => absurd (h.symm.trans (show _ = true by kernel_rfl)) (by decide)⟩
      clear hK K
      (try simp only [Act.put, List.setIfInBounds_toArray, List.set_cons_zero, List.set_cons_succ])
      refine wpAnyL_done (by kernel_rfl) ?_ _
      have HG9 : Hid (Grow attrE 97 (R + 1) (w7.setCell ⟨R, 1, none⟩ (.slice (some ⟨g7, 0, none⟩) (pre.length + 1) cp7)) (.slice (some ⟨g7, 0, none⟩) (pre.length + 1) cp7) (pre ++ [(a0, a1)]) (xs ++ [.string a0, .slice xo a1.length xc])) := Lib.hid ((Grow.step HG.out hR3 hbel6 (attr_pack a0 a1 _ (Fresh wr w6) ⟨Q6.out, fun _ h => h, trivial⟩) (more' (Below.refl _ _) _) h71 h72 (fun g' hg' => by
        have e : g7 = g' := by simpa [Value.ownBlock] using hg'
        subst e
        rcases h73 with h | h
        · exact .inl h
        · exact .inr (by omega))).cellOut (Nat.lt_succ_self R))
      have T9 := Lib.hid (T7.out.set 1 (.slice (some ⟨g7, 0, none⟩) (pre.length + 1) cp7))
      have A9 := Lib.hid ((HT0.out.low hb7 (by omega)).far (j := 1) (R := R) (by omega) (.slice (some ⟨g7, 0, none⟩) (pre.length + 1) cp7))
      have U9 := Lib.hid ((HT1.out.low hb7 (by omega)).far (j := 1) (R := R) (by omega) (.slice (some ⟨g7, 0, none⟩) (pre.length + 1) cp7))
      have D9 := Lib.hid (((HOD.out.frame (S := fun b => w.heap.size + 1 + 1 ≤ b ∧ b < R) (fun k h _ => hb7.block k (by have := h.2; omega)))).frame (Same.set _ (g := R) 1 (.slice (some ⟨g7, 0, none⟩) (pre.length + 1) cp7) (by intro h; have := h.2; omega)))
      have B9 := Lib.hid (HB.out.trans (((hb7.mono (Nat.le_succ R)).setCell (p := ⟨R, 1, none⟩) (Nat.le_refl _) (.slice (some ⟨g7, 0, none⟩) (pre.length + 1) cp7)).mono (by omega)))
      clear SK1 KP hbd hbz8 OZ HSz h71 h72 h73 hb7 hbel6 hU T7 q1 f1 BZ HS3 M0
      go_wp2
      go_roundw
      case rel => exact ⟨k + 1, some ⟨g7, 0, none⟩, pre.length + 1, cp7, _, by omega, by go_num, A9.out, U9.out, T9.out, by rw [HT.out]; exact HG9.out, D9.out, B9.out⟩
      case measure => simp [intOf]; omega
    · have e : at_.take k = at_ := List.take_of_length_le (by omega)
      have HO : Hid (SlOwn attrE (fun b => R + 1 ≤ b ∧ b < wr.heap.size) wr at_ (.slice p k c)) := Lib.hid (by have := HG.out.own; rw [e] at this; rw [show k = at_.length by omega]; exact this)
      clear e
      have x0 := HT1.out.cell 0 rfl
      have x1 := HT1.out.cell 1 rfl
      have y0 := HT2.out.cell 0 rfl
      have y1 := HT2.out.cell 1 rfl
      have f0 := HT1.out.soft 0
      have f1 := HT1.out.soft 1
      have y1' : wr.cell? ⟨R, 1, none⟩ = some (.slice p k c) := by rw [y1, List.length_take, Nat.min_eq_left hk]
      clear y1
      have TE := (HT1.out.set 0 (.slice d0 dn.length dc)).set 1 (.slice p k c)
      have j0 := TE.cell 0 rfl
      have j1 := TE.cell 1 rfl
      clear TE
      go_wp2_with fail
      refine bodyPost_ret (v := .agg #[.slice d0 dn.length dc, .slice p k c]) (by simp [results, Try.results89, go_sem, j0, j1]) rfl ⟨_, _, rfl, entry_pack dn at_ _ _ (fun b => w.heap.size + 1 + 1 ≤ b ∧ b < R) (fun b => R + 1 ≤ b ∧ b < wr.heap.size) ⟨?_, (fun b h => ?_), ?_, (fun b h => ?_), fun b h1 h2 => ?_, trivial⟩, ?_⟩
      · exact ((HOD.out.frame (Same.set _ (g := w.heap.size + 1) 0 _ (by intro h; have := h.1; omega))).frame (Same.set _ (g := w.heap.size + 1) 1 _ (by intro h; have := h.1; omega)))
      · exact ⟨by have := h.1; omega, by have := h.2; show _ < (World.heap _).size; simp only [setCell_size]; omega⟩
      · exact ((HO.out.frame (Same.set _ (g := w.heap.size + 1) 0 _ (by intro h; have := h.1; omega))).frame (Same.set _ (g := w.heap.size + 1) 1 _ (by intro h; have := h.1; omega)))
      · exact ⟨by have := h.1; omega, by have := h.2; show _ < (World.heap _).size; simp only [setCell_size]; omega⟩
      · have := h1.2; have := h2.1; omega
      · exact (HB.out.setCell (p := ⟨w.heap.size + 1, 0, none⟩) (by show w.heap.size ≤ w.heap.size + 1; omega) _).setCell (p := ⟨w.heap.size + 1, 1, none⟩) (by show w.heap.size ≤ w.heap.size + 1; omega) _
end Go.Proofs.Ytlgafmgohinkbaa
/- Classes: a name and three lists of names, and where they lie. -/
namespace Go.Proofs.Ytlgafmgohinkbaa
open Go.RowKit

structure ClassV where
  nm : ByteArray
  must : List ByteArray
  may : List ByteArray
  one : List ByteArray
/-- a slice's value that holds texts -/
def SlV (w : World) (v : Value) (l : List ByteArray) : Prop := ∃ vo vc, v = .slice vo l.length vc ∧ ValsAt w vo vc l
theorem SlV.below {w w' : World} {v : Value} {l : List ByteArray} (h : SlV w v l) (hb : Below w.heap.size w w') : SlV w' v l := by
  obtain ⟨vo, vc, h1, h2⟩ := h
  exact ⟨vo, vc, h1, h2.below hb⟩
/-- the four cells of a class -/
structure ClsAt (w : World) (b off : Nat) (c : ClassV) (v1 v2 v3 : Value) : Prop where
  c0 : w.cell? ⟨b, off, none⟩ = some (.string c.nm)
  c1 : w.cell? ⟨b, off + 1, none⟩ = some v1
  c2 : w.cell? ⟨b, off + 2, none⟩ = some v2
  c3 : w.cell? ⟨b, off + 3, none⟩ = some v3
  s1 : SlV w v1 c.must
  s2 : SlV w v2 c.may
  s3 : SlV w v3 c.one
theorem ClsAt.below {w w' : World} {b off : Nat} {c : ClassV} {v1 v2 v3 : Value} (h : ClsAt w b off c v1 v2 v3) (hl : b < w.heap.size) (hb : Below w.heap.size w w') : ClsAt w' b off c v1 v2 v3 :=
  ⟨(hb.cell (p := ⟨b, off, none⟩) hl).trans h.c0, (hb.cell (p := ⟨b, off + 1, none⟩) hl).trans h.c1, (hb.cell (p := ⟨b, off + 2, none⟩) hl).trans h.c2, (hb.cell (p := ⟨b, off + 3, none⟩) hl).trans h.c3, h.s1.below hb, h.s2.below hb, h.s3.below hb⟩
/-- classes lie behind a slice -/
def ClassesAt (w : World) (ao : Option Addr) (l : List ClassV) : Prop :=
  l = [] ∨ ∃ b off, ao = some ⟨b, off, none⟩ ∧ b < w.heap.size ∧ ∀ i (h : i < l.length), ∃ v1 v2 v3, ClsAt w b (off + i * 4) l[i] v1 v2 v3
theorem ClassesAt.below {w w' : World} {ao : Option Addr} {l : List ClassV} (h : ClassesAt w ao l) (hb : Below w.heap.size w w') : ClassesAt w' ao l := by
  rcases h with h | ⟨b, off, h1, h2, h3⟩
  · exact .inl h
  · refine .inr ⟨b, off, h1, Nat.lt_of_lt_of_le h2 hb.size, fun i hi => ?_⟩
    obtain ⟨v1, v2, v3, g⟩ := h3 i hi
    exact ⟨v1, v2, v3, g.below h2 hb⟩
theorem ClassesAt.at {w : World} {ao : Option Addr} {l : List ClassV} (h : ClassesAt w ao l) {k : Nat} (hk : k < l.length) :
    ∃ b off v1 v2 v3, ao = some ⟨b, off, none⟩ ∧ b < w.heap.size ∧ ClsAt w b (off + k * 4) l[k] v1 v2 v3 := by
  rcases h with h | ⟨b, off, h1, h2, h3⟩
  · subst h; simp at hk
  · obtain ⟨v1, v2, v3, g⟩ := h3 k hk
    exact ⟨b, off, v1, v2, v3, h1, h2, g⟩
def LongC (l : List ClassV) : Prop := l.length ≤ 9223372036854775807 ∧ ∀ c ∈ l, c.nm.size ≤ maxLen ∧ LongV c.must ∧ LongV c.may ∧ LongV c.one
structure FitsC1 (c : ClassV) : Prop where
  nm : c.nm.size ≤ 1048576
  must : FitsV c.must
  may : FitsV c.may
  one : FitsV c.one
def FitsC (l : List ClassV) : Prop := l.length ≤ 1048576 ∧ ∀ c ∈ l, FitsC1 c
theorem FitsC.at {l : List ClassV} (h : FitsC l) {k : Nat} (hk : k < l.length) : FitsC1 l[k] := h.2 _ (List.getElem_mem hk)
def szV (l : List ByteArray) : Nat := l.length + sizeV l
def sizeC (c : ClassV) : Nat := c.nm.size + (szV c.must + (szV c.may + szV c.one))
def sizeCs (l : List ClassV) : Nat := (l.map sizeC).sum
theorem sizeCs_take (d : List ClassV) (k : Nat) (h : k < d.length) : sizeCs (d.take (k + 1)) = sizeCs (d.take k) + sizeC d[k] := by
  unfold sizeCs; rw [List.take_succ_eq_append_getElem h, List.map_append, List.sum_append]; simp
theorem sizeCs_le (d : List ClassV) (k : Nat) : sizeCs (d.take k) ≤ sizeCs d := by
  have h := List.take_append_drop k d
  have : sizeCs d = sizeCs (d.take k) + sizeCs (d.drop k) := by
    unfold sizeCs; rw [← List.sum_append, ← List.map_append, h]
  omega
theorem sizeCs_mem {l : List ClassV} {a : ClassV} (h : a ∈ l) : sizeC a ≤ sizeCs l := sum_mem (List.mem_map_of_mem h)
theorem fitsC_of {l : List ClassV} (h : l.length + sizeCs l ≤ 1048576) : FitsC l :=
  ⟨by omega, fun a ha => by
    have := sizeCs_mem ha
    unfold sizeC szV at this
    exact ⟨by omega, fitsV_of (by omega), fitsV_of (by omega), fitsV_of (by omega)⟩⟩
end Go.Proofs.Ytlgafmgohinkbaa
/- EntryRight: the order of texts; the values of an attribute. -/
namespace Go.Proofs
open Go.Shelf
def Try.lays106_ren : Go.Shelf.Ren := ⟨fun | 106 => 79 | 213 => 136 | 265 => 179 | n => n, fun | 9 => 9 | 3 => 3 | n => n, fun | n => n⟩
theorem Try.lays106 : Go.Proofs.Lays.n106 Try.prog Try.lays106_ren := {
  mixed := by kernel_rfl
  f106 := Try.func79.trans (congrArg some (by kernel_rfl))
  f213 := Try.func136.trans (congrArg some (by kernel_rfl))
  f265 := Try.func179.trans (congrArg some (by kernel_rfl))
  t3 := Try.underlying3
  a3 := Try.isAgg3
  z3 := Try.sizeOf3
  v3 := Try.zeroValue3
  t9 := Try.underlying9
  a9 := Try.isAgg9
  z9 := Try.sizeOf9
  v9 := Try.zeroValue9 }
open Go.RowKit in
theorem Try.strings_Compare (a b : ByteArray) (w : World) :
    Calls Try.prog 79 #[.string a, .string b] w fun e w' => e = .returned (.int .i64 (Lib.compareBytes a.data.toList b.data.toList)) ∧ w' = w := Any.strings_Compare Try.lays106 a b w
namespace Ytlgafmgohinkbaa
open Go.RowKit
attribute [local go_sem ↓] Go.wp_at_zero Go.wp_at_succ

theorem compare_less : ∀ (a b : List UInt8), decide (0 ≤ Lib.compareBytes a b) = !(Op.bytesLess a b)
  | [], [] => rfl
  | [], _ :: _ => rfl
  | _ :: _, [] => rfl
  | a :: xs, b :: ys => by
    unfold Lib.compareBytes Op.bytesLess
    have ih := compare_less xs ys
    by_cases h1 : a < b
    · simp [h1]
    · by_cases h2 : b < a
      · have h3 : a ≠ b := by rintro rfl; exact h1 h2
        simp [h1, h2, h3]
      · have h3 : a = b := UInt8.le_antisymm (UInt8.not_lt.1 h2) (UInt8.not_lt.1 h1)
        subst h3
        simp [h1, ih]
/-- a list each of whose elements is less than the next -/
noncomputable def incB {α : Type} (lt : α → α → Bool) (l : List α) : Bool := @decide (∀ i (h : i + 1 < l.length), lt l[i] l[i + 1] = true) (Classical.propDecidable _)
theorem incB_yes {α : Type} {lt : α → α → Bool} {l : List α} (h : ∀ i (h : i + 1 < l.length), lt l[i] l[i + 1] = true) : incB lt l = true := @decide_eq_true _ (Classical.propDecidable _) h
theorem incB_no {α : Type} {lt : α → α → Bool} {l : List α} {k : Nat} (hk : k + 1 < l.length) (h : lt l[k] l[k + 1] = false) : incB lt l = false :=
  @decide_eq_false _ (Classical.propDecidable _) (fun g => by have := g k hk; rw [h] at this; cases this)
def normLt (x y : ByteArray) : Bool := Op.bytesLess (normS x).toList (normS y).toList
def nameLt (a b : AttrV) : Bool := Op.bytesLess a.1.toList b.1.toList
noncomputable def valsB (l : List ByteArray) : Bool := decide (1 ≤ l.length) && decide (l.length ≤ 4) && l.all valB && incB normLt l
noncomputable def attrB (a : AttrV) : Bool := nmL a.1 && valsB a.2
noncomputable def attrsB (l : List AttrV) : Bool := decide (l.length ≤ 8) && l.all attrB && incB nameLt l
noncomputable def rightB (d : RdnL) (l : List AttrV) : Bool := dnB d && decide (0 < d.length) && attrsB l
set_option maxHeartbeats 1000000 in
theorem compareNorms_any (w0 : World) (a b : ByteArray) (w : World) (ha : a.size ≤ maxLen) (hb : b.size ≤ maxLen) (hB : Below w0.heap.size w0 w) :
    Calls Try.prog 147 #[.string a, .string b] w fun e w' => (∃ c : Int, e = .returned (.int .i64 c) ∧ decide (0 ≤ c) = !(normLt a b)) ∧ Below w0.heap.size w0 w' := by
  have HC : Hid (decide (0 ≤ Lib.compareBytes (normS a).data.toList (normS b).data.toList) = !(normLt a b)) := Lib.hid (by rw [compare_less]; unfold normLt; rw [Lib.toList_data, Lib.toList_data])
  have hbd := hB.drew
  have HN : Hid (∀ (s : ByteArray) W, s.size ≤ maxLen → Below w0.heap.size w0 W → Calls Try.prog 188 #[.string s] W fun e w' => e = .returned (.string (normS s)) ∧ Below w0.heap.size w0 w') :=
    Lib.hid (fun s W hs h => (Norm_any s W hs).mono fun _ _ g => ⟨g.1, h.trans (g.2.mono h.size)⟩)
  go_enter Try.func147, Try.ntmps147
  go_wp2_with (first
    | (go_at_call 188; refine (HN.out _ _ ha hB).mono ?_; rintro e w1 ⟨rfl, hb1⟩; clear hB hbd)
    | (go_at_call 188; refine (HN.out _ _ hb hb1).mono ?_; rintro e w2 ⟨rfl, hb2⟩; clear hb1)
    | (go_at_call 79; refine (Try.strings_Compare _ _ _).mono ?_; rintro e w3 ⟨rfl, rfl⟩)
    | (fail "none"))
  go_ret
  exact ⟨⟨_, rfl, HC.out⟩, hb2⟩
theorem FitsV.max {l : List ByteArray} (h : FitsV l) {k : Nat} (hk : k < l.length) : l[k].size ≤ maxLen := by have := h.at hk; unfold maxLen; omega
set_option maxRecDepth 100000 in
set_option maxHeartbeats 1000000 in
theorem areProper_any (ao : Option Addr) (l : List ByteArray) (cap : Nat) (w : World) (hd : StrsAt w ao l) (hf : FitsV l) :
    Calls Try.prog 145 #[.slice ao l.length cap] w fun e w' => e = .returned (.bool (l.all valB)) ∧ Below w.heap.size w w' := by
  have hl := hf.1
  have HD := Lib.hid hd; have HF := Lib.hid hf; clear hd hf
  go_enter Try.func145, Try.ntmps145
  go_wp2
  go_loopw [7] (fun i wr => ∃ k : Nat, k ≤ l.length ∧ i = .int .i64 k ∧ (l.take k).all valB = true ∧ Below w.heap.size w wr) (fun i _ => l.length - (intOf i).toNat)
  case atStart => exact ⟨0, Nat.zero_le _, rfl, rfl, Below.refl _ _⟩
  case round =>
    obtain ⟨k, hk, rfl, ha, hbel⟩ := hrel
    have Ha := Lib.hid ha; clear ha
    have hsz := hbel.size
    by_cases hlt : k < l.length
    · obtain ⟨b, off, rfl, hb0, hc1⟩ := (HD.out.below hbel).at hlt
      have hz := HF.out.max hlt
      generalize hr : valB l[k] = r at *
      have HR := Lib.hid hr; clear hr
      cases r
      · have HX := Lib.hid (all_bad valB l k hlt HR.out)
        go_wp2_with (first | (go_at_call 187; refine (isProperValue_any _ _ hz).mono ?_; rintro e w1 ⟨rfl, hb1⟩; rw [HR.out]) | (fail "none"))
        go_ret
        exact ⟨ret_bool (by rw [HX.out]), hbel.trans (hb1.mono hsz)⟩
      · have HT : Hid ((l.take (k + 1)).all valB = true) := Lib.hid (by rw [all_take valB l k hlt, Ha.out, HR.out]; rfl)
        go_wp2_with (first | (go_at_call 187; refine (isProperValue_any _ _ hz).mono ?_; rintro e w1 ⟨rfl, hb1⟩; rw [HR.out]) | (fail "none"))
        go_roundw
        case rel => exact ⟨k + 1, by omega, by go_num, HT.out, hbel.trans (hb1.mono hsz)⟩
        case measure => simp [intOf]; omega
    · have e : l.take k = l := List.take_of_length_le (by omega)
      have HT : Hid (l.all valB = true) := Lib.hid (by rw [← e]; exact Ha.out)
      clear e
      go_wp2
      go_ret
      exact ⟨ret_bool (by rw [HT.out]), hbel⟩
set_option maxRecDepth 100000 in
set_option maxHeartbeats 1000000 in
theorem incStr_any (ao : Option Addr) (l : List ByteArray) (cap : Nat) (w : World) (hd : StrsAt w ao l) (hf : FitsV l) :
    Calls Try.prog 146 #[.slice ao l.length cap, .func (.func 147) #[] #[]] w fun e w' => e = .returned (.bool (incB normLt l)) ∧ Below w.heap.size w w' := by
  have hl := hf.1
  have HD := Lib.hid hd; have HF := Lib.hid hf; clear hd hf
  go_enter Try.func146, Try.ntmps146
  go_wp2
  go_loopw [5] (fun i wr => ∃ m : Nat, m ≤ l.length ∧ i = .int .i64 ((m : Int) + 1) ∧ (∀ j (h : j + 1 < l.length), j < m → normLt l[j] l[j + 1] = true) ∧ Below w.heap.size w wr) (fun i _ => l.length + 1 - (intOf i).toNat)
  case atStart => exact ⟨0, Nat.zero_le _, rfl, fun j _ h => absurd h (Nat.not_lt_zero _), Below.refl _ _⟩
  case round =>
    obtain ⟨m, hm, rfl, ha, hbel⟩ := hrel
    have Ha := Lib.hid ha; clear ha
    have hsz := hbel.size
    by_cases hlt : m + 1 < l.length
    · have hm0 : m < l.length := by omega
      obtain ⟨b, off, rfl, hw0, hd1⟩ := HD.out.at hm0
      obtain ⟨b', off', e, _, hd2⟩ := HD.out.at hlt
      cases e
      have hc1 := (hbel.cell (p := ⟨b, off + m, none⟩) hw0).trans hd1
      have hc2 := (hbel.cell (p := ⟨b, off + (m + 1), none⟩) hw0).trans hd2
      have hz1 := HF.out.max hm0
      have hz2 := HF.out.max hlt
      have g1 : (m : Int) + 1 < (l.length : Int) := by omega
      have g2 : (0 : Int) ≤ (m : Int) := by omega
      have g3 : (m : Int) < (l.length : Int) := by omega
      have g4 : (0 : Int) ≤ (m : Int) + 1 := by omega
      have HN : Hid (∀ j (h : j + 1 < l.length), j < m + 1 → normLt l[m] l[m + 1] = true → normLt l[j] l[j + 1] = true) := Lib.hid (fun j h hj hn => by
        by_cases e : j = m
        · subst e; exact hn
        · exact Ha.out j h (by omega))
      have HX : Hid (normLt l[m] l[m + 1] = false → incB normLt l = false) := Lib.hid (fun h => incB_no hlt h)
      generalize hx : l[m] = X at *
      generalize hy : l[m + 1] = Y at *
      clear hx hy
      have SK : Hid (∀ W : World, Below w.heap.size w W → (Below w.heap.size w W ∧ W.cell? ⟨b, off + m, none⟩ = some (.string X) ∧ W.cell? ⟨b, off + (m + 1), none⟩ = some (.string Y))) :=
        Lib.hid (fun W h => ⟨h, (h.cell (p := ⟨b, _, none⟩) hw0).trans hd1, (h.cell (p := ⟨b, _, none⟩) hw0).trans hd2⟩)
      have hbd := hbel.drew
      have hwr : IntKind.i64.wrap (m : Int) = (m : Int) := IntWalk.i64_in _ (by omega)
      have hwr2 : IntKind.i64.wrap ((m : Int) + 1 - 1) = (m : Int) := by rw [Int.add_sub_cancel]; exact hwr
      clear hc1 hc2 hd1 hd2
      cases hn : normLt X Y
      · have HX' := Lib.hid (HX.out hn)
        go_wp2_with fail
        go_region_held3 (fun W => Below w.heap.size w W ∧ W.cell? ⟨b, off + m, none⟩ = some (.string X) ∧ W.cell? ⟨b, off + (m + 1), none⟩ = some (.string Y))
          (exact SK.out _ (by assumption))
          (first | (go_at_call 147; refine (compareNorms_any w X Y _ hz1 hz2 (by assumption)).mono ?_; rintro e w1 ⟨⟨c, rfl, hc⟩, hb1⟩; rw [hn] at hc; have hc0 : 0 ≤ c := (by simpa using hc); clear hc) | (fail "none"))
        all_goals
          go_wp2
          go_ret
          exact ⟨ret_bool (by rw [HX'.out]), hb1⟩
      · go_wp2_with fail
        go_region_held3 (fun W => Below w.heap.size w W ∧ W.cell? ⟨b, off + m, none⟩ = some (.string X) ∧ W.cell? ⟨b, off + (m + 1), none⟩ = some (.string Y))
          (exact SK.out _ (by assumption))
          (first | (go_at_call 147; refine (compareNorms_any w X Y _ hz1 hz2 (by assumption)).mono ?_; rintro e w1 ⟨⟨c, rfl, hc⟩, hb1⟩; rw [hn] at hc; have hc0 : ¬ 0 ≤ c := (by simpa using hc); clear hc) | (fail "none"))
        all_goals
          go_wp2
          go_roundw
          case rel => exact ⟨m + 1, by omega, by go_num, fun j h hj => HN.out j h hj hn, hb1⟩
          case measure => simp [intOf]; omega
    · have HT : Hid (incB normLt l = true) := Lib.hid (incB_yes fun j h => Ha.out j h (by omega))
      have g1 : ¬ (m : Int) + 1 < (l.length : Int) := by omega
      go_wp2
      go_ret
      exact ⟨ret_bool (by rw [HT.out]), hbel⟩
set_option maxRecDepth 100000 in
set_option maxHeartbeats 1000000 in
theorem attrRight_any (A : ByteArray) (vo : Option Addr) (l : List ByteArray) (vc : Nat) (w : World) (hA : A.size ≤ maxLen) (hd : StrsAt w vo l) (hf : FitsV l) :
    Calls Try.prog 208 #[.agg #[.string A, .slice vo l.length vc]] w fun e w' => e = .returned (.bool (attrB (A, l))) ∧ Below w.heap.size w w' := by
  have hl := hf.1
  have HD := Lib.hid hd; have HF := Lib.hid hf; clear hd hf
  have HB0 : Hid (Below w.heap.size w (w.alloc (.cells #[.string A, .slice vo l.length vc] 97))) := Lib.hid (more (Below.refl _ _) _)
  have HE : Hid (attrB (A, l) = (nmL A && (decide (1 ≤ l.length) && decide (l.length ≤ 4) && l.all valB && incB normLt l))) := Lib.hid rfl
  by_cases h1 : l.length < 1
  · have g1 : (l.length : Int) < 1 := by omega
    go_enter Try.func208, Try.ntmps208
    go_wp2
    go_ret
    exact ⟨ret_bool (by rw [HE.out]; simp [show ¬ 1 ≤ l.length by omega]), HB0.out⟩
  · have g1 : ¬ (l.length : Int) < 1 := by omega
    by_cases h4 : 4 < l.length
    · have g4 : 4 < (l.length : Int) := by omega
      go_enter Try.func208, Try.ntmps208
      go_wp2
      go_ret
      exact ⟨ret_bool (by rw [HE.out]; simp [show ¬ l.length ≤ 4 by omega]), HB0.out⟩
    · have g4 : ¬ 4 < (l.length : Int) := by omega
      have d1 : decide (1 ≤ l.length) = true := decide_eq_true (by omega)
      have d2 : decide (l.length ≤ 4) = true := decide_eq_true (by omega)
      rw [d1, d2] at HE
      clear d1 d2
      cases hn : nmL A
      · rw [hn] at HE
        go_enter Try.func208, Try.ntmps208
        go_wp2_with (first | (go_at_call 86; refine (NameRight_any _ _ hA).mono ?_; rintro e w' ⟨rfl, rfl⟩) | (fail "none"))
        go_ret
        exact ⟨ret_bool (by rw [HE.out]; simp), HB0.out⟩
      · rw [hn] at HE
        cases hv : l.all valB
        · rw [hv] at HE
          go_enter Try.func208, Try.ntmps208
          go_wp2_with (first | (go_at_call 86; refine (NameRight_any _ _ hA).mono ?_; rintro e w' ⟨rfl, rfl⟩) | (go_at_call 145; refine (areProper_any vo l vc _ (HD.out.below HB0.out) HF.out).mono ?_; rw [hv]; rintro e w1 ⟨rfl, hb1⟩) | (fail "none"))
          go_ret
          exact ⟨ret_bool (by rw [HE.out]; simp), HB0.out.trans (hb1.mono HB0.out.size)⟩
        · rw [hv] at HE
          go_enter Try.func208, Try.ntmps208
          go_wp2_with (first | (go_at_call 86; refine (NameRight_any _ _ hA).mono ?_; rintro e w' ⟨rfl, rfl⟩) | (go_at_call 145; refine (areProper_any vo l vc _ (HD.out.below HB0.out) HF.out).mono ?_; rw [hv]; rintro e w1 ⟨rfl, hb1⟩; have B1 := Lib.hid (HB0.out.trans (hb1.mono HB0.out.size)); have c1 : w1.cell? ⟨w.heap.size, 1, none⟩ = some (.slice vo l.length vc) := (hb1.cell (p := ⟨w.heap.size, 1, none⟩) (by simp)).trans (by unfold World.cell?; rw [heap_alloc_new]; rfl)) | (fail "none"))
          refine (incStr_any vo l vc w1 (HD.out.below B1.out) HF.out).mono ?_
          rintro e w2 ⟨rfl, hb2⟩
          have B2 := Lib.hid (B1.out.trans (hb2.mono B1.out.size))
          clear hb1 hb2
          generalize incB normLt l = r at *
          go_wp2
          go_ret
          exact ⟨ret_bool (by rw [HE.out]; simp), B2.out⟩
end Ytlgafmgohinkbaa
end Go.Proofs
/- SchemaRight: names in order. -/
namespace Go.Proofs.Ytlgafmgohinkbaa
open Go.RowKit
attribute [local go_sem ↓] Go.wp_at_zero Go.wp_at_succ

def strLt (x y : ByteArray) : Bool := Op.bytesLess x.toList y.toList
noncomputable def namesB (l : List ByteArray) : Bool := l.all nmL && incB strLt l
theorem compare_any (w0 : World) (a b : ByteArray) (w : World) (hB : Below w0.heap.size w0 w) :
    Calls Try.prog 79 #[.string a, .string b] w fun e w' => (∃ c : Int, e = .returned (.int .i64 c) ∧ decide (0 ≤ c) = !(strLt a b)) ∧ Below w0.heap.size w0 w' := by
  refine (Try.strings_Compare a b w).mono ?_
  rintro e w' ⟨rfl, rfl⟩
  exact ⟨⟨_, rfl, by rw [compare_less]; unfold strLt; rw [Lib.toList_data, Lib.toList_data]⟩, hB⟩
set_option maxRecDepth 100000 in
set_option maxHeartbeats 1000000 in
theorem incName_any (ao : Option Addr) (l : List ByteArray) (cap : Nat) (w : World) (hd : StrsAt w ao l) (hf : FitsV l) :
    Calls Try.prog 146 #[.slice ao l.length cap, .func (.func 79) #[] #[]] w fun e w' => e = .returned (.bool (incB strLt l)) ∧ Below w.heap.size w w' := by
  have hl := hf.1
  have HD := Lib.hid hd; have HF := Lib.hid hf; clear hd hf
  go_enter Try.func146, Try.ntmps146
  go_wp2
  go_loopw [5] (fun i wr => ∃ m : Nat, m ≤ l.length ∧ i = .int .i64 ((m : Int) + 1) ∧ (∀ j (h : j + 1 < l.length), j < m → strLt l[j] l[j + 1] = true) ∧ Below w.heap.size w wr) (fun i _ => l.length + 1 - (intOf i).toNat)
  case atStart => exact ⟨0, Nat.zero_le _, rfl, fun j _ h => absurd h (Nat.not_lt_zero _), Below.refl _ _⟩
  case round =>
    obtain ⟨m, hm, rfl, ha, hbel⟩ := hrel
    have Ha := Lib.hid ha; clear ha
    have hsz := hbel.size
    by_cases hlt : m + 1 < l.length
    · have hm0 : m < l.length := by omega
      obtain ⟨b, off, rfl, hw0, hd1⟩ := HD.out.at hm0
      obtain ⟨b', off', e, _, hd2⟩ := HD.out.at hlt
      cases e
      have hc1 := (hbel.cell (p := ⟨b, off + m, none⟩) hw0).trans hd1
      have hc2 := (hbel.cell (p := ⟨b, off + (m + 1), none⟩) hw0).trans hd2
      have hz1 := HF.out.max hm0
      have hz2 := HF.out.max hlt
      have g1 : (m : Int) + 1 < (l.length : Int) := by omega
      have g2 : (0 : Int) ≤ (m : Int) := by omega
      have g3 : (m : Int) < (l.length : Int) := by omega
      have g4 : (0 : Int) ≤ (m : Int) + 1 := by omega
      have HN : Hid (∀ j (h : j + 1 < l.length), j < m + 1 → strLt l[m] l[m + 1] = true → strLt l[j] l[j + 1] = true) := Lib.hid (fun j h hj hn => by
        by_cases e : j = m
        · subst e; exact hn
        · exact Ha.out j h (by omega))
      have HX : Hid (strLt l[m] l[m + 1] = false → incB strLt l = false) := Lib.hid (fun h => incB_no hlt h)
      generalize hx : l[m] = X at *
      generalize hy : l[m + 1] = Y at *
      clear hx hy
      have SK : Hid (∀ W : World, Below w.heap.size w W → (Below w.heap.size w W ∧ W.cell? ⟨b, off + m, none⟩ = some (.string X) ∧ W.cell? ⟨b, off + (m + 1), none⟩ = some (.string Y))) :=
        Lib.hid (fun W h => ⟨h, (h.cell (p := ⟨b, _, none⟩) hw0).trans hd1, (h.cell (p := ⟨b, _, none⟩) hw0).trans hd2⟩)
      have hbd := hbel.drew
      have hwr : IntKind.i64.wrap (m : Int) = (m : Int) := IntWalk.i64_in _ (by omega)
      have hwr2 : IntKind.i64.wrap ((m : Int) + 1 - 1) = (m : Int) := by rw [Int.add_sub_cancel]; exact hwr
      clear hc1 hc2 hd1 hd2
      cases hn : strLt X Y
      · have HX' := Lib.hid (HX.out hn)
        go_wp2_with fail
        go_region_held3 (fun W => Below w.heap.size w W ∧ W.cell? ⟨b, off + m, none⟩ = some (.string X) ∧ W.cell? ⟨b, off + (m + 1), none⟩ = some (.string Y))
          (exact SK.out _ (by assumption))
          (first | (go_at_call 79; refine (compare_any w X Y _ (by assumption)).mono ?_; rintro e w1 ⟨⟨c, rfl, hc⟩, hb1⟩; rw [hn] at hc; have hc0 : 0 ≤ c := (by simpa using hc); clear hc) | (fail "none"))
        all_goals
          go_wp2
          go_ret
          exact ⟨ret_bool (by rw [HX'.out]), hb1⟩
      · go_wp2_with fail
        go_region_held3 (fun W => Below w.heap.size w W ∧ W.cell? ⟨b, off + m, none⟩ = some (.string X) ∧ W.cell? ⟨b, off + (m + 1), none⟩ = some (.string Y))
          (exact SK.out _ (by assumption))
          (first | (go_at_call 79; refine (compare_any w X Y _ (by assumption)).mono ?_; rintro e w1 ⟨⟨c, rfl, hc⟩, hb1⟩; rw [hn] at hc; have hc0 : ¬ 0 ≤ c := (by simpa using hc); clear hc) | (fail "none"))
        all_goals
          go_wp2
          go_roundw
          case rel => exact ⟨m + 1, by omega, by go_num, fun j h hj => HN.out j h hj hn, hb1⟩
          case measure => simp [intOf]; omega
    · have HT : Hid (incB strLt l = true) := Lib.hid (incB_yes fun j h => Ha.out j h (by omega))
      have g1 : ¬ (m : Int) + 1 < (l.length : Int) := by omega
      go_wp2
      go_ret
      exact ⟨ret_bool (by rw [HT.out]), hbel⟩
set_option maxRecDepth 100000 in
set_option maxHeartbeats 1000000 in
theorem areNames_any (ao : Option Addr) (l : List ByteArray) (cap : Nat) (w : World) (hd : StrsAt w ao l) (hf : FitsV l) :
    Calls Try.prog 170 #[.slice ao l.length cap] w fun e w' => e = .returned (.bool (namesB l)) ∧ Below w.heap.size w w' := by
  have hl := hf.1
  have HD := Lib.hid hd; have HF := Lib.hid hf; clear hd hf
  go_enter Try.func170, Try.ntmps170
  go_wp2
  go_loopw [7] (fun i wr => ∃ k : Nat, k ≤ l.length ∧ i = .int .i64 k ∧ (l.take k).all nmL = true ∧ Below w.heap.size w wr) (fun i _ => l.length - (intOf i).toNat)
  case atStart => exact ⟨0, Nat.zero_le _, rfl, rfl, Below.refl _ _⟩
  case round =>
    obtain ⟨k, hk, rfl, ha, hbel⟩ := hrel
    have Ha := Lib.hid ha; clear ha
    have hsz := hbel.size
    by_cases hlt : k < l.length
    · obtain ⟨b, off, rfl, hb0, hc1⟩ := (HD.out.below hbel).at hlt
      have hz := HF.out.max hlt
      generalize hr : nmL l[k] = r at *
      have HR := Lib.hid hr; clear hr
      cases r
      · have HX : Hid (namesB l = false) := Lib.hid (by unfold namesB; rw [all_bad nmL l k hlt HR.out]; rfl)
        go_wp2_with (first | (go_at_call 86; refine (NameRight_any _ _ hz).mono ?_; rintro e w1 ⟨rfl, rfl⟩; rw [HR.out]) | (fail "none"))
        go_ret
        exact ⟨ret_bool (by rw [HX.out]), hbel⟩
      · have HT : Hid ((l.take (k + 1)).all nmL = true) := Lib.hid (by rw [all_take nmL l k hlt, Ha.out, HR.out]; rfl)
        go_wp2_with (first | (go_at_call 86; refine (NameRight_any _ _ hz).mono ?_; rintro e w1 ⟨rfl, rfl⟩; rw [HR.out]) | (fail "none"))
        go_roundw
        case rel => exact ⟨k + 1, by omega, by go_num, HT.out, hbel⟩
        case measure => simp [intOf]; omega
    · have e : l.take k = l := List.take_of_length_le (by omega)
      have HT : Hid (namesB l = incB strLt l) := Lib.hid (by unfold namesB; rw [← e, Ha.out, e]; rfl)
      clear e
      go_wp2_with fail
      refine (incName_any ao l cap wr (HD.out.below hbel) HF.out).mono ?_
      rintro e w1 ⟨rfl, hb1⟩
      have B1 := Lib.hid (hbel.trans (hb1.mono hsz))
      generalize incB strLt l = r at *
      go_wp2
      go_ret
      exact ⟨ret_bool (by rw [HT.out]), B1.out⟩
noncomputable def names10 (l : List ByteArray) : Bool := decide (l.length ≤ 10) && namesB l
set_option maxHeartbeats 1000000 in
theorem classNames_any (w0 : World) (v : Value) (l : List ByteArray) (w : World) (hB : Below w0.heap.size w0 w) (hd : SlV w0 v l) (hf : FitsV l) :
    Calls Try.prog 195 #[v] w fun e w' => e = .returned (.bool (names10 l)) ∧ Below w.heap.size w w' := by
  obtain ⟨ao, cap, rfl, hd⟩ := hd
  have HD := Lib.hid (hd.1.below hB); have HF := Lib.hid hf
  have hl := hf.1
  clear hd hf hB
  have HE : Hid (names10 l = (decide (l.length ≤ 10) && namesB l)) := Lib.hid rfl
  by_cases h : l.length ≤ 10
  · have g : (l.length : Int) ≤ 10 := by omega
    rw [decide_eq_true h] at HE
    go_enter Try.func195, Try.ntmps195
    go_wp2_with (first | (go_at_call 170; refine (areNames_any ao l cap _ HD.out HF.out).mono ?_; rintro e w1 ⟨rfl, hb1⟩; generalize namesB l = r at *) | (fail "none"))
    go_ret
    exact ⟨ret_bool (by rw [HE.out]; simp), hb1⟩
  · have g : ¬ (l.length : Int) ≤ 10 := by omega
    rw [decide_eq_false h] at HE
    go_enter Try.func195, Try.ntmps195
    go_wp2_with (fail "none")
    go_ret
    exact ⟨ret_bool (by rw [HE.out]; simp), Below.refl _ _⟩
end Go.Proofs.Ytlgafmgohinkbaa
