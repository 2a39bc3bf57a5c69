/- Merged texts: EntM2, EntA2, ClsR3, QuadT, ClsB, ClsCat, ClsR4a. -/
import Derived.Test.YtlgafmgohinkbaaM5
import Derived.Laws.AppendOwnNone
import Derived.Test.YtlgafmgohinkbaaM4
import Derived.Test.YtlgafmgohinkbaaM1
import Derived.Test.YtlgafmgohinkbaaM3
/- Attributes by their names: plain facts. -/
namespace Go.Proofs.Ytlgafmgohinkbaa
open Go.RowKit

theorem less_irrefl : ∀ a : List UInt8, Op.bytesLess a a = false
  | [] => rfl
  | a :: xs => by
    have ih := less_irrefl xs
    unfold Op.bytesLess
    simp [ih]
theorem less_trans : ∀ a b c : List UInt8, Op.bytesLess a b = true → Op.bytesLess b c = true → Op.bytesLess a c = true
  | [], [], _, h, _ => by simp [Op.bytesLess] at h
  | [], _ :: _, [], _, h => by simp [Op.bytesLess] at h
  | [], _ :: _, _ :: _, _, _ => by simp [Op.bytesLess]
  | _ :: _, [], _, h, _ => by simp [Op.bytesLess] at h
  | _ :: _, _ :: _, [], _, h => by simp [Op.bytesLess] at h
  | a :: xs, b :: ys, c :: zs, h1, h2 => by
    have ih := less_trans xs ys zs
    unfold Op.bytesLess at h1 h2 ⊢
    simp at h1 h2 ⊢
    rcases h1 with h1 | ⟨rfl, h1⟩
    · rcases h2 with h2 | ⟨rfl, h2⟩
      · exact .inl (UInt8.lt_trans h1 h2)
      · exact .inl h1
    · rcases h2 with h2 | ⟨rfl, h2⟩
      · exact .inl h2
      · exact .inr ⟨rfl, ih h1 h2⟩
theorem inc_far {α : Type} {lt : α → α → Bool} (tr : ∀ a b c, lt a b = true → lt b c = true → lt a c = true) {l : List α} (h : incB lt l = true) : ∀ (i j : Nat) (hi : i < l.length) (hj : j < l.length), i < j → lt l[i] l[j] = true := by
  have h1 : ∀ i (h : i + 1 < l.length), lt l[i] l[i + 1] = true := @of_decide_eq_true _ (Classical.propDecidable _) h
  intro i j
  induction j with
  | zero => intro _ _ h; omega
  | succ j ih =>
    intro hi hj hij
    by_cases e : i = j
    · subst e; exact h1 i hj
    · exact tr _ _ _ (ih hi (by omega) (by omega)) (h1 j hj)
theorem names_apart {d : RdnL} {l : List AttrV} (h : rightB d l = true) : ∀ (i j : Nat) (hi : i < l.length) (hj : j < l.length), i < j → l[i].1 ≠ l[j].1 := by
  unfold rightB attrsB at h
  simp only [Bool.and_eq_true] at h
  intro i j hi hj hij e
  have := inc_far (lt := nameLt) (fun a b c => less_trans _ _ _) h.2.2 i j hi hj hij
  unfold nameLt at this
  rw [e, less_irrefl] at this
  cases this
theorem name_short {d : RdnL} {l : List AttrV} (h : rightB d l = true) {a : AttrV} (ha : a ∈ l) : a.1.size ≤ 20 := by
  unfold rightB attrsB at h
  simp only [Bool.and_eq_true, List.all_eq_true] at h
  have := h.2.1.2 a ha
  unfold attrB nmL at this
  simp only [Bool.and_eq_true, decide_eq_true_eq] at this
  exact this.1.1.1.2
/-- the number of the attribute of a name -/
def atN (l : List AttrV) (nm : ByteArray) : Option Nat := l.findIdx? (fun a => decide (a.1 = nm))
def valsOf (l : List AttrV) (nm : ByteArray) : List ByteArray := match atN l nm with | some i => (l.getD i (ByteArray.empty, [])).2 | none => []
theorem atN_some {l : List AttrV} {nm : ByteArray} {i : Nat} (h : atN l nm = some i) : ∃ hi : i < l.length, l[i].1 = nm ∧ valsOf l nm = l[i].2 ∧ ∀ j (hj : j < i), l[j].1 ≠ nm := by
  have h' := h
  unfold atN at h'
  rw [List.findIdx?_eq_some_iff_getElem] at h'
  obtain ⟨hi, h1, h2⟩ := h'
  refine ⟨hi, by simpa using h1, ?_, fun j hj => by simpa using h2 j hj⟩
  unfold valsOf
  rw [h]
  simp [hi]
theorem atN_none {l : List AttrV} {nm : ByteArray} (h : atN l nm = none) : (∀ a ∈ l, a.1 ≠ nm) ∧ valsOf l nm = [] := by
  have h' := h
  unfold atN at h'
  rw [List.findIdx?_eq_none_iff] at h'
  refine ⟨fun a ha => by simpa using h' a ha, ?_⟩
  unfold valsOf
  rw [h]
theorem isMap_mapOf (ps : List (ByteArray × Value)) : Maps.IsMap (mapOf ps) := by
  have : ∀ (ps : List (ByteArray × Value)) (D : DataW Value), Maps.IsMap D → Maps.IsMap (ps.foldl putP D) := by
    intro ps
    induction ps with
    | nil => intro D h; exact h
    | cons p ps ih => intro D h; exact ih _ (h.put _ _)
  exact this ps _ Maps.isMap_empty
theorem key_ne {a b : ByteArray} (h : a ≠ b) : Lit.string a.data.toList ≠ Lit.string b.data.toList := by
  intro e
  injection e with e
  exact h (ByteArray.ext (Array.toList_inj.1 e))
theorem snoc_rec {α : Type} {P : List α → Prop} (h0 : P []) (h1 : ∀ l a, P l → P (l ++ [a])) (l : List α) : P l := by
  have : ∀ r : List α, P r.reverse := by
    intro r
    induction r with
    | nil => exact h0
    | cons a r ih => rw [List.reverse_cons]; exact h1 _ _ ih
  simpa using this l.reverse
theorem mapOf_miss (ps : List (ByteArray × Value)) (nm : ByteArray) (z : DataW Value) (h : ∀ p ∈ ps, p.1 ≠ nm) : (mapOf ps).atKey (.string nm.data.toList) z = z := by
  revert h
  refine snoc_rec (P := fun ps => (∀ p ∈ ps, p.1 ≠ nm) → (mapOf ps).atKey (.string nm.data.toList) z = z) ?_ ?_ ps
  · intro _; rfl
  · intro ps p ih h
    rw [mapOf_snoc, Maps.atKey_put_other (key_ne (h p (by simp)).symm)]
    exact ih fun q hq => h q (by simp [hq])
theorem mapOf_hit (ps : List (ByteArray × Value)) (nm : ByteArray) (z : DataW Value) (i : Nat) (hi : i < ps.length) (h1 : ps[i].1 = nm) (h2 : ∀ j (hj : j < ps.length), i < j → ps[j].1 ≠ nm) : (mapOf ps).atKey (.string nm.data.toList) z = .held ps[i].2 := by
  revert hi h1 h2
  refine snoc_rec (P := fun ps => ∀ (hi : i < ps.length), ps[i].1 = nm → (∀ j (hj : j < ps.length), i < j → ps[j].1 ≠ nm) → (mapOf ps).atKey (.string nm.data.toList) z = .held ps[i].2) ?_ ?_ ps
  · intro hi; simp at hi
  · intro ps p ih hi h1 h2
    by_cases e : i < ps.length
    · rw [mapOf_snoc]
      have hp : p.1 ≠ nm := by
        have := h2 ps.length (by simp) e
        simpa using this
      rw [Maps.atKey_put_other (key_ne hp.symm)]
      rw [List.getElem_append_left e] at h1 ⊢
      exact ih e h1 (fun j hj hij => by have := h2 j (by simp; omega) hij; rwa [List.getElem_append_left hj] at this)
    · have hi' : i = ps.length := by simp at hi; omega
      subst hi'
      rw [mapOf_snoc]
      simp only [List.getElem_append_right (Nat.le_refl _), Nat.sub_self, List.getElem_cons_zero] at h1 ⊢
      rw [← h1]
      exact Maps.atKey_put_same (isMap_mapOf ps) (by trivial) _ _
/-- what the map of a valid entry's attributes holds at a name -/
theorem map_at {w : World} {d : RdnL} {l : List AttrV} {ps : List (ByteArray × Value)} (h : AttrVals w l ps) (hr : rightB d l = true) (nm : ByteArray) :
    ∃ x vo vc, (mapOf ps).atKey (.string nm.data.toList) (.held (.agg #[.string ByteArray.empty, .slice none 0 0])) = .held (.agg #[.string x, .slice vo (valsOf l nm).length vc]) ∧ ValsAt w vo vc (valsOf l nm) := by
  have hl := h.1
  cases ha : atN l nm with
  | none =>
    obtain ⟨h1, h2⟩ := atN_none ha
    refine ⟨ByteArray.empty, none, 0, ?_, ?_⟩
    · rw [h2]
      refine mapOf_miss ps nm _ fun p hp => ?_
      obtain ⟨i, hi, rfl⟩ := List.getElem_of_mem hp
      rw [(h.2 i (by omega) hi).1]
      exact h1 _ (List.getElem_mem _)
    · rw [h2]; exact ⟨.inl rfl, Nat.le_refl _, fun _ => rfl⟩
  | some i =>
    obtain ⟨hi, h1, h2, _⟩ := atN_some ha
    obtain ⟨q1, vo, vc, q2, q3⟩ := h.2 i hi (by omega)
    refine ⟨l[i].1, vo, vc, ?_, by rw [h2]; exact q3⟩
    rw [mapOf_hit ps nm _ i (by omega) (q1.trans h1) (fun j hj hij => by
      rw [(h.2 j (by omega) hj).1, ← h1]
      exact (names_apart hr i j hi (by omega) hij).symm), q2, h2]
end Go.Proofs.Ytlgafmgohinkbaa
/- AttrOf: what the program returns, and what the specification returns. -/
namespace Go.Proofs.Ytlgafmgohinkbaa
open Go.RowKit
attribute [local go_sem ↓] Go.wp_at_zero Go.wp_at_succ

noncomputable def attrOfL (d : RdnL) (l : List AttrV) (nm : ByteArray) : List ByteArray := if rightB d l = true then valsOf l nm else []
theorem attrOf_yes {d : RdnL} {l : List AttrV} (h : rightB d l = true) (nm : ByteArray) : attrOfL d l nm = valsOf l nm := by unfold attrOfL; rw [if_pos h]
theorem attrOf_no {d : RdnL} {l : List AttrV} (h : rightB d l = false) (nm : ByteArray) : attrOfL d l nm = [] := by unfold attrOfL; rw [h]; rfl
theorem attrOf_long {d : RdnL} {l : List AttrV} {nm : ByteArray} (h : 20 < nm.size) : attrOfL d l nm = [] := by
  unfold attrOfL
  split
  · rename_i hr
    cases ha : atN l nm with
    | none => exact (atN_none ha).2
    | some i =>
      obtain ⟨hi, h1, _⟩ := atN_some ha
      have := name_short hr (List.getElem_mem hi)
      rw [h1] at this; omega
  · rfl
theorem FitsV.nil : FitsV [] := ⟨by simp, fun s h => by simp at h⟩
theorem valsOf_fits {l : List AttrV} (h : FitsA l) (nm : ByteArray) : FitsV (valsOf l nm) := by
  cases ha : atN l nm with
  | none => rw [(atN_none ha).2]; exact .nil
  | some i =>
    obtain ⟨hi, _, h2, _⟩ := atN_some ha
    rw [h2]; exact (h.at hi).2
/-- new texts are returned -/
def GivesV (w : World) (V : List ByteArray) (e : Ending) (w' : World) : Prop := (∃ v, e = .returned v ∧ w'.ownsRow w.heap.size 9 1 v V.length (ss V)) ∧ Below w.heap.size w w'
theorem own_none (w : World) (B : Nat) : w.ownsRow B 9 1 (.slice none 0 0) 0 (ss []) := ⟨rfl, .inl ⟨rfl, rfl⟩⟩
theorem ss_one (l : List ByteArray) : ∀ u ∈ ss l, u.oneCell' = true := by
  intro u hu
  unfold ss at hu
  obtain ⟨s, _, rfl⟩ := List.mem_map.1 hu
  rfl
theorem ss_append (a b : List ByteArray) : ss (a ++ b) = ss a ++ ss b := by unfold ss; rw [List.map_append]
theorem strs_cells {w : World} {b off : Nat} {d : List ByteArray} (h : StrsAt w (some ⟨b, off, none⟩) d) : ∀ j u, (ss d)[j]? = some u → w.cell? ((⟨b, off, none⟩ : Addr).add j) = some u := by
  intro j u hu
  have ea : (⟨b, off, none⟩ : Addr).add j = ⟨b, off + j, none⟩ := by unfold Addr.add; split <;> simp_all
  rw [ea]
  unfold ss at hu
  rw [List.getElem?_map] at hu
  by_cases hj : j < d.length
  · rw [List.getElem?_eq_getElem hj] at hu
    obtain ⟨b', off', e, _, c⟩ := h.at hj
    cases e
    rw [c, ← hu]; rfl
  · rw [List.getElem?_eq_none (by omega)] at hu; cases hu
/-- append(v, texts...) onto a row that the call owns -/
theorem append_strs {ops : Array Oper} {rest : List Oper} {o : Oper} {a : Act} {Q : Exit → Act → World → Prop} {w0 wr : World} (B : Nat) (hgd : o.guard = none) (s x : Operand)
    (ho : o.op = .call { callee := .builtin .append, args := #[s, x], argTypes := #[29, 29] }) (v : Value) (pre : List ByteArray) (hs : a.eval s = v) (hown : wr.ownsRow B 9 1 v pre.length (ss pre))
    (ao : Option Addr) (d : List ByteArray) (c n : Nat) (hn : n = d.length) (hx : a.eval x = .slice ao n c) (hd : StrsAt wr ao d) (hc : ao = none → c = 0) (hlen : pre.length + d.length ≤ 1000000000) (hB : B ≤ wr.heap.size) (hbel : Below B w0 wr)
    (h : ∀ v' w', w'.ownsRow B 9 1 v' (pre ++ d).length (ss (pre ++ d)) → Below B w0 w' → wpList Try.prog ops Q rest (a.put o.dst v') w') :
    wpList Try.prog ops Q (o :: rest) a wr := by
  obtain ⟨i0, hi, hz0, hz1, hz2⟩ := info_parts Try.info9
  subst hn
  rcases ao with _ | ad
  · have hd0 : d = [] := by
      rcases hd with h | ⟨b, off, e, _⟩
      · exact h
      · cases e
    subst hd0
    have := hc rfl
    subst this
    refine wpList_append_own_none hgd s x 29 ho B 9 i0 1 Try.underlying29 hi v pre.length (ss pre) hs hown hx (h v wr (by rw [List.append_nil]; exact hown) hbel)
  · have hnews : ∀ j u, (ss d)[j]? = some u → wr.cell? (ad.add j) = some u := by
      rcases hd with hd | ⟨b, off, e, h2, h3⟩
      · subst hd; intro j u hu; simp [ss] at hu
      · cases e; exact strs_cells (.inr ⟨b, off, rfl, h2, h3⟩)
    refine wpList_append_own _ hgd s x 29 ho B 9 i0 _ 1 16 Try.underlying29 hi hz0 hz1 hz2 rfl (by decide) v pre.length (ss pre) hs hown ad d.length c (ss d) hx (by rw [ss_length]; omega) hnews (ss_one d) ?_ ?_ hB ?_
    · unfold maxLen; omega
    · omega
    · intro v' w' h1 h2 h3
      refine h v' w' ?_ (hbel.grown h2 hB (fun k hk => (hown.lt k hk).1))
      rw [ss_append, List.length_append]; exact h1
end Go.Proofs.Ytlgafmgohinkbaa
/- Names among others: what slices.Contains and the specification's look-up return. -/
namespace Go.Proofs.Ytlgafmgohinkbaa
open Go.RowKit
attribute [local go_sem ↓] Go.wp_at_zero Go.wp_at_succ

def hasS (l : List ByteArray) (x : ByteArray) : Bool := l.any fun y => y.toList == x.toList
theorem hasS_yes {l : List ByteArray} {x : ByteArray} {k : Nat} (hk : k < l.length) (h : (l[k].toList == x.toList) = true) : hasS l x = true := by
  unfold hasS
  rw [List.any_eq_true]
  exact ⟨l[k], List.getElem_mem hk, h⟩
theorem hasS_no {l : List ByteArray} {x : ByteArray} (h : ∀ j (h : j < l.length), (l[j].toList == x.toList) = false) : hasS l x = false := by
  unfold hasS
  rw [List.any_eq_false]
  intro y hy
  obtain ⟨i, hi, rfl⟩ := List.getElem_of_mem hy
  rw [h i hi]; simp
theorem beq_swap (a b : ByteArray) : (a.toList == b.toList) = (b.toList == a.toList) := by
  rw [Bool.eq_iff_iff]; simp only [beq_iff_eq]; exact ⟨Eq.symm, Eq.symm⟩
set_option maxRecDepth 100000 in
set_option maxHeartbeats 1000000 in
theorem index_any (ao : Option Addr) (l : List ByteArray) (cap : Nat) (x : ByteArray) (w : World) (hd : StrsAt w ao l) (hl : l.length ≤ 10000000) :
    Calls Try.prog 230 #[.slice ao l.length cap, .string x] w fun e w' => (∃ n : Int, e = .returned (.int .i64 n) ∧ decide (0 ≤ n) = hasS l x) ∧ w' = w := by
  have HD := Lib.hid hd; clear hd
  go_enter Try.func230, Try.ntmps230
  go_wp2
  go_loopw [5, 8] (fun _ i wr => ∃ k : Nat, k ≤ l.length ∧ i = .int .i64 k ∧ (∀ j (h : j < l.length), j < k → (l[j].toList == x.toList) = false) ∧ wr = w) (fun _ i _ => l.length - (intOf i).toNat)
  case atStart => exact ⟨0, Nat.zero_le _, rfl, fun j _ h => absurd h (Nat.not_lt_zero _), by trivial⟩
  case round =>
    obtain ⟨k, hk, rfl, ha, rfl⟩ := hrel
    have Ha := Lib.hid ha; clear ha
    by_cases hlt : k < l.length
    · obtain ⟨b, off, rfl, hb0, hc1⟩ := HD.out.at hlt
      have HY : Hid ((l[k].toList == x.toList) = true → hasS l x = true) := Lib.hid (fun h => hasS_yes hlt h)
      have HN : Hid ((l[k].toList == x.toList) = false → ∀ j (h : j < l.length), j < k + 1 → (l[j].toList == x.toList) = false) := Lib.hid (fun hn j h hj => by
        by_cases e : j = k
        · subst e; exact hn
        · exact Ha.out j h (by omega))
      generalize l[k] = A at *
      have hsw := beq_swap x A
      cases hq : (A.toList == x.toList)
      · rw [hq] at hsw
        have HN' := Lib.hid (HN.out hq)
        go_wp2
        go_roundw
        case rel => exact ⟨k + 1, by omega, by go_num, HN'.out, trivial⟩
        case measure => simp [intOf]; omega
      · rw [hq] at hsw
        have HY' := Lib.hid (HY.out hq)
        go_wp2
        go_ret
        exact ⟨⟨_, rfl, by rw [HY'.out]; exact decide_eq_true (by omega)⟩, rfl⟩
    · have HN' : Hid (hasS l x = false) := Lib.hid (hasS_no fun j h => Ha.out j h (by omega))
      go_wp2
      go_ret
      exact ⟨⟨_, rfl, by rw [HN'.out]; rfl⟩, rfl⟩
set_option maxHeartbeats 1000000 in
theorem contains_any (ao : Option Addr) (l : List ByteArray) (cap : Nat) (x : ByteArray) (w : World) (hd : StrsAt w ao l) (hl : l.length ≤ 10000000) :
    Calls Try.prog 197 #[.slice ao l.length cap, .string x] w fun e w' => e = .returned (.bool (hasS l x)) ∧ w' = w := by
  have HD := Lib.hid hd; clear hd
  go_enter Try.func197, Try.ntmps197
  go_wp2_with fail
  refine (index_any ao l cap x w HD.out hl).mono ?_
  rintro e w' ⟨⟨n, rfl, hn⟩, rfl⟩
  have HN := Lib.hid hn; clear hn
  by_cases h : 0 ≤ n
  · have HR : Hid (hasS l x = true) := Lib.hid (by rw [← HN.out]; exact decide_eq_true h)
    go_wp2
    go_ret
    exact ⟨ret_bool (by rw [HR.out]), rfl⟩
  · have HR : Hid (decide (0 ≤ n) = hasS l x) := HN
    go_wp2
    go_ret
    exact ⟨ret_bool HR.out, rfl⟩
set_option maxRecDepth 100000 in
set_option maxHeartbeats 1000000 in
theorem l04Has_any (ao : Option Addr) (l : List ByteArray) (cap : Nat) (x : ByteArray) (w : World) (hd : StrsAt w ao l) (hl : l.length ≤ 10000000) :
    Calls Try.prog 169 #[.slice ao l.length cap, .string x] w fun e w' => e = .returned (.bool (hasS l x)) ∧ w' = w := by
  have HD := Lib.hid hd; clear hd
  go_enter Try.func169, Try.ntmps169
  go_wp2
  go_loopw [5] (fun i wr => ∃ k : Nat, k ≤ l.length ∧ i = .int .i64 k ∧ (∀ j (h : j < l.length), j < k → (l[j].toList == x.toList) = false) ∧ wr = w) (fun i _ => l.length - (intOf i).toNat)
  case atStart => exact ⟨0, Nat.zero_le _, rfl, fun j _ h => absurd h (Nat.not_lt_zero _), by trivial⟩
  case round =>
    obtain ⟨k, hk, rfl, ha, rfl⟩ := hrel
    have Ha := Lib.hid ha; clear ha
    by_cases hlt : k < l.length
    · obtain ⟨b, off, rfl, hb0, hc1⟩ := HD.out.at hlt
      have HY : Hid ((l[k].toList == x.toList) = true → hasS l x = true) := Lib.hid (fun h => hasS_yes hlt h)
      have HN : Hid ((l[k].toList == x.toList) = false → ∀ j (h : j < l.length), j < k + 1 → (l[j].toList == x.toList) = false) := Lib.hid (fun hn j h hj => by
        by_cases e : j = k
        · subst e; exact hn
        · exact Ha.out j h (by omega))
      generalize l[k] = A at *
      cases hq : (A.toList == x.toList)
      · have HN' := Lib.hid (HN.out hq)
        go_wp2
        go_roundw
        case rel => exact ⟨k + 1, by omega, by go_num, HN'.out, trivial⟩
        case measure => simp [intOf]; omega
      · have HY' := Lib.hid (HY.out hq)
        go_wp2
        go_ret
        exact ⟨ret_bool (by rw [HY'.out]), rfl⟩
    · have HN' : Hid (hasS l x = false) := Lib.hid (hasS_no fun j h => Ha.out j h (by omega))
      go_wp2
      go_ret
      exact ⟨ret_bool (by rw [HN'.out]), rfl⟩
/-- those of the names that are not among the others -/
def besideV (l m : List ByteArray) : List ByteArray := l.filter fun x => !(hasS m x)
theorem besideV_succ (l m : List ByteArray) (k : Nat) (h : k < l.length) : besideV (l.take (k + 1)) m = besideV (l.take k) m ++ (if hasS m l[k] then [] else [l[k]]) := by
  unfold besideV
  rw [List.take_succ_eq_append_getElem h, List.filter_append]
  congr 1
  cases hq : hasS m l[k] <;> simp [hq]
theorem besideV_len (l m : List ByteArray) (k : Nat) : (besideV (l.take k) m).length ≤ l.length := by
  unfold besideV
  exact Nat.le_trans (List.length_filter_le _ _) (by rw [List.length_take]; omega)
set_option maxRecDepth 100000 in
set_option maxHeartbeats 2000000 in
theorem beside_any (ao bo : Option Addr) (l m : List ByteArray) (ca cb : Nat) (w : World) (hd : StrsAt w ao l) (he : StrsAt w bo m) (hl : l.length ≤ 1048576) (hm : m.length ≤ 10000000) :
    Calls Try.prog 196 #[.slice ao l.length ca, .slice bo m.length cb] w (GivesV w (besideV l m)) := by
  have HD := Lib.hid hd; have HE := Lib.hid he; clear hd he
  go_enter Try.func196, Try.ntmps196
  go_wp2_with fail
  go_loopw [5, 10] (fun v i wr => ∃ k : Nat, k ≤ l.length ∧ i = .int .i64 k ∧ wr.ownsRow w.heap.size 9 1 v (besideV (l.take k) m).length (ss (besideV (l.take k) m)) ∧ Below w.heap.size w wr) (fun _ i _ => l.length - (intOf i).toNat)
  case atStart => exact ⟨0, Nat.zero_le _, rfl, ⟨rfl, .inl ⟨rfl, rfl⟩⟩, Below.refl _ _⟩
  case round =>
    obtain ⟨k, hk, rfl, hown, hbel⟩ := hrel
    have hsz := hbel.size
    by_cases hlt : k < l.length
    · obtain ⟨p, off, rfl, hp0, hd1⟩ := HD.out.at hlt
      have c1 := (hbel.cell (p := ⟨p, off + k, none⟩) hp0).trans hd1
      have HN := Lib.hid (besideV_succ l m k hlt)
      have HL : Hid ((besideV (l.take k) m).length ≤ 1000000000) := Lib.hid (by have := besideV_len l m k; omega)
      have HE' := Lib.hid (HE.out.below hbel)
      have g1 : (0 : Int) ≤ (k : Int) := by omega
      have g2 : (k : Int) < (l.length : Int) := by omega
      clear hd1
      generalize l[k] = x at *
      generalize besideV (l.take k) m = pre at *
      cases hq : hasS m x
      · rw [hq] at HN
        go_wp2_with (first
          | (go_at_call 197; refine (contains_any bo m cb x wr HE'.out hm).mono ?_; rintro e w3 ⟨rfl, rfl⟩; rw [hq])
          | (at_builtin; refine append_str w.heap.size rfl _ _ rfl _ pre rfl hown _ rfl HL.out hsz hbel ?_; intro v4 w4 hown4 hbel4 hsz4 _ _)
          | (fail "none"))
        go_roundw
        case rel => exact ⟨k + 1, by omega, by go_num, by rw [HN.out]; exact hown4, hbel4⟩
        case measure => simp [intOf]; omega
      · rw [hq] at HN
        go_wp2_with (first
          | (go_at_call 197; refine (contains_any bo m cb x wr HE'.out hm).mono ?_; rintro e w3 ⟨rfl, rfl⟩; rw [hq])
          | (fail "none"))
        go_roundw
        case rel => exact ⟨k + 1, by omega, by go_num, by rw [HN.out]; simpa using hown, hbel⟩
        case measure => simp [intOf]; omega
    · obtain rfl : k = l.length := by omega
      have HO : Hid (wr.ownsRow w.heap.size 9 1 u5 (besideV l m).length (ss (besideV l m))) := Lib.hid (by have h := hown; rw [List.take_length] at h; exact h)
      clear hown
      go_wp2
      go_ret
      exact ⟨⟨_, rfl, HO.out⟩, hbel⟩
end Go.Proofs.Ytlgafmgohinkbaa
/- Blocks of two and of four cells. -/
namespace Go.Proofs.Ytlgafmgohinkbaa
open Go.RowKit

def Two (w : World) (g : Nat) (T : TypeId) (a b : Value) : Prop := w.heap[g]? = some (.cells #[a, b] T (0, 0))
theorem Two.cells {w : World} {g : Nat} {T : TypeId} {a b : Value} (h : Two w g T a b) : (w.cell? ⟨g, 0, none⟩ = some a ∧ w.cell? ⟨g, 1, none⟩ = some b) ∧ (w.frozen? ⟨g, 0, none⟩ = false ∧ w.frozen? ⟨g, 1, none⟩ = false) := by
  unfold Two at h
  refine ⟨⟨?_, ?_⟩, ?_, ?_⟩
  · rw [cell_of_row w g _ _ T (0, 0) h]; rfl
  · rw [cell_of_row w g _ _ T (0, 0) h]; rfl
  · simp [World.frozen?, h]
  · simp [World.frozen?, h]
theorem Two.lt {w : World} {g : Nat} {T : TypeId} {a b : Value} (h : Two w g T a b) : g < w.heap.size := (Array.getElem?_eq_some_iff.1 h).1
theorem Two.below {w w' : World} {g : Nat} {T : TypeId} {a b : Value} (h : Two w g T a b) (hb : Below w.heap.size w w') : Two w' g T a b := (hb.block g h.lt).trans h
theorem Two.set0 {w : World} {g : Nat} {T : TypeId} {a b : Value} (h : Two w g T a b) (v : Value) : Two (w.setCell ⟨g, 0, none⟩ v) g T v b := heap_set v h
theorem Two.set1 {w : World} {g : Nat} {T : TypeId} {a b : Value} (h : Two w g T a b) (v : Value) : Two (w.setCell ⟨g, 1, none⟩ v) g T a v := heap_set v h
theorem Two.far {w : World} {g R j : Nat} {T : TypeId} {a b : Value} (h : Two w g T a b) (hne : g ≠ R) (v : Value) : Two (w.setCell ⟨R, j, none⟩ v) g T a b := (Below.heap_setCell _ _ _ _ hne).trans h
theorem twoNew (w : World) (T : TypeId) (a b : Value) : Two (w.alloc (.cells #[a, b] T)) w.heap.size T a b := heap_alloc_new w _
theorem Two.alloc {w : World} {g : Nat} {T : TypeId} {a b : Value} (h : Two w g T a b) (o : Obj) : Two (w.alloc o) g T a b := (heap_alloc_old w o h.lt).trans h
def Quad (w : World) (g : Nat) (T : TypeId) (a b c d : Value) : Prop := w.heap[g]? = some (.cells #[a, b, c, d] T (0, 0))
theorem Quad.cells {w : World} {g : Nat} {T : TypeId} {a b c d : Value} (h : Quad w g T a b c d) : w.cell? ⟨g, 0, none⟩ = some a ∧ w.cell? ⟨g, 1, none⟩ = some b ∧ w.cell? ⟨g, 2, none⟩ = some c ∧ w.cell? ⟨g, 3, none⟩ = some d := by
  unfold Quad at h
  refine ⟨?_, ?_, ?_, ?_⟩ <;> (rw [cell_of_row w g _ _ T (0, 0) h]; rfl)
theorem Quad.soft {w : World} {g : Nat} {T : TypeId} {a b c d : Value} (h : Quad w g T a b c d) : w.frozen? ⟨g, 0, none⟩ = false ∧ w.frozen? ⟨g, 1, none⟩ = false ∧ w.frozen? ⟨g, 2, none⟩ = false ∧ w.frozen? ⟨g, 3, none⟩ = false := by
  unfold Quad at h
  refine ⟨?_, ?_, ?_, ?_⟩ <;> simp [World.frozen?, h]
theorem Quad.lt {w : World} {g : Nat} {T : TypeId} {a b c d : Value} (h : Quad w g T a b c d) : g < w.heap.size := (Array.getElem?_eq_some_iff.1 h).1
theorem Quad.below {w w' : World} {g : Nat} {T : TypeId} {a b c d : Value} (h : Quad w g T a b c d) (hb : Below w.heap.size w w') : Quad w' g T a b c d := (hb.block g h.lt).trans h
theorem Quad.set0 {w : World} {g : Nat} {T : TypeId} {a b c d : Value} (h : Quad w g T a b c d) (v : Value) : Quad (w.setCell ⟨g, 0, none⟩ v) g T v b c d := heap_set v h
theorem Quad.set1 {w : World} {g : Nat} {T : TypeId} {a b c d : Value} (h : Quad w g T a b c d) (v : Value) : Quad (w.setCell ⟨g, 1, none⟩ v) g T a v c d := heap_set v h
theorem Quad.set2 {w : World} {g : Nat} {T : TypeId} {a b c d : Value} (h : Quad w g T a b c d) (v : Value) : Quad (w.setCell ⟨g, 2, none⟩ v) g T a b v d := heap_set v h
theorem Quad.set3 {w : World} {g : Nat} {T : TypeId} {a b c d : Value} (h : Quad w g T a b c d) (v : Value) : Quad (w.setCell ⟨g, 3, none⟩ v) g T a b c v := heap_set v h
theorem Quad.far {w : World} {g R j : Nat} {T : TypeId} {a b c d : Value} (h : Quad w g T a b c d) (hne : g ≠ R) (v : Value) : Quad (w.setCell ⟨R, j, none⟩ v) g T a b c d := (Below.heap_setCell _ _ _ _ hne).trans h
theorem Quad.alloc {w : World} {g : Nat} {T : TypeId} {a b c d : Value} (h : Quad w g T a b c d) (o : Obj) : Quad (w.alloc o) g T a b c d := (heap_alloc_old w o h.lt).trans h
theorem quadNew (w : World) (T : TypeId) (a b c d : Value) : Quad (w.alloc (.cells #[a, b, c, d] T)) w.heap.size T a b c d := heap_alloc_new w _
end Go.Proofs.Ytlgafmgohinkbaa
/- Which classes are right. -/
namespace Go.Proofs.Ytlgafmgohinkbaa
open Go.RowKit

theorem calls_any' {P : Program} {f : Nat} {args : Array Value} {w : World} {Q : Ending → World → Prop} (R : World → Prop) (h : R w) (k : ∀ W, R W → Calls P f args W Q) : Calls P f args w Q := k w h
def clsT : ByteArray := ⟨#[99, 108, 97, 115, 115]⟩
theorem hasS_append (a b : List ByteArray) (x : ByteArray) : hasS (a ++ b) x = (hasS a x || hasS b x) := by unfold hasS; rw [List.any_append]
theorem besideV_lt (l m : List ByteArray) : decide ((besideV l m).length < l.length) = !(l.all fun x => !(hasS m x)) := by
  rw [Bool.eq_iff_iff, decide_eq_true_eq, Bool.not_eq_true', List.all_eq_false]
  unfold besideV
  rw [List.length_filter_lt_length_iff_exists]
theorem besideV_zero (l m : List ByteArray) : decide ((besideV l m).length = 0) = l.all fun x => hasS m x := by
  rw [Bool.eq_iff_iff, decide_eq_true_eq, List.all_eq_true, List.length_eq_zero_iff]
  unfold besideV
  rw [List.filter_eq_nil_iff]
  simp
noncomputable def classB (c : ClassV) : Bool := nmL c.nm && (names10 c.must && (names10 c.may && (names10 c.one && ((c.must.all fun x => !(hasS c.may x)) && (!(hasS (c.must ++ c.may) clsT) && c.one.all fun x => hasS (c.must ++ c.may) x)))))
noncomputable def schemaB (l : List ClassV) : Bool := decide (l.length ≤ 6) && (l.all classB && incB clsLt l)
theorem schemaB_bad {l : List ClassV} {k : Nat} (h : k < l.length) (hb : classB l[k] = false) : schemaB l = false := by unfold schemaB; rw [all_bad classB l k h hb]; simp
theorem schemaB_inc {l : List ClassV} {m : Nat} (h : m + 1 < l.length) (hb : clsLt l[m] l[m + 1] = false) : schemaB l = false := by unfold schemaB; rw [incB_no h hb]; simp
theorem schemaB_all {l : List ClassV} (h : l.all classB = true) (hi : ∀ j (h : j + 1 < l.length), clsLt l[j] l[j + 1] = true) : schemaB l = decide (l.length ≤ 6) := by
  unfold schemaB; rw [h, incB_yes hi]; simp
end Go.Proofs.Ytlgafmgohinkbaa
/- slices.Concat of two rows of texts. -/
namespace Go.Proofs.Ytlgafmgohinkbaa
open Go.RowKit
attribute [local go_sem ↓] Go.wp_at_zero Go.wp_at_succ

theorem own_grown (w : World) (n : Nat) (hn : n ≤ 10000000) : (w.alloc (.cells (Builtin.zeroCells #[.string ⟨#[]⟩] n ++ Builtin.zeroCells #[.string ⟨#[]⟩] (grownCap w n 0 9 - n)) 9)).drew.ownsRow w.heap.size 9 1 (.slice (some ⟨w.heap.size, 0, none⟩) 0 (grownCap w n 0 9)) 0 (ss []) := by
  have h1 := grownCap_ge w n 0 9
  have h2 := grownCap_le_maxLen w n 0 9 (by unfold maxLen; omega)
  refine ⟨rfl, .inr ⟨_, _, _, rfl, Nat.le_refl _, heap_alloc_new w _, Nat.zero_le _, h2, ?_, by simp [ss]⟩⟩
  simp [Builtin.zeroCells]
  omega
set_option maxRecDepth 100000 in
set_option maxHeartbeats 1000000 in
theorem grow_any (n : Nat) (w : World) (hn : n ≤ 10000000) : Calls Try.prog 243 #[.slice none 0 0, .int .i64 (n : Int)] w (GivesV w []) := by
  by_cases h0 : n = 0
  · subst h0
    go_enter Try.func243, Try.ntmps243
    go_wp2
    go_ret
    exact ⟨⟨_, rfl, own_none _ _⟩, Below.refl _ _⟩
  · have g0 : 0 < (n : Int) := by omega
    have g1 : ¬ (n : Int) < 0 := by omega
    have hby : Try.t9.bytes = 16 := rfl
    have c1 : ¬ 281474976710656 < (n : Int) * (Try.t9.bytes : Int) := by rw [hby]; omega
    have c2 : ¬ 281474976710656 < Builtin.nextslicecap n 0 * Try.t9.bytes := by rw [hby, nextslicecap_zero (by omega)]; omega
    clear hby
    have HO := Lib.hid (own_grown w n hn)
    have HB : Hid (∀ C : Array Value, Below w.heap.size w (w.alloc (.cells C 9)).drew) := Lib.hid (fun C => (more (Below.refl _ _) _).drew)
    go_enter Try.func243, Try.ntmps243
    go_wp2
    go_ret
    exact ⟨⟨_, rfl, HO.out⟩, HB.out _⟩
/-- a slice of slices of texts -/
structure Part where
  ao : Option Addr
  cap : Nat
  txt : List ByteArray
def PartsV (w : World) (b off : Nat) (ps : List Part) : Prop :=
  b < w.heap.size ∧ ∀ i (h : i < ps.length), w.cell? ⟨b, off + i, none⟩ = some (.slice ps[i].ao ps[i].txt.length ps[i].cap) ∧ StrsAt w ps[i].ao ps[i].txt ∧ (ps[i].ao = none → ps[i].cap = 0) ∧ ps[i].txt.length ≤ 1048576
theorem PartsV.below {w w' : World} {b off : Nat} {ps : List Part} (h : PartsV w b off ps) (hb : Below w.heap.size w w') : PartsV w' b off ps :=
  ⟨Nat.lt_of_lt_of_le h.1 hb.size, fun i hi => ⟨(hb.cell (p := ⟨b, _, none⟩) h.1).trans (h.2 i hi).1, (h.2 i hi).2.1.below hb, (h.2 i hi).2.2⟩⟩
def flatV (ps : List Part) : List ByteArray := ps.flatMap (·.txt)
theorem flatV_succ (ps : List Part) (k : Nat) (h : k < ps.length) : flatV (ps.take (k + 1)) = flatV (ps.take k) ++ ps[k].txt := by
  unfold flatV; rw [List.take_succ_eq_append_getElem h, List.flatMap_append]; simp
theorem flatV_len (ps : List Part) (h : ∀ p ∈ ps, p.txt.length ≤ 1048576) : (flatV ps).length ≤ ps.length * 1048576 := by
  induction ps with
  | nil => simp [flatV]
  | cons p ps ih =>
    have h1 := ih (fun x hx => h x (List.mem_cons_of_mem _ hx))
    have h2 := h p (List.mem_cons_self ..)
    have e : flatV (p :: ps) = p.txt ++ flatV ps := by unfold flatV; simp
    rw [e, List.length_append, List.length_cons, Nat.add_mul]; omega
theorem PartsV.len {w : World} {b off : Nat} {ps : List Part} (h : PartsV w b off ps) (hm : ps.length ≤ 4) (k : Nat) : (flatV (ps.take k)).length ≤ 5000000 := by
  have := flatV_len (ps.take k) (fun p hp => by
    obtain ⟨i, hi, rfl⟩ := List.getElem_of_mem (List.mem_of_mem_take hp)
    exact (h.2 i hi).2.2.2)
  have h2 : (ps.take k).length ≤ 4 := by rw [List.length_take]; omega
  omega
set_option maxRecDepth 100000 in
set_option maxHeartbeats 1000000 in
theorem concatV_any (b off cap : Nat) (ps : List Part) (w : World) (hp : PartsV w b off ps) (hm : ps.length ≤ 4) :
    Calls Try.prog 231 #[.slice (some ⟨b, off, none⟩) ps.length cap] w (GivesV w (flatV ps)) := by
  have HP := Lib.hid hp
  have HL : Hid (∀ k, (flatV (ps.take k)).length ≤ 5000000) := Lib.hid (fun k => hp.len hm k)
  clear hp
  go_enter Try.func231, Try.ntmps231
  go_wp2_with fail
  go_loopw [3, 11] (fun t i wr => ∃ k : Nat, k ≤ ps.length ∧ i = .int .i64 k ∧ t = .int .i64 ((flatV (ps.take k)).length : Nat) ∧ wr = w) (fun _ i _ => ps.length - (intOf i).toNat)
  case atStart => exact ⟨0, Nat.zero_le _, rfl, rfl, rfl⟩
  case round =>
    obtain ⟨k, hk, rfl, rfl, hw0⟩ := hrel
    have hw1 := hw0.symm
    clear hw0
    subst hw1
    by_cases hlt : k < ps.length
    · obtain ⟨hc, _, _, hz⟩ := HP.out.2 k hlt
      have HS : Hid ((flatV (ps.take (k + 1))).length = (flatV (ps.take k)).length + ps[k].txt.length) := Lib.hid (by rw [flatV_succ ps k hlt, List.length_append])
      have hq0 := HL.out k
      generalize ps[k] = p at *
      generalize hq : (flatV (ps.take k)).length = q at *
      clear hq
      have g1 : ¬ (q : Int) + (p.txt.length : Int) < 0 := by omega
      go_wp2
      go_roundw
      case rel => exact ⟨k + 1, by omega, by go_num, by rw [HS.out]; go_num, by trivial⟩
      case measure => simp [intOf]; omega
    · have e : ps.take k = ps := List.take_of_length_le (by omega)
      have hq0 := HL.out k
      rw [e] at hq0 ⊢
      clear e
      generalize hq : (flatV ps).length = q at *
      have Hq := Lib.hid hq; clear hq
      go_wp2_with fail
      refine (grow_any q _ (by omega)).mono ?_
      rintro e w1 ⟨⟨v, rfl, hown⟩, hb⟩
      have HO := Lib.hid hown; have HB := Lib.hid hb; clear hown hb
      go_wp2_with fail
      go_loopw [6, 27] (fun v i wr => ∃ j : Nat, j ≤ ps.length ∧ i = .int .i64 j ∧ wr.ownsRow w.heap.size 9 1 v (flatV (ps.take j)).length (ss (flatV (ps.take j))) ∧ Below w.heap.size w wr) (fun _ i _ => ps.length - (intOf i).toNat)
      case atStart => exact ⟨0, Nat.zero_le _, rfl, HO.out, HB.out⟩
      case round =>
        clear HO HB
        obtain ⟨j, hj, rfl, hown, hbel⟩ := hrel
        have hsz := hbel.size
        by_cases hjl : j < ps.length
        · obtain ⟨hc, hs, hn, hz⟩ := (HP.out.below hbel).2 j hjl
          have HS : Hid (flatV (ps.take (j + 1)) = flatV (ps.take j) ++ ps[j].txt) := Lib.hid (flatV_succ ps j hjl)
          have hq1 : (flatV (ps.take j)).length ≤ 5000000 := HL.out j
          have HSt := Lib.hid hs; clear hs
          generalize ps[j] = p at *
          generalize flatV (ps.take j) = pre at *
          go_wp2_with (first
            | (at_builtin; refine append_strs w.heap.size rfl _ _ rfl _ pre rfl hown p.ao p.txt p.cap _ rfl rfl HSt.out hn (by omega) hsz hbel ?_; intro v4 w4 hown4 hbel4)
            | (fail "none"))
          go_roundw
          case rel => exact ⟨j + 1, by omega, by go_num, by rw [HS.out]; exact hown4, hbel4⟩
          case measure => simp [intOf]; omega
        · have e : ps.take j = ps := List.take_of_length_le (by omega)
          rw [e] at hown
          have HO := Lib.hid hown
          clear e hown
          go_wp2
          go_ret
          exact ⟨⟨_, rfl, HO.out⟩, hbel⟩
end Go.Proofs.Ytlgafmgohinkbaa
/- SchemaRight: what the program returns. -/
namespace Go.Proofs.Ytlgafmgohinkbaa
open Go.RowKit
attribute [local go_sem ↓] Go.wp_at_zero Go.wp_at_succ

theorem own_strs {w : World} {B n cap : Nat} {ao : Option Addr} {d : List ByteArray} (h : w.ownsRow B 9 1 (.slice ao n cap) d.length (ss d)) : StrsAt w ao d ∧ n = d.length := by
  by_cases h0 : d.length = 0
  · refine ⟨.inl (List.length_eq_zero_iff.1 h0), ?_⟩
    obtain ⟨_, ⟨e, _⟩ | ⟨g, cp, cur, e, _⟩⟩ := h
    · injection e with _ e _; omega
    · injection e with _ e _
  · obtain ⟨g, cp, hv, _, hlt⟩ := h.form (by omega)
    injection hv with e1 e2 e3
    subst e1
    refine ⟨.inr ⟨g, 0, rfl, hlt, fun i hi => ?_⟩, e2⟩
    have := h.cells (g := g) rfl i (.string d[i]) (by unfold ss; simp [hi])
    rw [add_plain] at this
    rw [Nat.zero_add]; exact this
theorem size_up (w : World) (o : Obj) : (w.alloc o).heap.size = w.heap.size + 1 := by simp
theorem own_slv {w : World} {B : Nat} {v : Value} {d : List ByteArray} (h : w.ownsRow B 9 1 v d.length (ss d)) : ∃ ao cap, v = .slice ao d.length cap ∧ StrsAt w ao d := by
  have hs : ∃ ao n cap, v = .slice ao n cap := by
    obtain ⟨_, ⟨e, _⟩ | ⟨g, cp, cur, e, _⟩⟩ := h
    · exact ⟨_, _, _, e⟩
    · exact ⟨_, _, _, e⟩
  obtain ⟨ao, n, cap, rfl⟩ := hs
  obtain ⟨h1, rfl⟩ := own_strs h
  exact ⟨ao, cap, rfl, h1⟩
set_option maxRecDepth 100000 in
set_option maxHeartbeats 2000000 in
theorem permitted_any (c : ClassV) (v1 v2 v3 : Value) (w : World) (h1 : SlV w v1 c.must) (h2 : SlV w v2 c.may) (h3 : IsSl v3) (f1 : FitsV c.must) (f2 : FitsV c.may) :
    Calls Try.prog 198 #[.agg #[.string c.nm, v1, v2, v3]] w (GivesV w (c.must ++ c.may)) := by
  obtain ⟨o1, k1, rfl, s1⟩ := h1
  obtain ⟨o2, k2, rfl, s2⟩ := h2
  obtain ⟨o3, n3, k3, rfl⟩ := h3
  have S1 := Lib.hid s1; have S2 := Lib.hid s2; have F1 := Lib.hid f1; have F2 := Lib.hid f2
  clear s1 s2 f1 f2
  go_enter Try.func198, Try.ntmps198
  go_wp2_with fail
  refine calls_any' (fun W => Below w.heap.size w W ∧ PartsV W (w.heap.size + 1) 0 [⟨o1, k1, c.must⟩, ⟨o2, k2, c.may⟩]) ⟨more (more (Below.refl _ _) _) _, ?_⟩ ?_
  · have hb := more (more (Below.refl w.heap.size w) (Obj.cells #[Value.string c.nm, Value.slice o1 c.must.length k1, Value.slice o2 c.may.length k2, Value.slice o3 n3 k3] 63)) (Obj.cells #[Value.slice o1 c.must.length k1, Value.slice o2 c.may.length k2] 29)
    have ht := twoNew (w.alloc (Obj.cells #[Value.string c.nm, Value.slice o1 c.must.length k1, Value.slice o2 c.may.length k2, Value.slice o3 n3 k3] 63)) 29 (.slice o1 c.must.length k1) (.slice o2 c.may.length k2)
    rw [size_up] at ht
    refine ⟨ht.lt, fun i hi => ?_⟩
    match i, hi with
    | 0, _ => exact ⟨ht.cells.1.1, S1.out.1.below hb, S1.out.2.2, F1.out.1⟩
    | 1, _ => exact ⟨ht.cells.1.2, S2.out.1.below hb, S2.out.2.2, F2.out.1⟩
  rintro W ⟨b1, hp⟩
  refine (concatV_any (w.heap.size + 1) 0 2 [⟨o1, k1, c.must⟩, ⟨o2, k2, c.may⟩] W hp (by simp)).mono ?_
  have e : flatV [⟨o1, k1, c.must⟩, ⟨o2, k2, c.may⟩] = c.must ++ c.may := by simp [flatV]
  rw [e]
  rintro e w2 ⟨⟨v, rfl, hown⟩, hb2⟩
  have HO := Lib.hid (own_mono hown b1.size); have HB := Lib.hid (b1.trans (hb2.mono b1.size))
  clear hown hb2 hp e
  go_wp2
  go_ret
  exact ⟨⟨_, rfl, HO.out⟩, HB.out⟩
set_option maxRecDepth 100000 in
set_option maxHeartbeats 2000000 in
theorem classRight_any (c : ClassV) (v1 v2 v3 : Value) (w : World) (h1 : SlV w v1 c.must) (h2 : SlV w v2 c.may) (h3 : SlV w v3 c.one) (f : FitsC1 c) :
    Calls Try.prog 157 #[.agg #[.string c.nm, v1, v2, v3]] w fun e w' => e = .returned (.bool (classB c)) ∧ Below w.heap.size w w' := by
  have HE : Hid (classB c = (nmL c.nm && (names10 c.must && (names10 c.may && (names10 c.one && ((c.must.all fun x => !(hasS c.may x)) && (!(hasS (c.must ++ c.may) clsT) && c.one.all fun x => hasS (c.must ++ c.may) x))))))) := Lib.hid rfl
  have hn : c.nm.size ≤ maxLen := by have := f.nm; unfold maxLen; omega
  have C1 : Hid (∀ W : World, Below w.heap.size w W → Calls Try.prog 195 #[v1] W fun e w' => e = .returned (.bool (names10 c.must)) ∧ Below W.heap.size W w') := Lib.hid (fun W b => classNames_any w v1 c.must W b h1 f.must)
  have C2 : Hid (∀ W : World, Below w.heap.size w W → Calls Try.prog 195 #[v2] W fun e w' => e = .returned (.bool (names10 c.may)) ∧ Below W.heap.size W w') := Lib.hid (fun W b => classNames_any w v2 c.may W b h2 f.may)
  have C3 : Hid (∀ W : World, Below w.heap.size w W → Calls Try.prog 195 #[v3] W fun e w' => e = .returned (.bool (names10 c.one)) ∧ Below W.heap.size W w') := Lib.hid (fun W b => classNames_any w v3 c.one W b h3 f.one)
  have C4 : Hid (∀ W : World, Below w.heap.size w W → Calls Try.prog 196 #[v1, v2] W (GivesV W (besideV c.must c.may))) := Lib.hid (fun W b => by obtain ⟨o1, k1, rfl, s1⟩ := h1; obtain ⟨o2, k2, rfl, s2⟩ := h2; exact beside_any o1 o2 c.must c.may k1 k2 W (s1.1.below b) (s2.1.below b) f.must.1 (by have := f.may.1; omega))
  have C5 : Hid (∀ W : World, Below w.heap.size w W → Calls Try.prog 198 #[.agg #[.string c.nm, v1, v2, v3]] W (GivesV W (c.must ++ c.may))) := Lib.hid (fun W b => permitted_any c v1 v2 v3 W (h1.below b) (h2.below b) h3.sl f.must f.may)
  have C6 : Hid (∀ (W : World) (ao : Option Addr) (cap : Nat), Below w.heap.size w W → StrsAt W ao (c.must ++ c.may) → Calls Try.prog 196 #[v3, .slice ao (c.must ++ c.may).length cap] W (GivesV W (besideV c.one (c.must ++ c.may)))) := Lib.hid (fun W ao cap b s => by obtain ⟨o3, k3, rfl, s3⟩ := h3; exact beside_any o3 ao c.one (c.must ++ c.may) k3 cap W (s3.1.below b) s f.one.1 (by have := f.may.1; have := f.must.1; rw [List.length_append]; omega))
  obtain ⟨o1, k1, rfl, _⟩ := h1
  obtain ⟨o2, k2, rfl, _⟩ := h2
  obtain ⟨o3, k3, rfl, _⟩ := h3
  have HPl : Hid ((c.must ++ c.may).length ≤ 10000000) := Lib.hid (by have := f.may.1; have := f.must.1; rw [List.length_append]; omega)
  have HL1 : Hid ((besideV c.must c.may).length ≤ 1048576) := Lib.hid (by have := f.must.1; have h := besideV_len c.must c.may c.must.length; rw [List.take_length] at h; omega)
  have HL2 : Hid ((besideV c.one (c.must ++ c.may)).length ≤ 1048576) := Lib.hid (by have := f.one.1; have h := besideV_len c.one (c.must ++ c.may) c.one.length; rw [List.take_length] at h; omega)
  have HL3 : Hid (c.must.length ≤ 1048576) := Lib.hid f.must.1
  clear f
  go_enter Try.func157, Try.ntmps157
  go_wp2_with fail
  refine calls_any' (fun W => Below w.heap.size w W ∧ Quad W w.heap.size 63 (.string c.nm) (.slice o1 c.must.length k1) (.slice o2 c.may.length k2) (.slice o3 c.one.length k3)) ⟨more (Below.refl _ _) _, quadNew _ _ _ _ _ _⟩ ?_
  rintro W1 ⟨b1, t1⟩
  have T1 := Lib.hid t1; clear t1
  refine (NameRight_any _ W1 hn).mono ?_
  rintro e w' ⟨rfl, rfl⟩
  cases h0 : nmL c.nm
  · rw [h0] at HE
    go_wp2
    go_ret
    exact ⟨ret_bool (by rw [HE.out]; simp), b1⟩
  rw [h0] at HE
  obtain ⟨q0, q1, q2, q3⟩ := T1.out.cells
  go_wp2_with fail
  refine (C1.out _ b1).mono ?_
  rintro e w2 ⟨rfl, hb⟩
  have T2 := Lib.hid (T1.out.below hb); have b2 := b1.trans (hb.mono b1.size)
  clear hb q0 q1 q2 q3 T1 b1 C1
  cases h1 : names10 c.must
  · rw [h1] at HE
    go_wp2
    go_ret
    exact ⟨ret_bool (by rw [HE.out]; simp), b2⟩
  rw [h1] at HE
  obtain ⟨q0, q1, q2, q3⟩ := T2.out.cells
  go_wp2_with fail
  refine (C2.out _ b2).mono ?_
  rintro e w3 ⟨rfl, hb⟩
  have T3 := Lib.hid (T2.out.below hb); have b3 := b2.trans (hb.mono b2.size)
  clear hb q0 q1 q2 q3 T2 b2 C2
  cases h2 : names10 c.may
  · rw [h2] at HE
    go_wp2
    go_ret
    exact ⟨ret_bool (by rw [HE.out]; simp), b3⟩
  rw [h2] at HE
  obtain ⟨q0, q1, q2, q3⟩ := T3.out.cells
  go_wp2_with fail
  refine (C3.out _ b3).mono ?_
  rintro e w4 ⟨rfl, hb⟩
  have T4 := Lib.hid (T3.out.below hb); have b4 := b3.trans (hb.mono b3.size)
  clear hb q0 q1 q2 q3 T3 b3 C3
  cases h3 : names10 c.one
  · rw [h3] at HE
    go_wp2
    go_ret
    exact ⟨ret_bool (by rw [HE.out]; simp), b4⟩
  rw [h3] at HE
  have HM : Hid (decide ((besideV c.must c.may).length < c.must.length) = !(c.must.all fun x => !(hasS c.may x))) := Lib.hid (besideV_lt _ _)
  have HO : Hid (decide ((besideV c.one (c.must ++ c.may)).length = 0) = c.one.all fun x => hasS (c.must ++ c.may) x) := Lib.hid (besideV_zero _ _)
  have SK : Hid (∀ Z' : World, Below w4.heap.size w4 Z' → Z'.cell? ⟨w.heap.size, 0, none⟩ = some (.string c.nm) ∧ Z'.cell? ⟨w.heap.size, 1, none⟩ = some (.slice o1 c.must.length k1) ∧ Z'.cell? ⟨w.heap.size, 2, none⟩ = some (.slice o2 c.may.length k2) ∧ Z'.cell? ⟨w.heap.size, 3, none⟩ = some (.slice o3 c.one.length k3)) := Lib.hid (fun Z' h => (T4.out.below h).cells)
  have D4 : Hid (∀ W : World, Below w4.heap.size w4 W → Calls Try.prog 196 #[.slice o1 c.must.length k1, .slice o2 c.may.length k2] W fun e w' => (∃ ao cap, e = .returned (.slice ao (besideV c.must c.may).length cap)) ∧ Below w4.heap.size w4 w') := Lib.hid (fun W h => by
    refine (C4.out W (b4.trans (h.mono b4.size))).mono ?_
    rintro e w' ⟨⟨v, rfl, o⟩, b⟩
    obtain ⟨ao, cap, rfl, _⟩ := own_slv o
    exact ⟨⟨ao, cap, rfl⟩, h.trans (b.mono h.size)⟩)
  have D5 : Hid (∀ W : World, Below w4.heap.size w4 W → Calls Try.prog 198 #[.agg #[.string c.nm, .slice o1 c.must.length k1, .slice o2 c.may.length k2, .slice o3 c.one.length k3]] W fun e w' => (∃ ao cap, e = .returned (.slice ao (c.must ++ c.may).length cap) ∧ StrsAt w' ao (c.must ++ c.may)) ∧ Below w4.heap.size w4 w') := Lib.hid (fun W h => by
    refine (C5.out W (b4.trans (h.mono b4.size))).mono ?_
    rintro e w' ⟨⟨v, rfl, o⟩, b⟩
    obtain ⟨ao, cap, rfl, s⟩ := own_slv o
    exact ⟨⟨ao, cap, rfl, s⟩, h.trans (b.mono h.size)⟩)
  have D6 : Hid (∀ (W : World) (ao : Option Addr) (cap : Nat), Below w4.heap.size w4 W → StrsAt W ao (c.must ++ c.may) → Calls Try.prog 197 #[.slice ao (c.must ++ c.may).length cap, .string ⟨#[99, 108, 97, 115, 115]⟩] W fun e w' => e = .returned (.bool (hasS (c.must ++ c.may) clsT)) ∧ Below w4.heap.size w4 w') := Lib.hid (fun W ao cap h s => by
    refine (contains_any ao (c.must ++ c.may) cap ⟨#[99, 108, 97, 115, 115]⟩ W s HPl.out).mono ?_
    rintro e w' ⟨rfl, rfl⟩
    exact ⟨rfl, h⟩)
  have D7 : Hid (∀ (W : World) (ao : Option Addr) (cap : Nat), Below w4.heap.size w4 W → StrsAt W ao (c.must ++ c.may) → Calls Try.prog 196 #[.slice o3 c.one.length k3, .slice ao (c.must ++ c.may).length cap] W fun e w' => (∃ ao cap, e = .returned (.slice ao (besideV c.one (c.must ++ c.may)).length cap)) ∧ Below w4.heap.size w4 w') := Lib.hid (fun W ao cap h s => by
    refine (C6.out W ao cap (b4.trans (h.mono b4.size)) s).mono ?_
    rintro e w' ⟨⟨v, rfl, o⟩, b⟩
    obtain ⟨ao, cap, rfl, _⟩ := own_slv o
    exact ⟨⟨ao, cap, rfl⟩, h.trans (b.mono h.size)⟩)
  have BD : Below w4.heap.size w4 w4.drew := (Below.refl _ _).drew
  have HB4 := Lib.hid b4
  clear b4 T4 C4 C5 C6
  have hn1 : ((besideV c.must c.may).length : Int) ≤ 1048576 := by have := HL1.out; omega
  have hn2 : ((besideV c.one (c.must ++ c.may)).length : Int) ≤ 1048576 := by have := HL2.out; omega
  have hm0 : (c.must.length : Int) ≤ 1048576 := by have := HL3.out; omega
  generalize besideV c.must c.may = X at *
  generalize besideV c.one (c.must ++ c.may) = Y at *
  generalize (c.must ++ c.may) = PP at *
  by_cases hx : X.length < c.must.length
  · have g1 : (X.length : Int) < (c.must.length : Int) := by omega
    have HF : Hid ((c.must.all fun x => !(hasS c.may x)) = false) := Lib.hid (by have := HM.out; rw [decide_eq_true hx] at this; simpa using this.symm)
    rw [HF.out] at HE
    go_wp2_with fail
    refine wp_region_held_drew (S := (fun Z' => Z'.cell? ⟨w.heap.size, 0, none⟩ = some (.string c.nm) ∧ Z'.cell? ⟨w.heap.size, 1, none⟩ = some (.slice o1 c.must.length k1) ∧ Z'.cell? ⟨w.heap.size, 2, none⟩ = some (.slice o2 c.may.length k2) ∧ Z'.cell? ⟨w.heap.size, 3, none⟩ = some (.slice o3 c.one.length k3))) (by kernel_rfl) ?_ (fun hHeld => ?_)
    · (try dsimp only)
      first | exact SK.out _ (by assumption) | exact SK.out _ BD
    refine wpAnyH_take (i := 0) (oi := { dst := some 25, op := Op.fieldAddr 63 (Operand.tmp 1) 1, type := 0, pos := "l05_schema.go:74", after := #[], guard := none }) (v := ?_) rfl (by kernel_rfl) (by kernel_rfl) (by kernel_rfl) (fun _ _ _ h => h) (Or.inl ⟨by rfl, ?_⟩) (by assumption) ?_
    rotate_left
    · intro w hSw; (try dsimp only at hSw); go_simp; (try with_reducible rfl)
    (try simp only [Act.put, List.setIfInBounds_toArray, List.set_cons_zero, List.set_cons_succ])
    refine wpAnyH_take (i := 1) (oi := { dst := some 26, op := Op.load 29 (Operand.tmp 25), type := 29, pos := "l05_schema.go:74", after := #[{ on := 0, ground := Ground.data }], guard := none }) (v := ?_) rfl (by kernel_rfl) (by kernel_rfl) (by kernel_rfl) (fun _ _ _ h => h) (Or.inl ⟨by rfl, ?_⟩) (by assumption) ?_
    rotate_left
    · intro w hSw; (try dsimp only at hSw); go_simp; (try with_reducible rfl)
    (try simp only [Act.put, List.setIfInBounds_toArray, List.set_cons_zero, List.set_cons_succ])
    refine wpAnyH_take (i := 2) (oi := { dst := some 27, op := Op.fieldAddr 63 (Operand.tmp 1) 2, type := 0, pos := "l05_schema.go:74", after := #[], guard := none }) (v := ?_) rfl (by kernel_rfl) (by kernel_rfl) (by kernel_rfl) (fun _ _ _ h => h) (Or.inl ⟨by rfl, ?_⟩) (by assumption) ?_
    rotate_left
    · intro w hSw; (try dsimp only at hSw); go_simp; (try with_reducible rfl)
    (try simp only [Act.put, List.setIfInBounds_toArray, List.set_cons_zero, List.set_cons_succ])
    refine wpAnyH_take (i := 3) (oi := { dst := some 28, op := Op.load 29 (Operand.tmp 27), type := 29, pos := "l05_schema.go:74", after := #[{ on := 2, ground := Ground.data }], guard := none }) (v := ?_) rfl (by kernel_rfl) (by kernel_rfl) (by kernel_rfl) (fun _ _ _ h => h) (Or.inl ⟨by rfl, ?_⟩) (by assumption) ?_
    rotate_left
    · intro w hSw; (try dsimp only at hSw); go_simp; (try with_reducible rfl)
    (try simp only [Act.put, List.setIfInBounds_toArray, List.set_cons_zero, List.set_cons_succ])
    refine wpAnyH_take (i := 6) (oi := { dst := some 31, op := Op.fieldAddr 63 (Operand.tmp 1) 1, type := 0, pos := "l05_schema.go:74", after := #[], guard := none }) (v := ?_) rfl (by kernel_rfl) (by kernel_rfl) (by kernel_rfl) (fun _ _ _ h => h) (Or.inl ⟨by rfl, ?_⟩) (by assumption) ?_
    rotate_left
    · intro w hSw; (try dsimp only at hSw); go_simp; (try with_reducible rfl)
    (try simp only [Act.put, List.setIfInBounds_toArray, List.set_cons_zero, List.set_cons_succ])
    refine wpAnyH_take (i := 7) (oi := { dst := some 32, op := Op.load 29 (Operand.tmp 31), type := 29, pos := "l05_schema.go:74", after := #[{ on := 6, ground := Ground.data }], guard := none }) (v := ?_) rfl (by kernel_rfl) (by kernel_rfl) (by kernel_rfl) (fun _ _ _ h => h) (Or.inl ⟨by rfl, ?_⟩) (by assumption) ?_
    rotate_left
    · intro w hSw; (try dsimp only at hSw); go_simp; (try with_reducible rfl)
    (try simp only [Act.put, List.setIfInBounds_toArray, List.set_cons_zero, List.set_cons_succ])
    refine wpAnyH_take (i := 8) (oi := { dst := some 33, op := Op.call { callee := Callee.builtin Builtin.len, args := #[Operand.tmp 32], argTypes := #[29] }, type := 3, pos := "l05_schema.go:74", after := #[{ on := 7, ground := Ground.data }], guard := none }) (v := ?_) rfl (by kernel_rfl) (by kernel_rfl) (by kernel_rfl) (fun _ _ _ h => h) (Or.inl ⟨by rfl, ?_⟩) (by assumption) ?_
    rotate_left
    · intro w hSw; (try dsimp only at hSw); go_simp; (try with_reducible rfl)
    (try simp only [Act.put, List.setIfInBounds_toArray, List.set_cons_zero, List.set_cons_succ])
    refine wpAnyH_ready (rs := [4]) (by kernel_rfl) (by simp) ?_
    refine AllReadyH.cons (o := { dst := some 29, op := Op.call { callee := Callee.value (Operand.func 196), args := #[Operand.tmp 26, Operand.tmp 28], argTypes := #[29, 29] }, type := 29, pos := "l05_schema.go:74", after := #[{ on := 1, ground := Ground.data }, { on := 3, ground := Ground.data }], guard := none }) rfl (fun K hK => ?_) (AllReadyH.nil)
    go_simp
    refine (D4.out _ (by first | assumption | exact BD)).mono ?_
    rintro e m4 ⟨⟨xo, xc, rfl⟩, d4⟩
    clear hHeld
    refine hK.out _ _ ?_ (fun hHeld => ?_)
    · (try dsimp only)
      first | exact SK.out _ (by assumption) | exact SK.out _ BD
    clear hK K
    (try simp only [Act.put, List.setIfInBounds_toArray, List.set_cons_zero, List.set_cons_succ])
    refine wpAnyH_take (i := 5) (oi := { dst := some 30, op := Op.call { callee := Callee.builtin Builtin.len, args := #[Operand.tmp 29], argTypes := #[29] }, type := 3, pos := "l05_schema.go:74", after := #[{ on := 4, ground := Ground.data }], guard := none }) (v := ?_) rfl (by kernel_rfl) (by kernel_rfl) (by kernel_rfl) (fun _ _ _ h => h) (Or.inl ⟨by rfl, ?_⟩) (by assumption) ?_
    rotate_left
    · intro w hSw; (try dsimp only at hSw); go_simp; (try with_reducible rfl)
    (try simp only [Act.put, List.setIfInBounds_toArray, List.set_cons_zero, List.set_cons_succ])
    refine wpAnyH_take (i := 9) (oi := { dst := some 34, op := Op.binOp BinOp.lss 3 (Operand.tmp 30) (Operand.tmp 33) 3, type := 4, pos := "l05_schema.go:74", after := #[{ on := 5, ground := Ground.data }, { on := 8, ground := Ground.data }], guard := none }) (v := ?_) rfl (by kernel_rfl) (by kernel_rfl) (by kernel_rfl) (fun _ _ _ h => h) (Or.inl ⟨by rfl, ?_⟩) (by assumption) ?_
    rotate_left
    · intro w hSw; (try dsimp only at hSw); go_simp; (try with_reducible rfl)
    (try simp only [Act.put, List.setIfInBounds_toArray, List.set_cons_zero, List.set_cons_succ])
    refine wpAnyH_take (i := 10) (oi := { dst := some 35, op := Op.move (Operand.tmp 34), type := 4, pos := "l05_schema.go:74", after := #[{ on := 9, ground := Ground.data }, { on := 4, ground := Ground.chain }], guard := none }) (v := ?_) rfl (by kernel_rfl) (by kernel_rfl) (by kernel_rfl) (fun _ _ _ h => h) (Or.inl ⟨by rfl, ?_⟩) (by assumption) ?_
    rotate_left
    · intro w hSw; (try dsimp only at hSw); go_simp; (try with_reducible rfl)
    (try simp only [Act.put, List.setIfInBounds_toArray, List.set_cons_zero, List.set_cons_succ])
    refine wpAnyH_take (i := 11) (oi := { dst := some 36, op := Op.load 63 (Operand.tmp 1), type := 63, pos := "l05_schema.go:74", after := #[{ on := 10, ground := Ground.guard }], guard := some (10, false) }) (v := undef) rfl (by kernel_rfl) (by kernel_rfl) (by kernel_rfl) (fun _ _ _ h => h) (Or.inr ⟨by rfl, rfl⟩) (by assumption) ?_
    (try simp only [Act.put, List.setIfInBounds_toArray, List.set_cons_zero, List.set_cons_succ])
    refine wpAnyH_take (i := 12) (oi := { dst := some 37, op := Op.call { callee := Callee.value (Operand.func 198), args := #[Operand.tmp 36], argTypes := #[63] }, type := 29, pos := "l05_schema.go:74", after := #[{ on := 11, ground := Ground.data }, { on := 10, ground := Ground.chain }, { on := 10, ground := Ground.guard }], guard := some (10, false) }) (v := undef) rfl (by kernel_rfl) (by kernel_rfl) (by kernel_rfl) (fun _ _ _ h => h) (Or.inr ⟨by rfl, rfl⟩) (by assumption) ?_
    (try simp only [Act.put, List.setIfInBounds_toArray, List.set_cons_zero, List.set_cons_succ])
    refine wpAnyH_take (i := 13) (oi := { dst := some 38, op := Op.call { callee := Callee.value (Operand.func 197), args := #[Operand.tmp 37, Operand.const (Value.string { data := #[99, 108, 97, 115, 115] })], argTypes := #[29, 9] }, type := 4, pos := "l05_schema.go:74", after := #[{ on := 12, ground := Ground.data }, { on := 12, ground := Ground.chain }, { on := 10, ground := Ground.guard }], guard := some (10, false) }) (v := undef) rfl (by kernel_rfl) (by kernel_rfl) (by kernel_rfl) (fun _ _ _ h => h) (Or.inr ⟨by rfl, rfl⟩) (by assumption) ?_
    (try simp only [Act.put, List.setIfInBounds_toArray, List.set_cons_zero, List.set_cons_succ])
    refine wpAnyH_take (i := 14) (oi := { dst := some 39, op := Op.pick (Operand.tmp 35) (Operand.const (Value.bool true)) (Operand.tmp 38), type := 4, pos := "l05_schema.go:74", after := #[{ on := 10, ground := Ground.data }, { on := 13, ground := Ground.data }], guard := none }) (v := ?_) rfl (by kernel_rfl) (by kernel_rfl) (by kernel_rfl) (fun _ _ _ h => h) (Or.inl ⟨by rfl, ?_⟩) (by assumption) ?_
    rotate_left
    · intro w hSw; (try dsimp only at hSw); go_simp; (try with_reducible rfl)
    (try simp only [Act.put, List.setIfInBounds_toArray, List.set_cons_zero, List.set_cons_succ])
    refine wpAnyH_done (by kernel_rfl) ?_ _
    clear hHeld
    go_wp2
    go_ret
    exact ⟨ret_bool (by rw [HE.out]; simp), HB4.out.trans (d4.mono HB4.out.size)⟩
  · have g1 : ¬ (X.length : Int) < (c.must.length : Int) := by omega
    have HF : Hid ((c.must.all fun x => !(hasS c.may x)) = true) := Lib.hid (by have := HM.out; rw [decide_eq_false hx] at this; simpa using this.symm)
    rw [HF.out] at HE
    go_wp2_with fail
    cases hh : hasS PP clsT
    · rw [hh] at HE D6
      refine wp_region_held_drew (S := (fun Z' => Z'.cell? ⟨w.heap.size, 0, none⟩ = some (.string c.nm) ∧ Z'.cell? ⟨w.heap.size, 1, none⟩ = some (.slice o1 c.must.length k1) ∧ Z'.cell? ⟨w.heap.size, 2, none⟩ = some (.slice o2 c.may.length k2) ∧ Z'.cell? ⟨w.heap.size, 3, none⟩ = some (.slice o3 c.one.length k3))) (by kernel_rfl) ?_ (fun hHeld => ?_)
      · (try dsimp only)
        first | exact SK.out _ (by assumption) | exact SK.out _ BD
      refine wpAnyH_take (i := 0) (oi := { dst := some 25, op := Op.fieldAddr 63 (Operand.tmp 1) 1, type := 0, pos := "l05_schema.go:74", after := #[], guard := none }) (v := ?_) rfl (by kernel_rfl) (by kernel_rfl) (by kernel_rfl) (fun _ _ _ h => h) (Or.inl ⟨by rfl, ?_⟩) (by assumption) ?_
      rotate_left
      · intro w hSw; (try dsimp only at hSw); go_simp; (try with_reducible rfl)
      (try simp only [Act.put, List.setIfInBounds_toArray, List.set_cons_zero, List.set_cons_succ])
      refine wpAnyH_take (i := 1) (oi := { dst := some 26, op := Op.load 29 (Operand.tmp 25), type := 29, pos := "l05_schema.go:74", after := #[{ on := 0, ground := Ground.data }], guard := none }) (v := ?_) rfl (by kernel_rfl) (by kernel_rfl) (by kernel_rfl) (fun _ _ _ h => h) (Or.inl ⟨by rfl, ?_⟩) (by assumption) ?_
      rotate_left
      · intro w hSw; (try dsimp only at hSw); go_simp; (try with_reducible rfl)
      (try simp only [Act.put, List.setIfInBounds_toArray, List.set_cons_zero, List.set_cons_succ])
      refine wpAnyH_take (i := 2) (oi := { dst := some 27, op := Op.fieldAddr 63 (Operand.tmp 1) 2, type := 0, pos := "l05_schema.go:74", after := #[], guard := none }) (v := ?_) rfl (by kernel_rfl) (by kernel_rfl) (by kernel_rfl) (fun _ _ _ h => h) (Or.inl ⟨by rfl, ?_⟩) (by assumption) ?_
      rotate_left
      · intro w hSw; (try dsimp only at hSw); go_simp; (try with_reducible rfl)
      (try simp only [Act.put, List.setIfInBounds_toArray, List.set_cons_zero, List.set_cons_succ])
      refine wpAnyH_take (i := 3) (oi := { dst := some 28, op := Op.load 29 (Operand.tmp 27), type := 29, pos := "l05_schema.go:74", after := #[{ on := 2, ground := Ground.data }], guard := none }) (v := ?_) rfl (by kernel_rfl) (by kernel_rfl) (by kernel_rfl) (fun _ _ _ h => h) (Or.inl ⟨by rfl, ?_⟩) (by assumption) ?_
      rotate_left
      · intro w hSw; (try dsimp only at hSw); go_simp; (try with_reducible rfl)
      (try simp only [Act.put, List.setIfInBounds_toArray, List.set_cons_zero, List.set_cons_succ])
      refine wpAnyH_take (i := 6) (oi := { dst := some 31, op := Op.fieldAddr 63 (Operand.tmp 1) 1, type := 0, pos := "l05_schema.go:74", after := #[], guard := none }) (v := ?_) rfl (by kernel_rfl) (by kernel_rfl) (by kernel_rfl) (fun _ _ _ h => h) (Or.inl ⟨by rfl, ?_⟩) (by assumption) ?_
      rotate_left
      · intro w hSw; (try dsimp only at hSw); go_simp; (try with_reducible rfl)
      (try simp only [Act.put, List.setIfInBounds_toArray, List.set_cons_zero, List.set_cons_succ])
      refine wpAnyH_take (i := 7) (oi := { dst := some 32, op := Op.load 29 (Operand.tmp 31), type := 29, pos := "l05_schema.go:74", after := #[{ on := 6, ground := Ground.data }], guard := none }) (v := ?_) rfl (by kernel_rfl) (by kernel_rfl) (by kernel_rfl) (fun _ _ _ h => h) (Or.inl ⟨by rfl, ?_⟩) (by assumption) ?_
      rotate_left
      · intro w hSw; (try dsimp only at hSw); go_simp; (try with_reducible rfl)
      (try simp only [Act.put, List.setIfInBounds_toArray, List.set_cons_zero, List.set_cons_succ])
      refine wpAnyH_take (i := 8) (oi := { dst := some 33, op := Op.call { callee := Callee.builtin Builtin.len, args := #[Operand.tmp 32], argTypes := #[29] }, type := 3, pos := "l05_schema.go:74", after := #[{ on := 7, ground := Ground.data }], guard := none }) (v := ?_) rfl (by kernel_rfl) (by kernel_rfl) (by kernel_rfl) (fun _ _ _ h => h) (Or.inl ⟨by rfl, ?_⟩) (by assumption) ?_
      rotate_left
      · intro w hSw; (try dsimp only at hSw); go_simp; (try with_reducible rfl)
      (try simp only [Act.put, List.setIfInBounds_toArray, List.set_cons_zero, List.set_cons_succ])
      refine wpAnyH_ready (rs := [4]) (by kernel_rfl) (by simp) ?_
      refine AllReadyH.cons (o := { dst := some 29, op := Op.call { callee := Callee.value (Operand.func 196), args := #[Operand.tmp 26, Operand.tmp 28], argTypes := #[29, 29] }, type := 29, pos := "l05_schema.go:74", after := #[{ on := 1, ground := Ground.data }, { on := 3, ground := Ground.data }], guard := none }) rfl (fun K hK => ?_) (AllReadyH.nil)
      go_simp
      refine (D4.out _ (by first | assumption | exact BD)).mono ?_
      rintro e m4 ⟨⟨xo, xc, rfl⟩, d4⟩
      clear hHeld
      refine hK.out _ _ ?_ (fun hHeld => ?_)
      · (try dsimp only)
        first | exact SK.out _ (by assumption) | exact SK.out _ BD
      clear hK K
      (try simp only [Act.put, List.setIfInBounds_toArray, List.set_cons_zero, List.set_cons_succ])
      refine wpAnyH_take (i := 5) (oi := { dst := some 30, op := Op.call { callee := Callee.builtin Builtin.len, args := #[Operand.tmp 29], argTypes := #[29] }, type := 3, pos := "l05_schema.go:74", after := #[{ on := 4, ground := Ground.data }], guard := none }) (v := ?_) rfl (by kernel_rfl) (by kernel_rfl) (by kernel_rfl) (fun _ _ _ h => h) (Or.inl ⟨by rfl, ?_⟩) (by assumption) ?_
      rotate_left
      · intro w hSw; (try dsimp only at hSw); go_simp; (try with_reducible rfl)
      (try simp only [Act.put, List.setIfInBounds_toArray, List.set_cons_zero, List.set_cons_succ])
      refine wpAnyH_take (i := 9) (oi := { dst := some 34, op := Op.binOp BinOp.lss 3 (Operand.tmp 30) (Operand.tmp 33) 3, type := 4, pos := "l05_schema.go:74", after := #[{ on := 5, ground := Ground.data }, { on := 8, ground := Ground.data }], guard := none }) (v := ?_) rfl (by kernel_rfl) (by kernel_rfl) (by kernel_rfl) (fun _ _ _ h => h) (Or.inl ⟨by rfl, ?_⟩) (by assumption) ?_
      rotate_left
      · intro w hSw; (try dsimp only at hSw); go_simp; (try with_reducible rfl)
      (try simp only [Act.put, List.setIfInBounds_toArray, List.set_cons_zero, List.set_cons_succ])
      refine wpAnyH_take (i := 10) (oi := { dst := some 35, op := Op.move (Operand.tmp 34), type := 4, pos := "l05_schema.go:74", after := #[{ on := 9, ground := Ground.data }, { on := 4, ground := Ground.chain }], guard := none }) (v := ?_) rfl (by kernel_rfl) (by kernel_rfl) (by kernel_rfl) (fun _ _ _ h => h) (Or.inl ⟨by rfl, ?_⟩) (by assumption) ?_
      rotate_left
      · intro w hSw; (try dsimp only at hSw); go_simp; (try with_reducible rfl)
      (try simp only [Act.put, List.setIfInBounds_toArray, List.set_cons_zero, List.set_cons_succ])
      refine wpAnyH_take (i := 11) (oi := { dst := some 36, op := Op.load 63 (Operand.tmp 1), type := 63, pos := "l05_schema.go:74", after := #[{ on := 10, ground := Ground.guard }], guard := some (10, false) }) (v := ?_) rfl (by kernel_rfl) (by kernel_rfl) (by kernel_rfl) (fun _ _ _ h => h) (Or.inl ⟨by rfl, ?_⟩) (by assumption) ?_
      rotate_left
      · intro w hSw; (try dsimp only at hSw); go_simp; (try with_reducible rfl)
      (try simp only [Act.put, List.setIfInBounds_toArray, List.set_cons_zero, List.set_cons_succ])
      refine wpAnyH_ready (rs := [12]) (by kernel_rfl) (by simp) ?_
      refine AllReadyH.cons (o := { dst := some 37, op := Op.call { callee := Callee.value (Operand.func 198), args := #[Operand.tmp 36], argTypes := #[63] }, type := 29, pos := "l05_schema.go:74", after := #[{ on := 11, ground := Ground.data }, { on := 10, ground := Ground.chain }, { on := 10, ground := Ground.guard }], guard := some (10, false) }) rfl (fun K hK => ?_) (AllReadyH.nil)
      go_simp
      refine (D5.out _ (by first | assumption | exact BD)).mono ?_
      rintro e m12 ⟨⟨yo, yc, rfl, sy⟩, d12⟩
      clear d4
      clear hHeld
      refine hK.out _ _ ?_ (fun hHeld => ?_)
      · (try dsimp only)
        first | exact SK.out _ (by assumption) | exact SK.out _ BD
      clear hK K
      (try simp only [Act.put, List.setIfInBounds_toArray, List.set_cons_zero, List.set_cons_succ])
      refine wpAnyH_ready (rs := [13]) (by kernel_rfl) (by simp) ?_
      refine AllReadyH.cons (o := { dst := some 38, op := Op.call { callee := Callee.value (Operand.func 197), args := #[Operand.tmp 37, Operand.const (Value.string { data := #[99, 108, 97, 115, 115] })], argTypes := #[29, 9] }, type := 4, pos := "l05_schema.go:74", after := #[{ on := 12, ground := Ground.data }, { on := 12, ground := Ground.chain }, { on := 10, ground := Ground.guard }], guard := some (10, false) }) rfl (fun K hK => ?_) (AllReadyH.nil)
      go_simp
      refine (D6.out m12 yo yc d12 sy).mono ?_
      rintro e m13 ⟨rfl, d13⟩
      clear d12 sy
      clear hHeld
      refine hK.out _ _ ?_ (fun hHeld => ?_)
      · (try dsimp only)
        first | exact SK.out _ (by assumption) | exact SK.out _ BD
      clear hK K
      (try simp only [Act.put, List.setIfInBounds_toArray, List.set_cons_zero, List.set_cons_succ])
      refine wpAnyH_take (i := 14) (oi := { dst := some 39, op := Op.pick (Operand.tmp 35) (Operand.const (Value.bool true)) (Operand.tmp 38), type := 4, pos := "l05_schema.go:74", after := #[{ on := 10, ground := Ground.data }, { on := 13, ground := Ground.data }], guard := none }) (v := ?_) rfl (by kernel_rfl) (by kernel_rfl) (by kernel_rfl) (fun _ _ _ h => h) (Or.inl ⟨by rfl, ?_⟩) (by assumption) ?_
      rotate_left
      · intro w hSw; (try dsimp only at hSw); go_simp; (try with_reducible rfl)
      (try simp only [Act.put, List.setIfInBounds_toArray, List.set_cons_zero, List.set_cons_succ])
      refine wpAnyH_done (by kernel_rfl) ?_ _
      clear hHeld
      have BE := d13.drew
      go_wp2_with fail
      by_cases hy : Y.length = 0
      · have g2 : ((Y.length : Int) == 0) = true := by simpa using hy
        have HG : Hid ((c.one.all fun x => hasS PP x) = true) := Lib.hid (by rw [← HO.out]; exact decide_eq_true hy)
        rw [HG.out] at HE
        refine wp_region_held_drew (S := (fun Z' => Z'.cell? ⟨w.heap.size, 0, none⟩ = some (.string c.nm) ∧ Z'.cell? ⟨w.heap.size, 1, none⟩ = some (.slice o1 c.must.length k1) ∧ Z'.cell? ⟨w.heap.size, 2, none⟩ = some (.slice o2 c.may.length k2) ∧ Z'.cell? ⟨w.heap.size, 3, none⟩ = some (.slice o3 c.one.length k3))) (by kernel_rfl) ?_ (fun hHeld => ?_)
        · (try dsimp only)
          first | exact SK.out _ (by assumption) | exact SK.out _ BE
        refine wpAnyH_take (i := 0) (oi := { dst := some 40, op := Op.fieldAddr 63 (Operand.tmp 1) 3, type := 0, pos := "l05_schema.go:77", after := #[], guard := none }) (v := ?_) rfl (by kernel_rfl) (by kernel_rfl) (by kernel_rfl) (fun _ _ _ h => h) (Or.inl ⟨by rfl, ?_⟩) (by assumption) ?_
        rotate_left
        · intro w hSw; (try dsimp only at hSw); go_simp; (try with_reducible rfl)
        (try simp only [Act.put, List.setIfInBounds_toArray, List.set_cons_zero, List.set_cons_succ])
        refine wpAnyH_take (i := 1) (oi := { dst := some 41, op := Op.load 29 (Operand.tmp 40), type := 29, pos := "l05_schema.go:77", after := #[{ on := 0, ground := Ground.data }], guard := none }) (v := ?_) rfl (by kernel_rfl) (by kernel_rfl) (by kernel_rfl) (fun _ _ _ h => h) (Or.inl ⟨by rfl, ?_⟩) (by assumption) ?_
        rotate_left
        · intro w hSw; (try dsimp only at hSw); go_simp; (try with_reducible rfl)
        (try simp only [Act.put, List.setIfInBounds_toArray, List.set_cons_zero, List.set_cons_succ])
        refine wpAnyH_take (i := 2) (oi := { dst := some 42, op := Op.load 63 (Operand.tmp 1), type := 63, pos := "l05_schema.go:77", after := #[], guard := none }) (v := ?_) rfl (by kernel_rfl) (by kernel_rfl) (by kernel_rfl) (fun _ _ _ h => h) (Or.inl ⟨by rfl, ?_⟩) (by assumption) ?_
        rotate_left
        · intro w hSw; (try dsimp only at hSw); go_simp; (try with_reducible rfl)
        (try simp only [Act.put, List.setIfInBounds_toArray, List.set_cons_zero, List.set_cons_succ])
        refine wpAnyH_ready (rs := [3]) (by kernel_rfl) (by simp) ?_
        refine AllReadyH.cons (o := { dst := some 43, op := Op.call { callee := Callee.value (Operand.func 198), args := #[Operand.tmp 42], argTypes := #[63] }, type := 29, pos := "l05_schema.go:77", after := #[{ on := 2, ground := Ground.data }], guard := none }) rfl (fun K hK => ?_) (AllReadyH.nil)
        go_simp
        refine (D5.out _ (by first | assumption | exact BE)).mono ?_
        rintro e n3 ⟨⟨zo, zc, rfl, sz⟩, f3⟩
        clear hHeld
        refine hK.out _ _ ?_ (fun hHeld => ?_)
        · (try dsimp only)
          first | exact SK.out _ (by assumption) | exact SK.out _ BE
        clear hK K
        (try simp only [Act.put, List.setIfInBounds_toArray, List.set_cons_zero, List.set_cons_succ])
        refine wpAnyH_ready (rs := [4]) (by kernel_rfl) (by simp) ?_
        refine AllReadyH.cons (o := { dst := some 44, op := Op.call { callee := Callee.value (Operand.func 196), args := #[Operand.tmp 41, Operand.tmp 43], argTypes := #[29, 29] }, type := 29, pos := "l05_schema.go:77", after := #[{ on := 1, ground := Ground.data }, { on := 3, ground := Ground.data }, { on := 3, ground := Ground.chain }], guard := none }) rfl (fun K hK => ?_) (AllReadyH.nil)
        go_simp
        refine (D7.out n3 zo zc f3 sz).mono ?_
        rintro e n4 ⟨⟨uo, uc, rfl⟩, f4⟩
        clear f3 sz
        clear hHeld
        refine hK.out _ _ ?_ (fun hHeld => ?_)
        · (try dsimp only)
          first | exact SK.out _ (by assumption) | exact SK.out _ BE
        clear hK K
        (try simp only [Act.put, List.setIfInBounds_toArray, List.set_cons_zero, List.set_cons_succ])
        refine wpAnyH_take (i := 5) (oi := { dst := some 45, op := Op.call { callee := Callee.builtin Builtin.len, args := #[Operand.tmp 44], argTypes := #[29] }, type := 3, pos := "l05_schema.go:77", after := #[{ on := 4, ground := Ground.data }], guard := none }) (v := ?_) rfl (by kernel_rfl) (by kernel_rfl) (by kernel_rfl) (fun _ _ _ h => h) (Or.inl ⟨by rfl, ?_⟩) (by assumption) ?_
        rotate_left
        · intro w hSw; (try dsimp only at hSw); go_simp; (try with_reducible rfl)
        (try simp only [Act.put, List.setIfInBounds_toArray, List.set_cons_zero, List.set_cons_succ])
        refine wpAnyH_take (i := 6) (oi := { dst := some 46, op := Op.binOp BinOp.eql 3 (Operand.tmp 45) (Operand.const (Value.int IntKind.i64 0)) 3, type := 4, pos := "l05_schema.go:77", after := #[{ on := 5, ground := Ground.data }], guard := none }) (v := ?_) rfl (by kernel_rfl) (by kernel_rfl) (by kernel_rfl) (fun _ _ _ h => h) (Or.inl ⟨by rfl, ?_⟩) (by assumption) ?_
        rotate_left
        · intro w hSw; (try dsimp only at hSw); go_simp; (try with_reducible rfl)
        (try simp only [Act.put, List.setIfInBounds_toArray, List.set_cons_zero, List.set_cons_succ])
        refine wpAnyH_take (i := 7) (oi := { dst := some 2, op := Op.assign (Operand.tmp 46), type := 4, pos := "l05_schema.go:77", after := #[{ on := 6, ground := Ground.data }, { on := 4, ground := Ground.chain }, { on := 0, ground := Ground.phase }, { on := 1, ground := Ground.phase }, { on := 2, ground := Ground.phase }, { on := 3, ground := Ground.phase }, { on := 4, ground := Ground.phase }, { on := 5, ground := Ground.phase }, { on := 6, ground := Ground.phase }], guard := none }) (v := ?_) rfl (by kernel_rfl) (by kernel_rfl) (by kernel_rfl) (fun _ _ _ h => h) (Or.inl ⟨by rfl, ?_⟩) (by assumption) ?_
        rotate_left
        · intro w hSw; (try dsimp only at hSw); go_simp; (try with_reducible rfl)
        (try simp only [Act.put, List.setIfInBounds_toArray, List.set_cons_zero, List.set_cons_succ])
        refine wpAnyH_done (by kernel_rfl) ?_ _
        clear hHeld
        go_wp2
        go_ret
        exact ⟨ret_bool (by rw [HE.out]; simp), HB4.out.trans (f4.mono HB4.out.size)⟩
      · have g2 : ((Y.length : Int) == 0) = false := by simpa using hy
        have HG : Hid ((c.one.all fun x => hasS PP x) = false) := Lib.hid (by rw [← HO.out]; exact decide_eq_false hy)
        rw [HG.out] at HE
        refine wp_region_held_drew (S := (fun Z' => Z'.cell? ⟨w.heap.size, 0, none⟩ = some (.string c.nm) ∧ Z'.cell? ⟨w.heap.size, 1, none⟩ = some (.slice o1 c.must.length k1) ∧ Z'.cell? ⟨w.heap.size, 2, none⟩ = some (.slice o2 c.may.length k2) ∧ Z'.cell? ⟨w.heap.size, 3, none⟩ = some (.slice o3 c.one.length k3))) (by kernel_rfl) ?_ (fun hHeld => ?_)
        · (try dsimp only)
          first | exact SK.out _ (by assumption) | exact SK.out _ BE
        refine wpAnyH_take (i := 0) (oi := { dst := some 40, op := Op.fieldAddr 63 (Operand.tmp 1) 3, type := 0, pos := "l05_schema.go:77", after := #[], guard := none }) (v := ?_) rfl (by kernel_rfl) (by kernel_rfl) (by kernel_rfl) (fun _ _ _ h => h) (Or.inl ⟨by rfl, ?_⟩) (by assumption) ?_
        rotate_left
        · intro w hSw; (try dsimp only at hSw); go_simp; (try with_reducible rfl)
        (try simp only [Act.put, List.setIfInBounds_toArray, List.set_cons_zero, List.set_cons_succ])
        refine wpAnyH_take (i := 1) (oi := { dst := some 41, op := Op.load 29 (Operand.tmp 40), type := 29, pos := "l05_schema.go:77", after := #[{ on := 0, ground := Ground.data }], guard := none }) (v := ?_) rfl (by kernel_rfl) (by kernel_rfl) (by kernel_rfl) (fun _ _ _ h => h) (Or.inl ⟨by rfl, ?_⟩) (by assumption) ?_
        rotate_left
        · intro w hSw; (try dsimp only at hSw); go_simp; (try with_reducible rfl)
        (try simp only [Act.put, List.setIfInBounds_toArray, List.set_cons_zero, List.set_cons_succ])
        refine wpAnyH_take (i := 2) (oi := { dst := some 42, op := Op.load 63 (Operand.tmp 1), type := 63, pos := "l05_schema.go:77", after := #[], guard := none }) (v := ?_) rfl (by kernel_rfl) (by kernel_rfl) (by kernel_rfl) (fun _ _ _ h => h) (Or.inl ⟨by rfl, ?_⟩) (by assumption) ?_
        rotate_left
        · intro w hSw; (try dsimp only at hSw); go_simp; (try with_reducible rfl)
        (try simp only [Act.put, List.setIfInBounds_toArray, List.set_cons_zero, List.set_cons_succ])
        refine wpAnyH_ready (rs := [3]) (by kernel_rfl) (by simp) ?_
        refine AllReadyH.cons (o := { dst := some 43, op := Op.call { callee := Callee.value (Operand.func 198), args := #[Operand.tmp 42], argTypes := #[63] }, type := 29, pos := "l05_schema.go:77", after := #[{ on := 2, ground := Ground.data }], guard := none }) rfl (fun K hK => ?_) (AllReadyH.nil)
        go_simp
        refine (D5.out _ (by first | assumption | exact BE)).mono ?_
        rintro e n3 ⟨⟨zo, zc, rfl, sz⟩, f3⟩
        clear hHeld
        refine hK.out _ _ ?_ (fun hHeld => ?_)
        · (try dsimp only)
          first | exact SK.out _ (by assumption) | exact SK.out _ BE
        clear hK K
        (try simp only [Act.put, List.setIfInBounds_toArray, List.set_cons_zero, List.set_cons_succ])
        refine wpAnyH_ready (rs := [4]) (by kernel_rfl) (by simp) ?_
        refine AllReadyH.cons (o := { dst := some 44, op := Op.call { callee := Callee.value (Operand.func 196), args := #[Operand.tmp 41, Operand.tmp 43], argTypes := #[29, 29] }, type := 29, pos := "l05_schema.go:77", after := #[{ on := 1, ground := Ground.data }, { on := 3, ground := Ground.data }, { on := 3, ground := Ground.chain }], guard := none }) rfl (fun K hK => ?_) (AllReadyH.nil)
        go_simp
        refine (D7.out n3 zo zc f3 sz).mono ?_
        rintro e n4 ⟨⟨uo, uc, rfl⟩, f4⟩
        clear f3 sz
        clear hHeld
        refine hK.out _ _ ?_ (fun hHeld => ?_)
        · (try dsimp only)
          first | exact SK.out _ (by assumption) | exact SK.out _ BE
        clear hK K
        (try simp only [Act.put, List.setIfInBounds_toArray, List.set_cons_zero, List.set_cons_succ])
        refine wpAnyH_take (i := 5) (oi := { dst := some 45, op := Op.call { callee := Callee.builtin Builtin.len, args := #[Operand.tmp 44], argTypes := #[29] }, type := 3, pos := "l05_schema.go:77", after := #[{ on := 4, ground := Ground.data }], guard := none }) (v := ?_) rfl (by kernel_rfl) (by kernel_rfl) (by kernel_rfl) (fun _ _ _ h => h) (Or.inl ⟨by rfl, ?_⟩) (by assumption) ?_
        rotate_left
        · intro w hSw; (try dsimp only at hSw); go_simp; (try with_reducible rfl)
        (try simp only [Act.put, List.setIfInBounds_toArray, List.set_cons_zero, List.set_cons_succ])
        refine wpAnyH_take (i := 6) (oi := { dst := some 46, op := Op.binOp BinOp.eql 3 (Operand.tmp 45) (Operand.const (Value.int IntKind.i64 0)) 3, type := 4, pos := "l05_schema.go:77", after := #[{ on := 5, ground := Ground.data }], guard := none }) (v := ?_) rfl (by kernel_rfl) (by kernel_rfl) (by kernel_rfl) (fun _ _ _ h => h) (Or.inl ⟨by rfl, ?_⟩) (by assumption) ?_
        rotate_left
        · intro w hSw; (try dsimp only at hSw); go_simp; (try with_reducible rfl)
        (try simp only [Act.put, List.setIfInBounds_toArray, List.set_cons_zero, List.set_cons_succ])
        refine wpAnyH_take (i := 7) (oi := { dst := some 2, op := Op.assign (Operand.tmp 46), type := 4, pos := "l05_schema.go:77", after := #[{ on := 6, ground := Ground.data }, { on := 4, ground := Ground.chain }, { on := 0, ground := Ground.phase }, { on := 1, ground := Ground.phase }, { on := 2, ground := Ground.phase }, { on := 3, ground := Ground.phase }, { on := 4, ground := Ground.phase }, { on := 5, ground := Ground.phase }, { on := 6, ground := Ground.phase }], guard := none }) (v := ?_) rfl (by kernel_rfl) (by kernel_rfl) (by kernel_rfl) (fun _ _ _ h => h) (Or.inl ⟨by rfl, ?_⟩) (by assumption) ?_
        rotate_left
        · intro w hSw; (try dsimp only at hSw); go_simp; (try with_reducible rfl)
        (try simp only [Act.put, List.setIfInBounds_toArray, List.set_cons_zero, List.set_cons_succ])
        refine wpAnyH_done (by kernel_rfl) ?_ _
        clear hHeld
        go_wp2
        go_ret
        exact ⟨ret_bool (by rw [HE.out]; simp), HB4.out.trans (f4.mono HB4.out.size)⟩
    · rw [hh] at HE D6
      refine wp_region_held_drew (S := (fun Z' => Z'.cell? ⟨w.heap.size, 0, none⟩ = some (.string c.nm) ∧ Z'.cell? ⟨w.heap.size, 1, none⟩ = some (.slice o1 c.must.length k1) ∧ Z'.cell? ⟨w.heap.size, 2, none⟩ = some (.slice o2 c.may.length k2) ∧ Z'.cell? ⟨w.heap.size, 3, none⟩ = some (.slice o3 c.one.length k3))) (by kernel_rfl) ?_ (fun hHeld => ?_)
      · (try dsimp only)
        first | exact SK.out _ (by assumption) | exact SK.out _ BD
      refine wpAnyH_take (i := 0) (oi := { dst := some 25, op := Op.fieldAddr 63 (Operand.tmp 1) 1, type := 0, pos := "l05_schema.go:74", after := #[], guard := none }) (v := ?_) rfl (by kernel_rfl) (by kernel_rfl) (by kernel_rfl) (fun _ _ _ h => h) (Or.inl ⟨by rfl, ?_⟩) (by assumption) ?_
      rotate_left
      · intro w hSw; (try dsimp only at hSw); go_simp; (try with_reducible rfl)
      (try simp only [Act.put, List.setIfInBounds_toArray, List.set_cons_zero, List.set_cons_succ])
      refine wpAnyH_take (i := 1) (oi := { dst := some 26, op := Op.load 29 (Operand.tmp 25), type := 29, pos := "l05_schema.go:74", after := #[{ on := 0, ground := Ground.data }], guard := none }) (v := ?_) rfl (by kernel_rfl) (by kernel_rfl) (by kernel_rfl) (fun _ _ _ h => h) (Or.inl ⟨by rfl, ?_⟩) (by assumption) ?_
      rotate_left
      · intro w hSw; (try dsimp only at hSw); go_simp; (try with_reducible rfl)
      (try simp only [Act.put, List.setIfInBounds_toArray, List.set_cons_zero, List.set_cons_succ])
      refine wpAnyH_take (i := 2) (oi := { dst := some 27, op := Op.fieldAddr 63 (Operand.tmp 1) 2, type := 0, pos := "l05_schema.go:74", after := #[], guard := none }) (v := ?_) rfl (by kernel_rfl) (by kernel_rfl) (by kernel_rfl) (fun _ _ _ h => h) (Or.inl ⟨by rfl, ?_⟩) (by assumption) ?_
      rotate_left
      · intro w hSw; (try dsimp only at hSw); go_simp; (try with_reducible rfl)
      (try simp only [Act.put, List.setIfInBounds_toArray, List.set_cons_zero, List.set_cons_succ])
      refine wpAnyH_take (i := 3) (oi := { dst := some 28, op := Op.load 29 (Operand.tmp 27), type := 29, pos := "l05_schema.go:74", after := #[{ on := 2, ground := Ground.data }], guard := none }) (v := ?_) rfl (by kernel_rfl) (by kernel_rfl) (by kernel_rfl) (fun _ _ _ h => h) (Or.inl ⟨by rfl, ?_⟩) (by assumption) ?_
      rotate_left
      · intro w hSw; (try dsimp only at hSw); go_simp; (try with_reducible rfl)
      (try simp only [Act.put, List.setIfInBounds_toArray, List.set_cons_zero, List.set_cons_succ])
      refine wpAnyH_take (i := 6) (oi := { dst := some 31, op := Op.fieldAddr 63 (Operand.tmp 1) 1, type := 0, pos := "l05_schema.go:74", after := #[], guard := none }) (v := ?_) rfl (by kernel_rfl) (by kernel_rfl) (by kernel_rfl) (fun _ _ _ h => h) (Or.inl ⟨by rfl, ?_⟩) (by assumption) ?_
      rotate_left
      · intro w hSw; (try dsimp only at hSw); go_simp; (try with_reducible rfl)
      (try simp only [Act.put, List.setIfInBounds_toArray, List.set_cons_zero, List.set_cons_succ])
      refine wpAnyH_take (i := 7) (oi := { dst := some 32, op := Op.load 29 (Operand.tmp 31), type := 29, pos := "l05_schema.go:74", after := #[{ on := 6, ground := Ground.data }], guard := none }) (v := ?_) rfl (by kernel_rfl) (by kernel_rfl) (by kernel_rfl) (fun _ _ _ h => h) (Or.inl ⟨by rfl, ?_⟩) (by assumption) ?_
      rotate_left
      · intro w hSw; (try dsimp only at hSw); go_simp; (try with_reducible rfl)
      (try simp only [Act.put, List.setIfInBounds_toArray, List.set_cons_zero, List.set_cons_succ])
      refine wpAnyH_take (i := 8) (oi := { dst := some 33, op := Op.call { callee := Callee.builtin Builtin.len, args := #[Operand.tmp 32], argTypes := #[29] }, type := 3, pos := "l05_schema.go:74", after := #[{ on := 7, ground := Ground.data }], guard := none }) (v := ?_) rfl (by kernel_rfl) (by kernel_rfl) (by kernel_rfl) (fun _ _ _ h => h) (Or.inl ⟨by rfl, ?_⟩) (by assumption) ?_
      rotate_left
      · intro w hSw; (try dsimp only at hSw); go_simp; (try with_reducible rfl)
      (try simp only [Act.put, List.setIfInBounds_toArray, List.set_cons_zero, List.set_cons_succ])
      refine wpAnyH_ready (rs := [4]) (by kernel_rfl) (by simp) ?_
      refine AllReadyH.cons (o := { dst := some 29, op := Op.call { callee := Callee.value (Operand.func 196), args := #[Operand.tmp 26, Operand.tmp 28], argTypes := #[29, 29] }, type := 29, pos := "l05_schema.go:74", after := #[{ on := 1, ground := Ground.data }, { on := 3, ground := Ground.data }], guard := none }) rfl (fun K hK => ?_) (AllReadyH.nil)
      go_simp
      refine (D4.out _ (by first | assumption | exact BD)).mono ?_
      rintro e m4 ⟨⟨xo, xc, rfl⟩, d4⟩
      clear hHeld
      refine hK.out _ _ ?_ (fun hHeld => ?_)
      · (try dsimp only)
        first | exact SK.out _ (by assumption) | exact SK.out _ BD
      clear hK K
      (try simp only [Act.put, List.setIfInBounds_toArray, List.set_cons_zero, List.set_cons_succ])
      refine wpAnyH_take (i := 5) (oi := { dst := some 30, op := Op.call { callee := Callee.builtin Builtin.len, args := #[Operand.tmp 29], argTypes := #[29] }, type := 3, pos := "l05_schema.go:74", after := #[{ on := 4, ground := Ground.data }], guard := none }) (v := ?_) rfl (by kernel_rfl) (by kernel_rfl) (by kernel_rfl) (fun _ _ _ h => h) (Or.inl ⟨by rfl, ?_⟩) (by assumption) ?_
      rotate_left
      · intro w hSw; (try dsimp only at hSw); go_simp; (try with_reducible rfl)
      (try simp only [Act.put, List.setIfInBounds_toArray, List.set_cons_zero, List.set_cons_succ])
      refine wpAnyH_take (i := 9) (oi := { dst := some 34, op := Op.binOp BinOp.lss 3 (Operand.tmp 30) (Operand.tmp 33) 3, type := 4, pos := "l05_schema.go:74", after := #[{ on := 5, ground := Ground.data }, { on := 8, ground := Ground.data }], guard := none }) (v := ?_) rfl (by kernel_rfl) (by kernel_rfl) (by kernel_rfl) (fun _ _ _ h => h) (Or.inl ⟨by rfl, ?_⟩) (by assumption) ?_
      rotate_left
      · intro w hSw; (try dsimp only at hSw); go_simp; (try with_reducible rfl)
      (try simp only [Act.put, List.setIfInBounds_toArray, List.set_cons_zero, List.set_cons_succ])
      refine wpAnyH_take (i := 10) (oi := { dst := some 35, op := Op.move (Operand.tmp 34), type := 4, pos := "l05_schema.go:74", after := #[{ on := 9, ground := Ground.data }, { on := 4, ground := Ground.chain }], guard := none }) (v := ?_) rfl (by kernel_rfl) (by kernel_rfl) (by kernel_rfl) (fun _ _ _ h => h) (Or.inl ⟨by rfl, ?_⟩) (by assumption) ?_
      rotate_left
      · intro w hSw; (try dsimp only at hSw); go_simp; (try with_reducible rfl)
      (try simp only [Act.put, List.setIfInBounds_toArray, List.set_cons_zero, List.set_cons_succ])
      refine wpAnyH_take (i := 11) (oi := { dst := some 36, op := Op.load 63 (Operand.tmp 1), type := 63, pos := "l05_schema.go:74", after := #[{ on := 10, ground := Ground.guard }], guard := some (10, false) }) (v := ?_) rfl (by kernel_rfl) (by kernel_rfl) (by kernel_rfl) (fun _ _ _ h => h) (Or.inl ⟨by rfl, ?_⟩) (by assumption) ?_
      rotate_left
      · intro w hSw; (try dsimp only at hSw); go_simp; (try with_reducible rfl)
      (try simp only [Act.put, List.setIfInBounds_toArray, List.set_cons_zero, List.set_cons_succ])
      refine wpAnyH_ready (rs := [12]) (by kernel_rfl) (by simp) ?_
      refine AllReadyH.cons (o := { dst := some 37, op := Op.call { callee := Callee.value (Operand.func 198), args := #[Operand.tmp 36], argTypes := #[63] }, type := 29, pos := "l05_schema.go:74", after := #[{ on := 11, ground := Ground.data }, { on := 10, ground := Ground.chain }, { on := 10, ground := Ground.guard }], guard := some (10, false) }) rfl (fun K hK => ?_) (AllReadyH.nil)
      go_simp
      refine (D5.out _ (by first | assumption | exact BD)).mono ?_
      rintro e m12 ⟨⟨yo, yc, rfl, sy⟩, d12⟩
      clear d4
      clear hHeld
      refine hK.out _ _ ?_ (fun hHeld => ?_)
      · (try dsimp only)
        first | exact SK.out _ (by assumption) | exact SK.out _ BD
      clear hK K
      (try simp only [Act.put, List.setIfInBounds_toArray, List.set_cons_zero, List.set_cons_succ])
      refine wpAnyH_ready (rs := [13]) (by kernel_rfl) (by simp) ?_
      refine AllReadyH.cons (o := { dst := some 38, op := Op.call { callee := Callee.value (Operand.func 197), args := #[Operand.tmp 37, Operand.const (Value.string { data := #[99, 108, 97, 115, 115] })], argTypes := #[29, 9] }, type := 4, pos := "l05_schema.go:74", after := #[{ on := 12, ground := Ground.data }, { on := 12, ground := Ground.chain }, { on := 10, ground := Ground.guard }], guard := some (10, false) }) rfl (fun K hK => ?_) (AllReadyH.nil)
      go_simp
      refine (D6.out m12 yo yc d12 sy).mono ?_
      rintro e m13 ⟨rfl, d13⟩
      clear d12 sy
      clear hHeld
      refine hK.out _ _ ?_ (fun hHeld => ?_)
      · (try dsimp only)
        first | exact SK.out _ (by assumption) | exact SK.out _ BD
      clear hK K
      (try simp only [Act.put, List.setIfInBounds_toArray, List.set_cons_zero, List.set_cons_succ])
      refine wpAnyH_take (i := 14) (oi := { dst := some 39, op := Op.pick (Operand.tmp 35) (Operand.const (Value.bool true)) (Operand.tmp 38), type := 4, pos := "l05_schema.go:74", after := #[{ on := 10, ground := Ground.data }, { on := 13, ground := Ground.data }], guard := none }) (v := ?_) rfl (by kernel_rfl) (by kernel_rfl) (by kernel_rfl) (fun _ _ _ h => h) (Or.inl ⟨by rfl, ?_⟩) (by assumption) ?_
      rotate_left
      · intro w hSw; (try dsimp only at hSw); go_simp; (try with_reducible rfl)
      (try simp only [Act.put, List.setIfInBounds_toArray, List.set_cons_zero, List.set_cons_succ])
      refine wpAnyH_done (by kernel_rfl) ?_ _
      clear hHeld
      go_wp2
      go_ret
      exact ⟨ret_bool (by rw [HE.out]; simp), HB4.out.trans (d13.mono HB4.out.size)⟩
end Go.Proofs.Ytlgafmgohinkbaa
