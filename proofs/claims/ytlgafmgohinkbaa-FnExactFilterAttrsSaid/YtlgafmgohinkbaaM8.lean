/- Merged texts: FaS, FaZ. -/
import Derived.Test.YtlgafmgohinkbaaM7
/- FilterAttrs: what the specification returns. -/
namespace Go.Proofs.Ytlgafmgohinkbaa
open Go.RowKit
attribute [local go_sem ↓] Go.wp_at_zero Go.wp_at_succ

theorem strs_take {w : World} {ao : Option Addr} {l : List ByteArray} (h : StrsAt w ao l) (k : Nat) : StrsAt w ao (l.take k) := by
  rcases h with h | ⟨b, off, e, h2, h3⟩
  · left; subst h; simp
  · exact .inr ⟨b, off, e, h2, fun i hi => by rw [List.getElem_take]; exact h3 i (by rw [List.length_take] at hi; omega)⟩
theorem strs_drop {w : World} {b off : Nat} {l : List ByteArray} (h : StrsAt w (some ⟨b, off, none⟩) l) (k : Nat) : StrsAt w (some ⟨b, off + k, none⟩) (l.drop k) := by
  rcases h with h | ⟨b', off', e, h2, h3⟩
  · left; subst h; simp
  · cases e
    refine .inr ⟨b, off + k, rfl, h2, fun i hi => ?_⟩
    rw [List.getElem_drop]
    have := h3 (k + i) (by rw [List.length_drop] at hi; omega)
    rw [← Nat.add_assoc] at this
    exact this
/-- all nodes of a right filter are right -/
theorem iter_nodes {f : List NodeT} {g : Nat → Option Nat} (hle : ∀ a b, g a = some b → a < b) (hg : ∀ a b, g a = some b → ∀ i (h : i < f.length), a ≤ i → i < b → nodeS f[i] = true) : ∀ (n k b : Nat), iterE g n (some k) = some b → k ≤ b ∧ ∀ i (h : i < f.length), k ≤ i → i < b → nodeS f[i] = true
  | 0, k, b, h => by
    simp only [iterE, Option.some.injEq] at h
    subst h
    exact ⟨Nat.le_refl _, fun i _ h1 h2 => by omega⟩
  | n + 1, k, b, h => by
    have h' : iterE g n (g k) = some b := h
    rcases c : g k with _ | q
    · rw [c, iterE_none] at h'; cases h'
    · rw [c] at h'
      obtain ⟨h1, h2⟩ := iter_nodes hle hg n q b h'
      have h3 := hle k q c
      refine ⟨by omega, fun i hi h4 h5 => ?_⟩
      by_cases h6 : i < q
      · exact hg k q c i hi h4 h6
      · exact h2 i hi (by omega) h5
theorem end_nodes (f : List NodeT) : ∀ (r k b : Nat), endF f r k = some b → k < b ∧ ∀ i (h : i < f.length), k ≤ i → i < b → nodeS f[i] = true
  | 0, _, _, h => by cases h
  | r + 1, k, b, h => by
    unfold endF at h
    split at h
    · rename_i hk
      split at h
      · rename_i hn
        obtain ⟨h1, h2⟩ := iter_nodes (fun a b h => (end_nodes f r a b h).1) (fun a b h => (end_nodes f r a b h).2) _ _ _ h
        refine ⟨by omega, fun i hi h3 h4 => ?_⟩
        by_cases e : i = k
        · subst e; exact hn
        · exact h2 i hi (by omega) h4
      · cases h
    · cases h
theorem filter_nodes {f : List NodeT} (h : filterB f = true) : ∀ i (h : i < f.length), nodeS f[i] = true := by
  unfold filterB at h
  simp only [Bool.and_eq_true, decide_eq_true_eq, beq_iff_eq] at h
  rcases c : endF f 5 0 with _ | q
  · rw [c] at h; simp only [optI] at h; omega
  · rw [c] at h; simp only [optI] at h
    intro i hi
    exact (end_nodes f 5 0 q c).2 i hi (Nat.zero_le _) (by omega)
theorem inner_empty {x : NodeT} (h : nodeS x = true) : x.2.1.toList.isEmpty = decide (x.1 = 1 ∨ x.1 = 2 ∨ x.1 = 3) := by
  have hnm : nmL x.2.1 = true → x.2.1.toList.isEmpty = false := fun hn => by
    unfold nmL at hn
    simp only [Bool.and_eq_true, decide_eq_true_eq] at hn
    have h1 : 1 ≤ x.2.1.size := hn.1.1.1
    cases he : x.2.1.toList.isEmpty with
    | false => rfl
    | true =>
      rw [List.isEmpty_iff] at he
      have h2 : x.2.1.toList.length = x.2.1.size := by rw [ByteArray.toList_eq]; rfl
      rw [he] at h2; simp at h2; omega
  unfold nodeS at h
  split at h
  · rename_i c
    simp only [Bool.and_eq_true] at h
    rw [h.1.1]; simp; omega
  · split at h
    · rename_i c
      simp only [Bool.and_eq_true] at h
      rw [h.1.1]; simp [c]
    · rename_i c1 c2
      have hd : decide (x.1 = 1 ∨ x.1 = 2 ∨ x.1 = 3) = false := by simp; omega
      rw [hd]
      split at h
      · simp only [Bool.and_eq_true] at h; exact hnm h.1.1
      · split at h
        · simp only [Bool.and_eq_true] at h; exact hnm h.1.1
        · cases h
theorem l04Inner_any (a0 : Int) (a1 a2 : ByteArray) (a3 : Int) (w : World) : Calls Try.prog 75 #[.agg #[.int .i64 a0, .string a1, .string a2, .int .i64 a3]] w fun e w' => e = .returned (.bool (decide (a0 = 1 ∨ a0 = 2 ∨ a0 = 3))) ∧ Below w.heap.size w w' := by
  by_cases h1 : a0 = 1
  · subst h1
    go_enter Try.func75, Try.ntmps75
    go_wp2
    go_ret
    exact ⟨ret_bool (by simp), more' (Below.refl _ _) _⟩
  have n1 : (a0 == 1) = false := by simp [h1]
  by_cases h2 : a0 = 2
  · subst h2
    go_enter Try.func75, Try.ntmps75
    go_wp2
    go_ret
    exact ⟨ret_bool (by simp), more' (Below.refl _ _) _⟩
  have n2 : (a0 == 2) = false := by simp [h2]
  have n3 : (a0 == 3) = decide (a0 = 1 ∨ a0 = 2 ∨ a0 = 3) := by rw [Bool.eq_iff_iff]; simp [h1, h2]
  generalize decide (a0 = 1 ∨ a0 = 2 ∨ a0 = 3) = q at *
  go_enter Try.func75, Try.ntmps75
  go_wp2
  go_ret
  exact ⟨ret_bool (by first | rfl | exact n3 | simp [n3]), more' (Below.refl _ _) _⟩
set_option maxRecDepth 100000 in
set_option maxHeartbeats 2000000 in
theorem SpecFilterAttrs_any {S : Bs} (v : Value) (f : List NodeT) (w : World) (hf : SlAt nodeE S w f v) (hz : f.length + szL nodeE f ≤ 1048576) :
    Calls Try.prog 16 #[v] w fun e w' => (∃ u, e = .returned u ∧ SlOwn strE (Fresh w w') w' (attrsR f) u) ∧ Below w.heap.size w w' := by
  have CF : Hid (∀ W : World, Below w.heap.size w W → Calls Try.prog 12 #[v] W fun e w' => e = .returned (.bool (filterB f)) ∧ Below W.heap.size W w') := Lib.hid (fun W b => SpecFilterRight_any v f W (hf.frame (Same.of_below' b)) hz)
  obtain ⟨ao, cap, rfl⟩ := hf.sl
  have HA := Lib.hid hf
  have hl : f.length ≤ 1048576 := by omega
  have HF : Hid (filterB f = false → attrsR f = []) := Lib.hid (fun h => by unfold attrsR; rw [h]; rfl)
  have HL : Hid (400 < f.length → attrsR f = []) := Lib.hid (fun h => by unfold attrsR filterB; rw [decide_eq_false (by omega)]; rfl)
  have HT : Hid (filterB f = true → attrsR f = putAll [] (namesF f) ∧ ∀ i (h : i < f.length), nodeS f[i] = true) := Lib.hid (fun h => ⟨by unfold attrsR; rw [if_pos h], filter_nodes h⟩)
  have HNL : Hid (∀ k, (namesF (f.take k)).length ≤ 1048576) := Lib.hid (fun k => Nat.le_trans (namesF_len f k) hl)
  have OZ : Hid ((w.alloc (.cells #[] 9)).ownsRow w.heap.size 9 1 (.slice (some ⟨w.heap.size, 0, none⟩) 0 0) 0 (ss [])) := Lib.hid ⟨rfl, .inr ⟨w.heap.size, 0, #[], rfl, Nat.le_refl _, heap_alloc_new w _, by simp, by unfold maxLen; simp, rfl, rfl⟩⟩
  clear hf hz
  by_cases h4 : 400 < f.length
  · have h4' : (400 : Int) < (f.length : Int) := by omega
    have HR := Lib.hid (HL.out h4)
    go_enter Try.func16, Try.ntmps16
    go_wp2
    go_ret
    rw [HR.out]
    exact ⟨⟨_, rfl, own_texts OZ.out⟩, more' (Below.refl _ _) _⟩
  have h4' : ¬ (400 : Int) < (f.length : Int) := by omega
  generalize filterB f = r at *
  go_enter Try.func16, Try.ntmps16
  go_wp2_with fail
  refine (CF.out _ (more' (Below.refl _ _) _)).mono ?_
  rintro e w1 ⟨rfl, hb⟩
  have b1 : Below w.heap.size w w1 := (more' (Below.refl _ _) _).trans (hb.mono (by simp))
  have O1 := Lib.hid (own_below OZ.out hb)
  clear hb OZ
  cases r
  · have HR := Lib.hid (HF.out (by rfl))
    go_wp2
    go_ret
    rw [HR.out]
    exact ⟨⟨_, rfl, own_texts O1.out⟩, b1⟩
  obtain ⟨hR, hn⟩ := HT.out (by rfl)
  have HR := Lib.hid hR
  have HN := Lib.hid hn
  clear hR hn HF HT HL CF
  go_wp2
  go_loopw [3, 4] (fun v i wr => ∃ k : Nat, k ≤ f.length ∧ i = .int .i64 k ∧ wr.ownsRow w.heap.size 9 1 v (putAll [] (namesF (f.take k))).length (ss (putAll [] (namesF (f.take k)))) ∧ (∃ g n c, v = .slice (some ⟨g, 0, none⟩) n c) ∧ Below w.heap.size w wr) (fun _ i _ => f.length - (intOf i).toNat)
  case atStart => exact ⟨0, Nat.zero_le _, rfl, O1.out, ⟨_, _, _, rfl⟩, b1⟩
  case round =>
    clear b1 O1
    obtain ⟨k, hk, rfl, hown, ⟨g, n, cap2, rfl⟩, hbel⟩ := hrel
    have HO := Lib.hid hown; clear hown
    have hn0 : n = (putAll [] (namesF (f.take k))).length := by
      rcases HO.out.2 with ⟨e, _⟩ | ⟨_, _, _, e, _⟩
      · cases e
      · injection e
    subst hn0
    by_cases hlt : k < f.length
    · obtain ⟨b, off, a0, a1, a2, a3, rfl, _, hb0, hx, ⟨hc0, hc1, hc2, hc3⟩, _⟩ := node_row (HA.out.frame (Same.of_below' hbel)) hlt
      have HT : Hid (namesF (f.take (k + 1)) = namesF (f.take k) ++ (if a1.toList.isEmpty then [] else [a1])) := Lib.hid (by rw [namesF_take f k hlt, hx])
      have HIe : Hid (a1.toList.isEmpty = decide (a0 = 1 ∨ a0 = 2 ∨ a0 = 3)) := Lib.hid (by have := inner_empty (HN.out k hlt); rw [hx] at this; exact this)
      have hpl : Hid ((putAll [] (namesF (f.take k))).length ≤ 10000000) := Lib.hid (by have h1 := HNL.out k; have h2 := putAll_len (namesF (f.take k)) []; simp at h2; omega)
      have HPs : Hid (a1.toList.isEmpty = false → putAll [] (namesF (f.take (k + 1))) = putS (putAll [] (namesF (f.take k))) a1) := Lib.hid (fun h => by rw [HT.out, h]; exact putAll_snoc _ _ _)
      have HPe : Hid (a1.toList.isEmpty = true → putAll [] (namesF (f.take (k + 1))) = putAll [] (namesF (f.take k))) := Lib.hid (fun h => by rw [HT.out, h]; simp)
      clear hx HT
      generalize putAll [] (namesF (f.take k)) = l at *
      have g1 : (0 : Int) ≤ (k : Int) := by omega
      have g2 : (k : Int) < (f.length : Int) := by omega
      rw [HIe.out] at HPs HPe
      have CI0 : Hid (∀ W : World, Calls Try.prog 75 #[.agg #[.int .i64 a0, .string a1, .string a2, .int .i64 a3]] W fun e w' => e = .returned (.bool (decide (a0 = 1 ∨ a0 = 2 ∨ a0 = 3))) ∧ Below W.heap.size W w') := Lib.hid (fun W => l04Inner_any a0 a1 a2 a3 W)
      generalize decide (a0 = 1 ∨ a0 = 2 ∨ a0 = 3) = q at *
      clear HIe
      go_wp2_with fail
      refine (CI0.out _).mono ?_
      rintro e w2 ⟨rfl, hb2⟩
      have B2 := hbel.trans (hb2.mono hbel.size)
      have O2 := Lib.hid (own_below HO.out hb2)
      have C1 : Hid (∀ W : World, Below w2.heap.size w2 W → W.cell? ⟨b, off + k * 4 + 1, none⟩ = some (.string a1)) := Lib.hid (fun W h => ((hb2.trans (h.mono hb2.size)).cell (p := ⟨b, off + k * 4 + 1, none⟩) hb0).trans hc1)
      clear hb2 HO hc0 hc1 hc2 hc3 hbel
      cases q
      rotate_left
      · have HE := Lib.hid (HPe.out (by rfl))
        go_wp2
        go_roundw
        case rel => exact ⟨k + 1, by omega, by go_num, by rw [HE.out]; exact O2.out, ⟨_, _, _, rfl⟩, B2⟩
        case measure => simp [intOf]; omega
      have HE := Lib.hid (HPs.out (by rfl))
      clear HPs HPe CI0
      have HS : Hid (StrsAt w2 (some ⟨g, 0, none⟩) l) := Lib.hid (own_strs O2.out)
      have hB : w.heap.size ≤ w2.heap.size := B2.size
      have hpl' := hpl.out
      have hcap : l.length ≤ cap2 := by
        rcases O2.out.2 with ⟨e, _⟩ | ⟨_, _, _, e, _, _, hc, _⟩
        · cases e
        · injection e with _ _ e; omega
      have HTail : Hid (∀ j, kOf l a1 = j → ¬ l[j]? = some a1 → putS l a1 = l.take j ++ a1 :: l.drop j) := Lib.hid (fun j e h => by unfold putS; rw [e, if_neg h])
      have HSame : Hid (∀ j, kOf l a1 = j → l[j]? = some a1 → putS l a1 = l) := Lib.hid (fun j e h => by unfold putS; rw [e, if_pos h])
      go_wp2
      go_loopw [5] (fun i wr => ∃ j : Nat, j ≤ l.length ∧ i = .int .i64 j ∧ (∀ q (h : q < l.length), q < j → strLt l[q] a1 = true) ∧ Below w2.heap.size w2 wr) (fun i _ => l.length - (intOf i).toNat)
      case atStart => exact ⟨0, Nat.zero_le _, rfl, fun q _ h => absurd h (Nat.not_lt_zero _), Below.refl _ _⟩
      case round =>
        obtain ⟨j, hj, rfl, ha, hbr⟩ := hrel
        have hbr1 := hbr.drew
        have hbr2 := hbr1.drew
        have Ha := Lib.hid ha; clear ha
        have HTk : Hid ((l.take j).length = j) := Lib.hid (by rw [List.length_take]; omega)
        by_cases hlj : j < l.length
        · obtain ⟨b9, off9, e, hb9, hc9⟩ := HS.out.at hlj
          cases e
          rw [Nat.zero_add] at hc9
          have g3 : (0 : Int) ≤ (j : Int) := by omega
          have g4 : (j : Int) < (l.length : Int) := by omega
          have HN : Hid (strLt l[j] a1 = true → ∀ q (h : q < l.length), q < j + 1 → strLt l[q] a1 = true) := Lib.hid (fun hn q h hq => by
            by_cases e : q = j
            · subst e; exact hn
            · exact Ha.out q h (by omega))
          have HKk : Hid (strLt l[j] a1 = false → kOf l a1 = j) := Lib.hid (fun h => kOf_is hj Ha.out (fun _ => h))
          have HGet : Hid (l[j]? = some l[j]) := Lib.hid (List.getElem?_eq_getElem hlj)
          have HLt : Hid (strLt l[j] a1 = Op.bytesLess l[j].toList a1.toList) := Lib.hid rfl
          generalize l[j] = A at *
          have SK : Hid (∀ Z : World, Below w2.heap.size w2 Z → (Below w2.heap.size w2 Z ∧ Z.cell? ⟨g, j, none⟩ = some (.string A) ∧ Z.cell? ⟨b, off + k * 4 + 1, none⟩ = some (.string a1))) :=
            Lib.hid (fun Z h => ⟨h, (h.cell (p := ⟨g, j, none⟩) hb9).trans hc9, C1.out Z h⟩)
          clear hc9
          have hbe : (A.toList == a1.toList) = decide (A = a1) := by rw [Bool.eq_iff_iff, decide_eq_true_eq, beq_iff_eq, ByteArray.toList_eq, ByteArray.toList_eq]; exact ⟨fun h => ByteArray.ext (Array.toList_inj.mp h), fun h => by rw [h]⟩
          cases hs : strLt A a1
          · have hless : Op.bytesLess A.toList a1.toList = false := HLt.out.symm.trans hs
            by_cases hq : A = a1
            · rw [decide_eq_true hq] at hbe
              have HP : Hid (putS l a1 = l) := Lib.hid (HSame.out j (HKk.out hs) (by rw [HGet.out, hq]))
              clear hq
              go_wp2_with fail
              refine wp_region_held_drew (S := (fun Z => Below w2.heap.size w2 Z ∧ Z.cell? ⟨g, j, none⟩ = some (.string A) ∧ Z.cell? ⟨b, off + k * 4 + 1, none⟩ = some (.string a1))) (by kernel_rfl) ?_ (fun hHeld => ?_)
              · (try dsimp only)
                exact SK.out _ (by assumption)
              refine wpAnyH_take (i := 0) (oi := { dst := some 28, op := Op.move (Operand.tmp 5), type := 3, pos := "l04_filter.go:251", after := #[], guard := none }) (v := ?_) rfl (by kernel_rfl) (by kernel_rfl) (by kernel_rfl) (fun _ _ _ h => h) (Or.inl ⟨by rfl, ?_⟩) (by assumption) ?_
              rotate_left
              · intro w hSw; (try dsimp only at hSw); go_simp; (try with_reducible rfl)
              (try simp only [Act.put, List.setIfInBounds_toArray, List.set_cons_zero, List.set_cons_succ])
              refine wpAnyH_take (i := 1) (oi := { dst := some 29, op := Op.move (Operand.tmp 3), type := 29, pos := "l04_filter.go:251", after := #[], guard := none }) (v := ?_) rfl (by kernel_rfl) (by kernel_rfl) (by kernel_rfl) (fun _ _ _ h => h) (Or.inl ⟨by rfl, ?_⟩) (by assumption) ?_
              rotate_left
              · intro w hSw; (try dsimp only at hSw); go_simp; (try with_reducible rfl)
              (try simp only [Act.put, List.setIfInBounds_toArray, List.set_cons_zero, List.set_cons_succ])
              refine wpAnyH_take (i := 2) (oi := { dst := some 30, op := Op.call { callee := Callee.builtin Builtin.len, args := #[Operand.tmp 29], argTypes := #[29] }, type := 3, pos := "l04_filter.go:251", after := #[{ on := 1, ground := Ground.data }], guard := none }) (v := ?_) rfl (by kernel_rfl) (by kernel_rfl) (by kernel_rfl) (fun _ _ _ h => h) (Or.inl ⟨by rfl, ?_⟩) (by assumption) ?_
              rotate_left
              · intro w hSw; (try dsimp only at hSw); go_simp; (try with_reducible rfl)
              (try simp only [Act.put, List.setIfInBounds_toArray, List.set_cons_zero, List.set_cons_succ])
              refine wpAnyH_take (i := 3) (oi := { dst := some 31, op := Op.binOp BinOp.lss 3 (Operand.tmp 28) (Operand.tmp 30) 3, type := 4, pos := "l04_filter.go:251", after := #[{ on := 0, ground := Ground.data }, { on := 2, ground := Ground.data }], guard := none }) (v := ?_) rfl (by kernel_rfl) (by kernel_rfl) (by kernel_rfl) (fun _ _ _ h => h) (Or.inl ⟨by rfl, ?_⟩) (by assumption) ?_
              rotate_left
              · intro w hSw; (try dsimp only at hSw); go_simp; (try with_reducible rfl)
              (try simp only [Act.put, List.setIfInBounds_toArray, List.set_cons_zero, List.set_cons_succ])
              refine wpAnyH_take (i := 4) (oi := { dst := some 32, op := Op.move (Operand.tmp 31), type := 4, pos := "l04_filter.go:251", after := #[{ on := 3, ground := Ground.data }], guard := none }) (v := ?_) rfl (by kernel_rfl) (by kernel_rfl) (by kernel_rfl) (fun _ _ _ h => h) (Or.inl ⟨by rfl, ?_⟩) (by assumption) ?_
              rotate_left
              · intro w hSw; (try dsimp only at hSw); go_simp; (try with_reducible rfl)
              (try simp only [Act.put, List.setIfInBounds_toArray, List.set_cons_zero, List.set_cons_succ])
              refine wpAnyH_take (i := 5) (oi := { dst := some 33, op := Op.move (Operand.tmp 3), type := 29, pos := "l04_filter.go:251", after := #[{ on := 4, ground := Ground.guard }], guard := some (4, true) }) (v := ?_) rfl (by kernel_rfl) (by kernel_rfl) (by kernel_rfl) (fun _ _ _ h => h) (Or.inl ⟨by rfl, ?_⟩) (by assumption) ?_
              rotate_left
              · intro w hSw; (try dsimp only at hSw); go_simp; (try with_reducible rfl)
              (try simp only [Act.put, List.setIfInBounds_toArray, List.set_cons_zero, List.set_cons_succ])
              refine wpAnyH_take (i := 6) (oi := { dst := some 34, op := Op.move (Operand.tmp 5), type := 3, pos := "l04_filter.go:251", after := #[{ on := 4, ground := Ground.guard }], guard := some (4, true) }) (v := ?_) rfl (by kernel_rfl) (by kernel_rfl) (by kernel_rfl) (fun _ _ _ h => h) (Or.inl ⟨by rfl, ?_⟩) (by assumption) ?_
              rotate_left
              · intro w hSw; (try dsimp only at hSw); go_simp; (try with_reducible rfl)
              (try simp only [Act.put, List.setIfInBounds_toArray, List.set_cons_zero, List.set_cons_succ])
              refine wpAnyH_take (i := 7) (oi := { dst := some 35, op := Op.indexAddr 29 (Operand.tmp 33) (Operand.tmp 34), type := 0, pos := "l04_filter.go:251", after := #[{ on := 5, ground := Ground.data }, { on := 6, ground := Ground.data }, { on := 4, ground := Ground.guard }], guard := some (4, true) }) (v := ?_) rfl (by kernel_rfl) (by kernel_rfl) (by kernel_rfl) (fun _ _ _ h => h) (Or.inl ⟨by rfl, ?_⟩) (by assumption) ?_
              rotate_left
              · intro w hSw; (try dsimp only at hSw); go_simp; (try with_reducible rfl)
              (try simp only [Act.put, List.setIfInBounds_toArray, List.set_cons_zero, List.set_cons_succ])
              refine wpAnyH_take (i := 8) (oi := { dst := some 36, op := Op.load 9 (Operand.tmp 35), type := 9, pos := "l04_filter.go:251", after := #[{ on := 7, ground := Ground.data }, { on := 4, ground := Ground.guard }], guard := some (4, true) }) (v := ?_) rfl (by kernel_rfl) (by kernel_rfl) (by kernel_rfl) (fun _ _ _ h => h) (Or.inl ⟨by rfl, ?_⟩) (by assumption) ?_
              rotate_left
              · intro w hSw; (try dsimp only at hSw); go_simp; (try with_reducible rfl)
              (try simp only [Act.put, List.setIfInBounds_toArray, List.set_cons_zero, List.set_cons_succ])
              refine wpAnyH_take (i := 9) (oi := { dst := some 37, op := Op.move (Operand.tmp 0), type := 25, pos := "l04_filter.go:251", after := #[{ on := 4, ground := Ground.guard }], guard := some (4, true) }) (v := ?_) rfl (by kernel_rfl) (by kernel_rfl) (by kernel_rfl) (fun _ _ _ h => h) (Or.inl ⟨by rfl, ?_⟩) (by assumption) ?_
              rotate_left
              · intro w hSw; (try dsimp only at hSw); go_simp; (try with_reducible rfl)
              (try simp only [Act.put, List.setIfInBounds_toArray, List.set_cons_zero, List.set_cons_succ])
              refine wpAnyH_take (i := 10) (oi := { dst := some 38, op := Op.move (Operand.tmp 4), type := 3, pos := "l04_filter.go:251", after := #[{ on := 4, ground := Ground.guard }], guard := some (4, true) }) (v := ?_) rfl (by kernel_rfl) (by kernel_rfl) (by kernel_rfl) (fun _ _ _ h => h) (Or.inl ⟨by rfl, ?_⟩) (by assumption) ?_
              rotate_left
              · intro w hSw; (try dsimp only at hSw); go_simp; (try with_reducible rfl)
              (try simp only [Act.put, List.setIfInBounds_toArray, List.set_cons_zero, List.set_cons_succ])
              refine wpAnyH_take (i := 11) (oi := { dst := some 39, op := Op.indexAddr 25 (Operand.tmp 37) (Operand.tmp 38), type := 0, pos := "l04_filter.go:251", after := #[{ on := 9, ground := Ground.data }, { on := 10, ground := Ground.data }, { on := 4, ground := Ground.guard }], guard := some (4, true) }) (v := ?_) rfl (by kernel_rfl) (by kernel_rfl) (by kernel_rfl) (fun _ _ _ h => h) (Or.inl ⟨by rfl, ?_⟩) (by assumption) ?_
              rotate_left
              · intro w hSw; (try dsimp only at hSw); go_simp; (try with_reducible rfl)
              (try simp only [Act.put, List.setIfInBounds_toArray, List.set_cons_zero, List.set_cons_succ])
              refine wpAnyH_take (i := 12) (oi := { dst := some 40, op := Op.fieldAddr 104 (Operand.tmp 39) 1, type := 0, pos := "l04_filter.go:251", after := #[{ on := 11, ground := Ground.data }, { on := 4, ground := Ground.guard }], guard := some (4, true) }) (v := ?_) rfl (by kernel_rfl) (by kernel_rfl) (by kernel_rfl) (fun _ _ _ h => h) (Or.inl ⟨by rfl, ?_⟩) (by assumption) ?_
              rotate_left
              · intro w hSw; (try dsimp only at hSw); go_simp; (try with_reducible rfl)
              (try simp only [Act.put, List.setIfInBounds_toArray, List.set_cons_zero, List.set_cons_succ])
              refine wpAnyH_take (i := 13) (oi := { dst := some 41, op := Op.load 9 (Operand.tmp 40), type := 9, pos := "l04_filter.go:251", after := #[{ on := 12, ground := Ground.data }, { on := 4, ground := Ground.guard }], guard := some (4, true) }) (v := ?_) rfl (by kernel_rfl) (by kernel_rfl) (by kernel_rfl) (fun _ _ _ h => h) (Or.inl ⟨by rfl, ?_⟩) (by assumption) ?_
              rotate_left
              · intro w hSw; (try dsimp only at hSw); go_simp; (try with_reducible rfl)
              (try simp only [Act.put, List.setIfInBounds_toArray, List.set_cons_zero, List.set_cons_succ])
              refine wpAnyH_take (i := 14) (oi := { dst := some 42, op := Op.binOp BinOp.lss 9 (Operand.tmp 36) (Operand.tmp 41) 9, type := 4, pos := "l04_filter.go:251", after := #[{ on := 8, ground := Ground.data }, { on := 13, ground := Ground.data }, { on := 4, ground := Ground.guard }], guard := some (4, true) }) (v := ?_) rfl (by kernel_rfl) (by kernel_rfl) (by kernel_rfl) (fun _ _ _ h => h) (Or.inl ⟨by rfl, ?_⟩) (by assumption) ?_
              rotate_left
              · intro w hSw; (try dsimp only at hSw); go_simp; (try with_reducible rfl)
              (try simp only [Act.put, List.setIfInBounds_toArray, List.set_cons_zero, List.set_cons_succ])
              refine wpAnyH_take (i := 15) (oi := { dst := some 43, op := Op.pick (Operand.tmp 32) (Operand.tmp 42) (Operand.const (Value.bool false)), type := 4, pos := "l04_filter.go:251", after := #[{ on := 4, ground := Ground.data }, { on := 14, ground := Ground.data }], guard := none }) (v := ?_) rfl (by kernel_rfl) (by kernel_rfl) (by kernel_rfl) (fun _ _ _ h => h) (Or.inl ⟨by rfl, ?_⟩) (by assumption) ?_
              rotate_left
              · intro w hSw; (try dsimp only at hSw); go_simp; (try with_reducible rfl)
              (try simp only [Act.put, List.setIfInBounds_toArray, List.set_cons_zero, List.set_cons_succ])
              refine wpAnyH_done (by kernel_rfl) ?_ _
              clear hHeld
              go_wp2_with fail
              refine wp_region_held_drew (S := (fun Z => Below w2.heap.size w2 Z ∧ Z.cell? ⟨g, j, none⟩ = some (.string A) ∧ Z.cell? ⟨b, off + k * 4 + 1, none⟩ = some (.string a1))) (by kernel_rfl) ?_ (fun hHeld => ?_)
              · (try dsimp only)
                exact SK.out _ (by assumption)
              refine wpAnyH_take (i := 0) (oi := { dst := some 46, op := Op.move (Operand.tmp 5), type := 3, pos := "l04_filter.go:254", after := #[], guard := none }) (v := ?_) rfl (by kernel_rfl) (by kernel_rfl) (by kernel_rfl) (fun _ _ _ h => h) (Or.inl ⟨by rfl, ?_⟩) (by assumption) ?_
              rotate_left
              · intro w hSw; (try dsimp only at hSw); go_simp; (try with_reducible rfl)
              (try simp only [Act.put, List.setIfInBounds_toArray, List.set_cons_zero, List.set_cons_succ])
              refine wpAnyH_take (i := 1) (oi := { dst := some 47, op := Op.move (Operand.tmp 3), type := 29, pos := "l04_filter.go:254", after := #[], guard := none }) (v := ?_) rfl (by kernel_rfl) (by kernel_rfl) (by kernel_rfl) (fun _ _ _ h => h) (Or.inl ⟨by rfl, ?_⟩) (by assumption) ?_
              rotate_left
              · intro w hSw; (try dsimp only at hSw); go_simp; (try with_reducible rfl)
              (try simp only [Act.put, List.setIfInBounds_toArray, List.set_cons_zero, List.set_cons_succ])
              refine wpAnyH_take (i := 2) (oi := { dst := some 48, op := Op.call { callee := Callee.builtin Builtin.len, args := #[Operand.tmp 47], argTypes := #[29] }, type := 3, pos := "l04_filter.go:254", after := #[{ on := 1, ground := Ground.data }], guard := none }) (v := ?_) rfl (by kernel_rfl) (by kernel_rfl) (by kernel_rfl) (fun _ _ _ h => h) (Or.inl ⟨by rfl, ?_⟩) (by assumption) ?_
              rotate_left
              · intro w hSw; (try dsimp only at hSw); go_simp; (try with_reducible rfl)
              (try simp only [Act.put, List.setIfInBounds_toArray, List.set_cons_zero, List.set_cons_succ])
              refine wpAnyH_take (i := 3) (oi := { dst := some 49, op := Op.binOp BinOp.lss 3 (Operand.tmp 46) (Operand.tmp 48) 3, type := 4, pos := "l04_filter.go:254", after := #[{ on := 0, ground := Ground.data }, { on := 2, ground := Ground.data }], guard := none }) (v := ?_) rfl (by kernel_rfl) (by kernel_rfl) (by kernel_rfl) (fun _ _ _ h => h) (Or.inl ⟨by rfl, ?_⟩) (by assumption) ?_
              rotate_left
              · intro w hSw; (try dsimp only at hSw); go_simp; (try with_reducible rfl)
              (try simp only [Act.put, List.setIfInBounds_toArray, List.set_cons_zero, List.set_cons_succ])
              refine wpAnyH_take (i := 4) (oi := { dst := some 50, op := Op.move (Operand.tmp 49), type := 4, pos := "l04_filter.go:254", after := #[{ on := 3, ground := Ground.data }], guard := none }) (v := ?_) rfl (by kernel_rfl) (by kernel_rfl) (by kernel_rfl) (fun _ _ _ h => h) (Or.inl ⟨by rfl, ?_⟩) (by assumption) ?_
              rotate_left
              · intro w hSw; (try dsimp only at hSw); go_simp; (try with_reducible rfl)
              (try simp only [Act.put, List.setIfInBounds_toArray, List.set_cons_zero, List.set_cons_succ])
              refine wpAnyH_take (i := 5) (oi := { dst := some 51, op := Op.move (Operand.tmp 3), type := 29, pos := "l04_filter.go:254", after := #[{ on := 4, ground := Ground.guard }], guard := some (4, true) }) (v := ?_) rfl (by kernel_rfl) (by kernel_rfl) (by kernel_rfl) (fun _ _ _ h => h) (Or.inl ⟨by rfl, ?_⟩) (by assumption) ?_
              rotate_left
              · intro w hSw; (try dsimp only at hSw); go_simp; (try with_reducible rfl)
              (try simp only [Act.put, List.setIfInBounds_toArray, List.set_cons_zero, List.set_cons_succ])
              refine wpAnyH_take (i := 6) (oi := { dst := some 52, op := Op.move (Operand.tmp 5), type := 3, pos := "l04_filter.go:254", after := #[{ on := 4, ground := Ground.guard }], guard := some (4, true) }) (v := ?_) rfl (by kernel_rfl) (by kernel_rfl) (by kernel_rfl) (fun _ _ _ h => h) (Or.inl ⟨by rfl, ?_⟩) (by assumption) ?_
              rotate_left
              · intro w hSw; (try dsimp only at hSw); go_simp; (try with_reducible rfl)
              (try simp only [Act.put, List.setIfInBounds_toArray, List.set_cons_zero, List.set_cons_succ])
              refine wpAnyH_take (i := 7) (oi := { dst := some 53, op := Op.indexAddr 29 (Operand.tmp 51) (Operand.tmp 52), type := 0, pos := "l04_filter.go:254", after := #[{ on := 5, ground := Ground.data }, { on := 6, ground := Ground.data }, { on := 4, ground := Ground.guard }], guard := some (4, true) }) (v := ?_) rfl (by kernel_rfl) (by kernel_rfl) (by kernel_rfl) (fun _ _ _ h => h) (Or.inl ⟨by rfl, ?_⟩) (by assumption) ?_
              rotate_left
              · intro w hSw; (try dsimp only at hSw); go_simp; (try with_reducible rfl)
              (try simp only [Act.put, List.setIfInBounds_toArray, List.set_cons_zero, List.set_cons_succ])
              refine wpAnyH_take (i := 8) (oi := { dst := some 54, op := Op.load 9 (Operand.tmp 53), type := 9, pos := "l04_filter.go:254", after := #[{ on := 7, ground := Ground.data }, { on := 4, ground := Ground.guard }], guard := some (4, true) }) (v := ?_) rfl (by kernel_rfl) (by kernel_rfl) (by kernel_rfl) (fun _ _ _ h => h) (Or.inl ⟨by rfl, ?_⟩) (by assumption) ?_
              rotate_left
              · intro w hSw; (try dsimp only at hSw); go_simp; (try with_reducible rfl)
              (try simp only [Act.put, List.setIfInBounds_toArray, List.set_cons_zero, List.set_cons_succ])
              refine wpAnyH_take (i := 9) (oi := { dst := some 55, op := Op.move (Operand.tmp 0), type := 25, pos := "l04_filter.go:254", after := #[{ on := 4, ground := Ground.guard }], guard := some (4, true) }) (v := ?_) rfl (by kernel_rfl) (by kernel_rfl) (by kernel_rfl) (fun _ _ _ h => h) (Or.inl ⟨by rfl, ?_⟩) (by assumption) ?_
              rotate_left
              · intro w hSw; (try dsimp only at hSw); go_simp; (try with_reducible rfl)
              (try simp only [Act.put, List.setIfInBounds_toArray, List.set_cons_zero, List.set_cons_succ])
              refine wpAnyH_take (i := 10) (oi := { dst := some 56, op := Op.move (Operand.tmp 4), type := 3, pos := "l04_filter.go:254", after := #[{ on := 4, ground := Ground.guard }], guard := some (4, true) }) (v := ?_) rfl (by kernel_rfl) (by kernel_rfl) (by kernel_rfl) (fun _ _ _ h => h) (Or.inl ⟨by rfl, ?_⟩) (by assumption) ?_
              rotate_left
              · intro w hSw; (try dsimp only at hSw); go_simp; (try with_reducible rfl)
              (try simp only [Act.put, List.setIfInBounds_toArray, List.set_cons_zero, List.set_cons_succ])
              refine wpAnyH_take (i := 11) (oi := { dst := some 57, op := Op.indexAddr 25 (Operand.tmp 55) (Operand.tmp 56), type := 0, pos := "l04_filter.go:254", after := #[{ on := 9, ground := Ground.data }, { on := 10, ground := Ground.data }, { on := 4, ground := Ground.guard }], guard := some (4, true) }) (v := ?_) rfl (by kernel_rfl) (by kernel_rfl) (by kernel_rfl) (fun _ _ _ h => h) (Or.inl ⟨by rfl, ?_⟩) (by assumption) ?_
              rotate_left
              · intro w hSw; (try dsimp only at hSw); go_simp; (try with_reducible rfl)
              (try simp only [Act.put, List.setIfInBounds_toArray, List.set_cons_zero, List.set_cons_succ])
              refine wpAnyH_take (i := 12) (oi := { dst := some 58, op := Op.fieldAddr 104 (Operand.tmp 57) 1, type := 0, pos := "l04_filter.go:254", after := #[{ on := 11, ground := Ground.data }, { on := 4, ground := Ground.guard }], guard := some (4, true) }) (v := ?_) rfl (by kernel_rfl) (by kernel_rfl) (by kernel_rfl) (fun _ _ _ h => h) (Or.inl ⟨by rfl, ?_⟩) (by assumption) ?_
              rotate_left
              · intro w hSw; (try dsimp only at hSw); go_simp; (try with_reducible rfl)
              (try simp only [Act.put, List.setIfInBounds_toArray, List.set_cons_zero, List.set_cons_succ])
              refine wpAnyH_take (i := 13) (oi := { dst := some 59, op := Op.load 9 (Operand.tmp 58), type := 9, pos := "l04_filter.go:254", after := #[{ on := 12, ground := Ground.data }, { on := 4, ground := Ground.guard }], guard := some (4, true) }) (v := ?_) rfl (by kernel_rfl) (by kernel_rfl) (by kernel_rfl) (fun _ _ _ h => h) (Or.inl ⟨by rfl, ?_⟩) (by assumption) ?_
              rotate_left
              · intro w hSw; (try dsimp only at hSw); go_simp; (try with_reducible rfl)
              (try simp only [Act.put, List.setIfInBounds_toArray, List.set_cons_zero, List.set_cons_succ])
              refine wpAnyH_take (i := 14) (oi := { dst := some 60, op := Op.binOp BinOp.eql 9 (Operand.tmp 54) (Operand.tmp 59) 9, type := 4, pos := "l04_filter.go:254", after := #[{ on := 8, ground := Ground.data }, { on := 13, ground := Ground.data }, { on := 4, ground := Ground.guard }], guard := some (4, true) }) (v := ?_) rfl (by kernel_rfl) (by kernel_rfl) (by kernel_rfl) (fun _ _ _ h => h) (Or.inl ⟨by rfl, ?_⟩) (by assumption) ?_
              rotate_left
              · intro w hSw; (try dsimp only at hSw); go_simp; (try with_reducible rfl)
              (try simp only [Act.put, List.setIfInBounds_toArray, List.set_cons_zero, List.set_cons_succ])
              refine wpAnyH_take (i := 15) (oi := { dst := some 61, op := Op.pick (Operand.tmp 50) (Operand.tmp 60) (Operand.const (Value.bool false)), type := 4, pos := "l04_filter.go:254", after := #[{ on := 4, ground := Ground.data }, { on := 14, ground := Ground.data }], guard := none }) (v := ?_) rfl (by kernel_rfl) (by kernel_rfl) (by kernel_rfl) (fun _ _ _ h => h) (Or.inl ⟨by rfl, ?_⟩) (by assumption) ?_
              rotate_left
              · intro w hSw; (try dsimp only at hSw); go_simp; (try with_reducible rfl)
              (try simp only [Act.put, List.setIfInBounds_toArray, List.set_cons_zero, List.set_cons_succ])
              refine wpAnyH_done (by kernel_rfl) ?_ _
              clear hHeld
              go_wp2
              go_roundw
              case rel => exact ⟨k + 1, by omega, by go_num, by rw [HE.out, HP.out]; exact own_below O2.out hbr2, ⟨_, _, _, rfl⟩, B2.trans (hbr2.mono hB)⟩
              case measure => simp [intOf]; omega
            · rw [decide_eq_false hq] at hbe
              have HP : Hid (putS l a1 = l.take j ++ a1 :: l.drop j) := Lib.hid (HTail.out j (HKk.out hs) (by rw [HGet.out]; exact fun e => hq (Option.some.inj e)))
              clear hq
              go_wp2_with fail
              refine wp_region_held_drew (S := (fun Z => Below w2.heap.size w2 Z ∧ Z.cell? ⟨g, j, none⟩ = some (.string A) ∧ Z.cell? ⟨b, off + k * 4 + 1, none⟩ = some (.string a1))) (by kernel_rfl) ?_ (fun hHeld => ?_)
              · (try dsimp only)
                exact SK.out _ (by assumption)
              refine wpAnyH_take (i := 0) (oi := { dst := some 28, op := Op.move (Operand.tmp 5), type := 3, pos := "l04_filter.go:251", after := #[], guard := none }) (v := ?_) rfl (by kernel_rfl) (by kernel_rfl) (by kernel_rfl) (fun _ _ _ h => h) (Or.inl ⟨by rfl, ?_⟩) (by assumption) ?_
              rotate_left
              · intro w hSw; (try dsimp only at hSw); go_simp; (try with_reducible rfl)
              (try simp only [Act.put, List.setIfInBounds_toArray, List.set_cons_zero, List.set_cons_succ])
              refine wpAnyH_take (i := 1) (oi := { dst := some 29, op := Op.move (Operand.tmp 3), type := 29, pos := "l04_filter.go:251", after := #[], guard := none }) (v := ?_) rfl (by kernel_rfl) (by kernel_rfl) (by kernel_rfl) (fun _ _ _ h => h) (Or.inl ⟨by rfl, ?_⟩) (by assumption) ?_
              rotate_left
              · intro w hSw; (try dsimp only at hSw); go_simp; (try with_reducible rfl)
              (try simp only [Act.put, List.setIfInBounds_toArray, List.set_cons_zero, List.set_cons_succ])
              refine wpAnyH_take (i := 2) (oi := { dst := some 30, op := Op.call { callee := Callee.builtin Builtin.len, args := #[Operand.tmp 29], argTypes := #[29] }, type := 3, pos := "l04_filter.go:251", after := #[{ on := 1, ground := Ground.data }], guard := none }) (v := ?_) rfl (by kernel_rfl) (by kernel_rfl) (by kernel_rfl) (fun _ _ _ h => h) (Or.inl ⟨by rfl, ?_⟩) (by assumption) ?_
              rotate_left
              · intro w hSw; (try dsimp only at hSw); go_simp; (try with_reducible rfl)
              (try simp only [Act.put, List.setIfInBounds_toArray, List.set_cons_zero, List.set_cons_succ])
              refine wpAnyH_take (i := 3) (oi := { dst := some 31, op := Op.binOp BinOp.lss 3 (Operand.tmp 28) (Operand.tmp 30) 3, type := 4, pos := "l04_filter.go:251", after := #[{ on := 0, ground := Ground.data }, { on := 2, ground := Ground.data }], guard := none }) (v := ?_) rfl (by kernel_rfl) (by kernel_rfl) (by kernel_rfl) (fun _ _ _ h => h) (Or.inl ⟨by rfl, ?_⟩) (by assumption) ?_
              rotate_left
              · intro w hSw; (try dsimp only at hSw); go_simp; (try with_reducible rfl)
              (try simp only [Act.put, List.setIfInBounds_toArray, List.set_cons_zero, List.set_cons_succ])
              refine wpAnyH_take (i := 4) (oi := { dst := some 32, op := Op.move (Operand.tmp 31), type := 4, pos := "l04_filter.go:251", after := #[{ on := 3, ground := Ground.data }], guard := none }) (v := ?_) rfl (by kernel_rfl) (by kernel_rfl) (by kernel_rfl) (fun _ _ _ h => h) (Or.inl ⟨by rfl, ?_⟩) (by assumption) ?_
              rotate_left
              · intro w hSw; (try dsimp only at hSw); go_simp; (try with_reducible rfl)
              (try simp only [Act.put, List.setIfInBounds_toArray, List.set_cons_zero, List.set_cons_succ])
              refine wpAnyH_take (i := 5) (oi := { dst := some 33, op := Op.move (Operand.tmp 3), type := 29, pos := "l04_filter.go:251", after := #[{ on := 4, ground := Ground.guard }], guard := some (4, true) }) (v := ?_) rfl (by kernel_rfl) (by kernel_rfl) (by kernel_rfl) (fun _ _ _ h => h) (Or.inl ⟨by rfl, ?_⟩) (by assumption) ?_
              rotate_left
              · intro w hSw; (try dsimp only at hSw); go_simp; (try with_reducible rfl)
              (try simp only [Act.put, List.setIfInBounds_toArray, List.set_cons_zero, List.set_cons_succ])
              refine wpAnyH_take (i := 6) (oi := { dst := some 34, op := Op.move (Operand.tmp 5), type := 3, pos := "l04_filter.go:251", after := #[{ on := 4, ground := Ground.guard }], guard := some (4, true) }) (v := ?_) rfl (by kernel_rfl) (by kernel_rfl) (by kernel_rfl) (fun _ _ _ h => h) (Or.inl ⟨by rfl, ?_⟩) (by assumption) ?_
              rotate_left
              · intro w hSw; (try dsimp only at hSw); go_simp; (try with_reducible rfl)
              (try simp only [Act.put, List.setIfInBounds_toArray, List.set_cons_zero, List.set_cons_succ])
              refine wpAnyH_take (i := 7) (oi := { dst := some 35, op := Op.indexAddr 29 (Operand.tmp 33) (Operand.tmp 34), type := 0, pos := "l04_filter.go:251", after := #[{ on := 5, ground := Ground.data }, { on := 6, ground := Ground.data }, { on := 4, ground := Ground.guard }], guard := some (4, true) }) (v := ?_) rfl (by kernel_rfl) (by kernel_rfl) (by kernel_rfl) (fun _ _ _ h => h) (Or.inl ⟨by rfl, ?_⟩) (by assumption) ?_
              rotate_left
              · intro w hSw; (try dsimp only at hSw); go_simp; (try with_reducible rfl)
              (try simp only [Act.put, List.setIfInBounds_toArray, List.set_cons_zero, List.set_cons_succ])
              refine wpAnyH_take (i := 8) (oi := { dst := some 36, op := Op.load 9 (Operand.tmp 35), type := 9, pos := "l04_filter.go:251", after := #[{ on := 7, ground := Ground.data }, { on := 4, ground := Ground.guard }], guard := some (4, true) }) (v := ?_) rfl (by kernel_rfl) (by kernel_rfl) (by kernel_rfl) (fun _ _ _ h => h) (Or.inl ⟨by rfl, ?_⟩) (by assumption) ?_
              rotate_left
              · intro w hSw; (try dsimp only at hSw); go_simp; (try with_reducible rfl)
              (try simp only [Act.put, List.setIfInBounds_toArray, List.set_cons_zero, List.set_cons_succ])
              refine wpAnyH_take (i := 9) (oi := { dst := some 37, op := Op.move (Operand.tmp 0), type := 25, pos := "l04_filter.go:251", after := #[{ on := 4, ground := Ground.guard }], guard := some (4, true) }) (v := ?_) rfl (by kernel_rfl) (by kernel_rfl) (by kernel_rfl) (fun _ _ _ h => h) (Or.inl ⟨by rfl, ?_⟩) (by assumption) ?_
              rotate_left
              · intro w hSw; (try dsimp only at hSw); go_simp; (try with_reducible rfl)
              (try simp only [Act.put, List.setIfInBounds_toArray, List.set_cons_zero, List.set_cons_succ])
              refine wpAnyH_take (i := 10) (oi := { dst := some 38, op := Op.move (Operand.tmp 4), type := 3, pos := "l04_filter.go:251", after := #[{ on := 4, ground := Ground.guard }], guard := some (4, true) }) (v := ?_) rfl (by kernel_rfl) (by kernel_rfl) (by kernel_rfl) (fun _ _ _ h => h) (Or.inl ⟨by rfl, ?_⟩) (by assumption) ?_
              rotate_left
              · intro w hSw; (try dsimp only at hSw); go_simp; (try with_reducible rfl)
              (try simp only [Act.put, List.setIfInBounds_toArray, List.set_cons_zero, List.set_cons_succ])
              refine wpAnyH_take (i := 11) (oi := { dst := some 39, op := Op.indexAddr 25 (Operand.tmp 37) (Operand.tmp 38), type := 0, pos := "l04_filter.go:251", after := #[{ on := 9, ground := Ground.data }, { on := 10, ground := Ground.data }, { on := 4, ground := Ground.guard }], guard := some (4, true) }) (v := ?_) rfl (by kernel_rfl) (by kernel_rfl) (by kernel_rfl) (fun _ _ _ h => h) (Or.inl ⟨by rfl, ?_⟩) (by assumption) ?_
              rotate_left
              · intro w hSw; (try dsimp only at hSw); go_simp; (try with_reducible rfl)
              (try simp only [Act.put, List.setIfInBounds_toArray, List.set_cons_zero, List.set_cons_succ])
              refine wpAnyH_take (i := 12) (oi := { dst := some 40, op := Op.fieldAddr 104 (Operand.tmp 39) 1, type := 0, pos := "l04_filter.go:251", after := #[{ on := 11, ground := Ground.data }, { on := 4, ground := Ground.guard }], guard := some (4, true) }) (v := ?_) rfl (by kernel_rfl) (by kernel_rfl) (by kernel_rfl) (fun _ _ _ h => h) (Or.inl ⟨by rfl, ?_⟩) (by assumption) ?_
              rotate_left
              · intro w hSw; (try dsimp only at hSw); go_simp; (try with_reducible rfl)
              (try simp only [Act.put, List.setIfInBounds_toArray, List.set_cons_zero, List.set_cons_succ])
              refine wpAnyH_take (i := 13) (oi := { dst := some 41, op := Op.load 9 (Operand.tmp 40), type := 9, pos := "l04_filter.go:251", after := #[{ on := 12, ground := Ground.data }, { on := 4, ground := Ground.guard }], guard := some (4, true) }) (v := ?_) rfl (by kernel_rfl) (by kernel_rfl) (by kernel_rfl) (fun _ _ _ h => h) (Or.inl ⟨by rfl, ?_⟩) (by assumption) ?_
              rotate_left
              · intro w hSw; (try dsimp only at hSw); go_simp; (try with_reducible rfl)
              (try simp only [Act.put, List.setIfInBounds_toArray, List.set_cons_zero, List.set_cons_succ])
              refine wpAnyH_take (i := 14) (oi := { dst := some 42, op := Op.binOp BinOp.lss 9 (Operand.tmp 36) (Operand.tmp 41) 9, type := 4, pos := "l04_filter.go:251", after := #[{ on := 8, ground := Ground.data }, { on := 13, ground := Ground.data }, { on := 4, ground := Ground.guard }], guard := some (4, true) }) (v := ?_) rfl (by kernel_rfl) (by kernel_rfl) (by kernel_rfl) (fun _ _ _ h => h) (Or.inl ⟨by rfl, ?_⟩) (by assumption) ?_
              rotate_left
              · intro w hSw; (try dsimp only at hSw); go_simp; (try with_reducible rfl)
              (try simp only [Act.put, List.setIfInBounds_toArray, List.set_cons_zero, List.set_cons_succ])
              refine wpAnyH_take (i := 15) (oi := { dst := some 43, op := Op.pick (Operand.tmp 32) (Operand.tmp 42) (Operand.const (Value.bool false)), type := 4, pos := "l04_filter.go:251", after := #[{ on := 4, ground := Ground.data }, { on := 14, ground := Ground.data }], guard := none }) (v := ?_) rfl (by kernel_rfl) (by kernel_rfl) (by kernel_rfl) (fun _ _ _ h => h) (Or.inl ⟨by rfl, ?_⟩) (by assumption) ?_
              rotate_left
              · intro w hSw; (try dsimp only at hSw); go_simp; (try with_reducible rfl)
              (try simp only [Act.put, List.setIfInBounds_toArray, List.set_cons_zero, List.set_cons_succ])
              refine wpAnyH_done (by kernel_rfl) ?_ _
              clear hHeld
              go_wp2_with fail
              refine wp_region_held_drew (S := (fun Z => Below w2.heap.size w2 Z ∧ Z.cell? ⟨g, j, none⟩ = some (.string A) ∧ Z.cell? ⟨b, off + k * 4 + 1, none⟩ = some (.string a1))) (by kernel_rfl) ?_ (fun hHeld => ?_)
              · (try dsimp only)
                exact SK.out _ (by assumption)
              refine wpAnyH_take (i := 0) (oi := { dst := some 46, op := Op.move (Operand.tmp 5), type := 3, pos := "l04_filter.go:254", after := #[], guard := none }) (v := ?_) rfl (by kernel_rfl) (by kernel_rfl) (by kernel_rfl) (fun _ _ _ h => h) (Or.inl ⟨by rfl, ?_⟩) (by assumption) ?_
              rotate_left
              · intro w hSw; (try dsimp only at hSw); go_simp; (try with_reducible rfl)
              (try simp only [Act.put, List.setIfInBounds_toArray, List.set_cons_zero, List.set_cons_succ])
              refine wpAnyH_take (i := 1) (oi := { dst := some 47, op := Op.move (Operand.tmp 3), type := 29, pos := "l04_filter.go:254", after := #[], guard := none }) (v := ?_) rfl (by kernel_rfl) (by kernel_rfl) (by kernel_rfl) (fun _ _ _ h => h) (Or.inl ⟨by rfl, ?_⟩) (by assumption) ?_
              rotate_left
              · intro w hSw; (try dsimp only at hSw); go_simp; (try with_reducible rfl)
              (try simp only [Act.put, List.setIfInBounds_toArray, List.set_cons_zero, List.set_cons_succ])
              refine wpAnyH_take (i := 2) (oi := { dst := some 48, op := Op.call { callee := Callee.builtin Builtin.len, args := #[Operand.tmp 47], argTypes := #[29] }, type := 3, pos := "l04_filter.go:254", after := #[{ on := 1, ground := Ground.data }], guard := none }) (v := ?_) rfl (by kernel_rfl) (by kernel_rfl) (by kernel_rfl) (fun _ _ _ h => h) (Or.inl ⟨by rfl, ?_⟩) (by assumption) ?_
              rotate_left
              · intro w hSw; (try dsimp only at hSw); go_simp; (try with_reducible rfl)
              (try simp only [Act.put, List.setIfInBounds_toArray, List.set_cons_zero, List.set_cons_succ])
              refine wpAnyH_take (i := 3) (oi := { dst := some 49, op := Op.binOp BinOp.lss 3 (Operand.tmp 46) (Operand.tmp 48) 3, type := 4, pos := "l04_filter.go:254", after := #[{ on := 0, ground := Ground.data }, { on := 2, ground := Ground.data }], guard := none }) (v := ?_) rfl (by kernel_rfl) (by kernel_rfl) (by kernel_rfl) (fun _ _ _ h => h) (Or.inl ⟨by rfl, ?_⟩) (by assumption) ?_
              rotate_left
              · intro w hSw; (try dsimp only at hSw); go_simp; (try with_reducible rfl)
              (try simp only [Act.put, List.setIfInBounds_toArray, List.set_cons_zero, List.set_cons_succ])
              refine wpAnyH_take (i := 4) (oi := { dst := some 50, op := Op.move (Operand.tmp 49), type := 4, pos := "l04_filter.go:254", after := #[{ on := 3, ground := Ground.data }], guard := none }) (v := ?_) rfl (by kernel_rfl) (by kernel_rfl) (by kernel_rfl) (fun _ _ _ h => h) (Or.inl ⟨by rfl, ?_⟩) (by assumption) ?_
              rotate_left
              · intro w hSw; (try dsimp only at hSw); go_simp; (try with_reducible rfl)
              (try simp only [Act.put, List.setIfInBounds_toArray, List.set_cons_zero, List.set_cons_succ])
              refine wpAnyH_take (i := 5) (oi := { dst := some 51, op := Op.move (Operand.tmp 3), type := 29, pos := "l04_filter.go:254", after := #[{ on := 4, ground := Ground.guard }], guard := some (4, true) }) (v := ?_) rfl (by kernel_rfl) (by kernel_rfl) (by kernel_rfl) (fun _ _ _ h => h) (Or.inl ⟨by rfl, ?_⟩) (by assumption) ?_
              rotate_left
              · intro w hSw; (try dsimp only at hSw); go_simp; (try with_reducible rfl)
              (try simp only [Act.put, List.setIfInBounds_toArray, List.set_cons_zero, List.set_cons_succ])
              refine wpAnyH_take (i := 6) (oi := { dst := some 52, op := Op.move (Operand.tmp 5), type := 3, pos := "l04_filter.go:254", after := #[{ on := 4, ground := Ground.guard }], guard := some (4, true) }) (v := ?_) rfl (by kernel_rfl) (by kernel_rfl) (by kernel_rfl) (fun _ _ _ h => h) (Or.inl ⟨by rfl, ?_⟩) (by assumption) ?_
              rotate_left
              · intro w hSw; (try dsimp only at hSw); go_simp; (try with_reducible rfl)
              (try simp only [Act.put, List.setIfInBounds_toArray, List.set_cons_zero, List.set_cons_succ])
              refine wpAnyH_take (i := 7) (oi := { dst := some 53, op := Op.indexAddr 29 (Operand.tmp 51) (Operand.tmp 52), type := 0, pos := "l04_filter.go:254", after := #[{ on := 5, ground := Ground.data }, { on := 6, ground := Ground.data }, { on := 4, ground := Ground.guard }], guard := some (4, true) }) (v := ?_) rfl (by kernel_rfl) (by kernel_rfl) (by kernel_rfl) (fun _ _ _ h => h) (Or.inl ⟨by rfl, ?_⟩) (by assumption) ?_
              rotate_left
              · intro w hSw; (try dsimp only at hSw); go_simp; (try with_reducible rfl)
              (try simp only [Act.put, List.setIfInBounds_toArray, List.set_cons_zero, List.set_cons_succ])
              refine wpAnyH_take (i := 8) (oi := { dst := some 54, op := Op.load 9 (Operand.tmp 53), type := 9, pos := "l04_filter.go:254", after := #[{ on := 7, ground := Ground.data }, { on := 4, ground := Ground.guard }], guard := some (4, true) }) (v := ?_) rfl (by kernel_rfl) (by kernel_rfl) (by kernel_rfl) (fun _ _ _ h => h) (Or.inl ⟨by rfl, ?_⟩) (by assumption) ?_
              rotate_left
              · intro w hSw; (try dsimp only at hSw); go_simp; (try with_reducible rfl)
              (try simp only [Act.put, List.setIfInBounds_toArray, List.set_cons_zero, List.set_cons_succ])
              refine wpAnyH_take (i := 9) (oi := { dst := some 55, op := Op.move (Operand.tmp 0), type := 25, pos := "l04_filter.go:254", after := #[{ on := 4, ground := Ground.guard }], guard := some (4, true) }) (v := ?_) rfl (by kernel_rfl) (by kernel_rfl) (by kernel_rfl) (fun _ _ _ h => h) (Or.inl ⟨by rfl, ?_⟩) (by assumption) ?_
              rotate_left
              · intro w hSw; (try dsimp only at hSw); go_simp; (try with_reducible rfl)
              (try simp only [Act.put, List.setIfInBounds_toArray, List.set_cons_zero, List.set_cons_succ])
              refine wpAnyH_take (i := 10) (oi := { dst := some 56, op := Op.move (Operand.tmp 4), type := 3, pos := "l04_filter.go:254", after := #[{ on := 4, ground := Ground.guard }], guard := some (4, true) }) (v := ?_) rfl (by kernel_rfl) (by kernel_rfl) (by kernel_rfl) (fun _ _ _ h => h) (Or.inl ⟨by rfl, ?_⟩) (by assumption) ?_
              rotate_left
              · intro w hSw; (try dsimp only at hSw); go_simp; (try with_reducible rfl)
              (try simp only [Act.put, List.setIfInBounds_toArray, List.set_cons_zero, List.set_cons_succ])
              refine wpAnyH_take (i := 11) (oi := { dst := some 57, op := Op.indexAddr 25 (Operand.tmp 55) (Operand.tmp 56), type := 0, pos := "l04_filter.go:254", after := #[{ on := 9, ground := Ground.data }, { on := 10, ground := Ground.data }, { on := 4, ground := Ground.guard }], guard := some (4, true) }) (v := ?_) rfl (by kernel_rfl) (by kernel_rfl) (by kernel_rfl) (fun _ _ _ h => h) (Or.inl ⟨by rfl, ?_⟩) (by assumption) ?_
              rotate_left
              · intro w hSw; (try dsimp only at hSw); go_simp; (try with_reducible rfl)
              (try simp only [Act.put, List.setIfInBounds_toArray, List.set_cons_zero, List.set_cons_succ])
              refine wpAnyH_take (i := 12) (oi := { dst := some 58, op := Op.fieldAddr 104 (Operand.tmp 57) 1, type := 0, pos := "l04_filter.go:254", after := #[{ on := 11, ground := Ground.data }, { on := 4, ground := Ground.guard }], guard := some (4, true) }) (v := ?_) rfl (by kernel_rfl) (by kernel_rfl) (by kernel_rfl) (fun _ _ _ h => h) (Or.inl ⟨by rfl, ?_⟩) (by assumption) ?_
              rotate_left
              · intro w hSw; (try dsimp only at hSw); go_simp; (try with_reducible rfl)
              (try simp only [Act.put, List.setIfInBounds_toArray, List.set_cons_zero, List.set_cons_succ])
              refine wpAnyH_take (i := 13) (oi := { dst := some 59, op := Op.load 9 (Operand.tmp 58), type := 9, pos := "l04_filter.go:254", after := #[{ on := 12, ground := Ground.data }, { on := 4, ground := Ground.guard }], guard := some (4, true) }) (v := ?_) rfl (by kernel_rfl) (by kernel_rfl) (by kernel_rfl) (fun _ _ _ h => h) (Or.inl ⟨by rfl, ?_⟩) (by assumption) ?_
              rotate_left
              · intro w hSw; (try dsimp only at hSw); go_simp; (try with_reducible rfl)
              (try simp only [Act.put, List.setIfInBounds_toArray, List.set_cons_zero, List.set_cons_succ])
              refine wpAnyH_take (i := 14) (oi := { dst := some 60, op := Op.binOp BinOp.eql 9 (Operand.tmp 54) (Operand.tmp 59) 9, type := 4, pos := "l04_filter.go:254", after := #[{ on := 8, ground := Ground.data }, { on := 13, ground := Ground.data }, { on := 4, ground := Ground.guard }], guard := some (4, true) }) (v := ?_) rfl (by kernel_rfl) (by kernel_rfl) (by kernel_rfl) (fun _ _ _ h => h) (Or.inl ⟨by rfl, ?_⟩) (by assumption) ?_
              rotate_left
              · intro w hSw; (try dsimp only at hSw); go_simp; (try with_reducible rfl)
              (try simp only [Act.put, List.setIfInBounds_toArray, List.set_cons_zero, List.set_cons_succ])
              refine wpAnyH_take (i := 15) (oi := { dst := some 61, op := Op.pick (Operand.tmp 50) (Operand.tmp 60) (Operand.const (Value.bool false)), type := 4, pos := "l04_filter.go:254", after := #[{ on := 4, ground := Ground.data }, { on := 14, ground := Ground.data }], guard := none }) (v := ?_) rfl (by kernel_rfl) (by kernel_rfl) (by kernel_rfl) (fun _ _ _ h => h) (Or.inl ⟨by rfl, ?_⟩) (by assumption) ?_
              rotate_left
              · intro w hSw; (try dsimp only at hSw); go_simp; (try with_reducible rfl)
              (try simp only [Act.put, List.setIfInBounds_toArray, List.set_cons_zero, List.set_cons_succ])
              refine wpAnyH_done (by kernel_rfl) ?_ _
              generalize wr.drew.drew = W at *
              have HWb : Hid (Below w2.heap.size w2 W) := Lib.hid hbr2
              have HSW : Hid (StrsAt W (some ⟨g, 0, none⟩) l) := Lib.hid (HS.out.below HWb.out)
              have Z2 := Lib.hid (own_zeroS W (B := W.heap.size) rfl (Nat.le_refl _)); have B3 := Lib.hid (more (Below.refl W.heap.size W) (.cells #[] 9)); have L2 := B3.out.size
              have D2 : Hid (StrsAt (W.alloc (.cells #[] 9)) (some ⟨g, 0, none⟩) (l.take j)) := Lib.hid (strs_take (HSW.out.below B3.out) j)
              have hBW : w.heap.size ≤ W.heap.size := Nat.le_trans hB HWb.out.size
              clear hHeld
              go_wp2_with (first
                | (at_builtin; refine append_strs W.heap.size rfl _ _ rfl _ (l.take j ++ [a1]) rfl O4.out _ (l.drop j) _ _ (by simp) rfl D4.out (fun e => by cases e) (by simp; omega) L4 B5.out ?_; intro v5 w5 hown5 hbel5; rw [List.append_assoc] at hown5)
                | (at_builtin; refine append_str W.heap.size rfl _ _ rfl _ (l.take j) rfl O3.out a1 rfl (by simp; omega) L3 B4.out ?_; intro v4 w4 hown4 hbel4 hsz4 _ _; have O4 := Lib.hid hown4; have B5 := Lib.hid hbel4; have L4 := hsz4; have D4 := Lib.hid (strs_drop (HSW.out.below hbel4) j); rw [Nat.zero_add] at D4; clear hown4 hbel4)
                | (at_builtin; refine append_strs W.heap.size rfl _ _ rfl _ [] rfl Z2.out (some ⟨g, 0, none⟩) (l.take j) cap2 _ HTk.out.symm rfl D2.out (fun e => by cases e) (by simp; omega) L2 B3.out ?_; rw [List.nil_append]; intro v3 w3 hown3 hbel3; have O3 := Lib.hid hown3; have B4 := Lib.hid hbel3; have L3 := hbel3.size; have c3 := C1.out _ (HWb.out.trans (hbel3.mono HWb.out.size)); clear hown3 hbel3)
                | (fail "none"))
              all_goals (
                obtain ⟨g5, cap5, rfl, _, _⟩ := hown5.form (by simp only [List.length_append, List.length_cons]; omega)
                have HW := Lib.hid (own_mono hown5 hBW); have BW := Lib.hid (B2.trans ((HWb.out.trans (hbel5.mono HWb.out.size)).mono hB)); clear hown5 hbel5
                go_roundw
                case rel => exact ⟨k + 1, by omega, by go_num, by rw [HE.out, HP.out]; exact HW.out, ⟨_, _, _, rfl⟩, BW.out⟩
                case measure => simp [intOf]; omega)
          · have hless : Op.bytesLess A.toList a1.toList = true := HLt.out.symm.trans hs
            have HN' := Lib.hid (HN.out hs)
            go_wp2_with fail
            refine wp_region_held_drew (S := (fun Z => Below w2.heap.size w2 Z ∧ Z.cell? ⟨g, j, none⟩ = some (.string A) ∧ Z.cell? ⟨b, off + k * 4 + 1, none⟩ = some (.string a1))) (by kernel_rfl) ?_ (fun hHeld => ?_)
            · (try dsimp only)
              exact SK.out _ (by assumption)
            refine wpAnyH_take (i := 0) (oi := { dst := some 28, op := Op.move (Operand.tmp 5), type := 3, pos := "l04_filter.go:251", after := #[], guard := none }) (v := ?_) rfl (by kernel_rfl) (by kernel_rfl) (by kernel_rfl) (fun _ _ _ h => h) (Or.inl ⟨by rfl, ?_⟩) (by assumption) ?_
            rotate_left
            · intro w hSw; (try dsimp only at hSw); go_simp; (try with_reducible rfl)
            (try simp only [Act.put, List.setIfInBounds_toArray, List.set_cons_zero, List.set_cons_succ])
            refine wpAnyH_take (i := 1) (oi := { dst := some 29, op := Op.move (Operand.tmp 3), type := 29, pos := "l04_filter.go:251", after := #[], guard := none }) (v := ?_) rfl (by kernel_rfl) (by kernel_rfl) (by kernel_rfl) (fun _ _ _ h => h) (Or.inl ⟨by rfl, ?_⟩) (by assumption) ?_
            rotate_left
            · intro w hSw; (try dsimp only at hSw); go_simp; (try with_reducible rfl)
            (try simp only [Act.put, List.setIfInBounds_toArray, List.set_cons_zero, List.set_cons_succ])
            refine wpAnyH_take (i := 2) (oi := { dst := some 30, op := Op.call { callee := Callee.builtin Builtin.len, args := #[Operand.tmp 29], argTypes := #[29] }, type := 3, pos := "l04_filter.go:251", after := #[{ on := 1, ground := Ground.data }], guard := none }) (v := ?_) rfl (by kernel_rfl) (by kernel_rfl) (by kernel_rfl) (fun _ _ _ h => h) (Or.inl ⟨by rfl, ?_⟩) (by assumption) ?_
            rotate_left
            · intro w hSw; (try dsimp only at hSw); go_simp; (try with_reducible rfl)
            (try simp only [Act.put, List.setIfInBounds_toArray, List.set_cons_zero, List.set_cons_succ])
            refine wpAnyH_take (i := 3) (oi := { dst := some 31, op := Op.binOp BinOp.lss 3 (Operand.tmp 28) (Operand.tmp 30) 3, type := 4, pos := "l04_filter.go:251", after := #[{ on := 0, ground := Ground.data }, { on := 2, ground := Ground.data }], guard := none }) (v := ?_) rfl (by kernel_rfl) (by kernel_rfl) (by kernel_rfl) (fun _ _ _ h => h) (Or.inl ⟨by rfl, ?_⟩) (by assumption) ?_
            rotate_left
            · intro w hSw; (try dsimp only at hSw); go_simp; (try with_reducible rfl)
            (try simp only [Act.put, List.setIfInBounds_toArray, List.set_cons_zero, List.set_cons_succ])
            refine wpAnyH_take (i := 4) (oi := { dst := some 32, op := Op.move (Operand.tmp 31), type := 4, pos := "l04_filter.go:251", after := #[{ on := 3, ground := Ground.data }], guard := none }) (v := ?_) rfl (by kernel_rfl) (by kernel_rfl) (by kernel_rfl) (fun _ _ _ h => h) (Or.inl ⟨by rfl, ?_⟩) (by assumption) ?_
            rotate_left
            · intro w hSw; (try dsimp only at hSw); go_simp; (try with_reducible rfl)
            (try simp only [Act.put, List.setIfInBounds_toArray, List.set_cons_zero, List.set_cons_succ])
            refine wpAnyH_take (i := 5) (oi := { dst := some 33, op := Op.move (Operand.tmp 3), type := 29, pos := "l04_filter.go:251", after := #[{ on := 4, ground := Ground.guard }], guard := some (4, true) }) (v := ?_) rfl (by kernel_rfl) (by kernel_rfl) (by kernel_rfl) (fun _ _ _ h => h) (Or.inl ⟨by rfl, ?_⟩) (by assumption) ?_
            rotate_left
            · intro w hSw; (try dsimp only at hSw); go_simp; (try with_reducible rfl)
            (try simp only [Act.put, List.setIfInBounds_toArray, List.set_cons_zero, List.set_cons_succ])
            refine wpAnyH_take (i := 6) (oi := { dst := some 34, op := Op.move (Operand.tmp 5), type := 3, pos := "l04_filter.go:251", after := #[{ on := 4, ground := Ground.guard }], guard := some (4, true) }) (v := ?_) rfl (by kernel_rfl) (by kernel_rfl) (by kernel_rfl) (fun _ _ _ h => h) (Or.inl ⟨by rfl, ?_⟩) (by assumption) ?_
            rotate_left
            · intro w hSw; (try dsimp only at hSw); go_simp; (try with_reducible rfl)
            (try simp only [Act.put, List.setIfInBounds_toArray, List.set_cons_zero, List.set_cons_succ])
            refine wpAnyH_take (i := 7) (oi := { dst := some 35, op := Op.indexAddr 29 (Operand.tmp 33) (Operand.tmp 34), type := 0, pos := "l04_filter.go:251", after := #[{ on := 5, ground := Ground.data }, { on := 6, ground := Ground.data }, { on := 4, ground := Ground.guard }], guard := some (4, true) }) (v := ?_) rfl (by kernel_rfl) (by kernel_rfl) (by kernel_rfl) (fun _ _ _ h => h) (Or.inl ⟨by rfl, ?_⟩) (by assumption) ?_
            rotate_left
            · intro w hSw; (try dsimp only at hSw); go_simp; (try with_reducible rfl)
            (try simp only [Act.put, List.setIfInBounds_toArray, List.set_cons_zero, List.set_cons_succ])
            refine wpAnyH_take (i := 8) (oi := { dst := some 36, op := Op.load 9 (Operand.tmp 35), type := 9, pos := "l04_filter.go:251", after := #[{ on := 7, ground := Ground.data }, { on := 4, ground := Ground.guard }], guard := some (4, true) }) (v := ?_) rfl (by kernel_rfl) (by kernel_rfl) (by kernel_rfl) (fun _ _ _ h => h) (Or.inl ⟨by rfl, ?_⟩) (by assumption) ?_
            rotate_left
            · intro w hSw; (try dsimp only at hSw); go_simp; (try with_reducible rfl)
            (try simp only [Act.put, List.setIfInBounds_toArray, List.set_cons_zero, List.set_cons_succ])
            refine wpAnyH_take (i := 9) (oi := { dst := some 37, op := Op.move (Operand.tmp 0), type := 25, pos := "l04_filter.go:251", after := #[{ on := 4, ground := Ground.guard }], guard := some (4, true) }) (v := ?_) rfl (by kernel_rfl) (by kernel_rfl) (by kernel_rfl) (fun _ _ _ h => h) (Or.inl ⟨by rfl, ?_⟩) (by assumption) ?_
            rotate_left
            · intro w hSw; (try dsimp only at hSw); go_simp; (try with_reducible rfl)
            (try simp only [Act.put, List.setIfInBounds_toArray, List.set_cons_zero, List.set_cons_succ])
            refine wpAnyH_take (i := 10) (oi := { dst := some 38, op := Op.move (Operand.tmp 4), type := 3, pos := "l04_filter.go:251", after := #[{ on := 4, ground := Ground.guard }], guard := some (4, true) }) (v := ?_) rfl (by kernel_rfl) (by kernel_rfl) (by kernel_rfl) (fun _ _ _ h => h) (Or.inl ⟨by rfl, ?_⟩) (by assumption) ?_
            rotate_left
            · intro w hSw; (try dsimp only at hSw); go_simp; (try with_reducible rfl)
            (try simp only [Act.put, List.setIfInBounds_toArray, List.set_cons_zero, List.set_cons_succ])
            refine wpAnyH_take (i := 11) (oi := { dst := some 39, op := Op.indexAddr 25 (Operand.tmp 37) (Operand.tmp 38), type := 0, pos := "l04_filter.go:251", after := #[{ on := 9, ground := Ground.data }, { on := 10, ground := Ground.data }, { on := 4, ground := Ground.guard }], guard := some (4, true) }) (v := ?_) rfl (by kernel_rfl) (by kernel_rfl) (by kernel_rfl) (fun _ _ _ h => h) (Or.inl ⟨by rfl, ?_⟩) (by assumption) ?_
            rotate_left
            · intro w hSw; (try dsimp only at hSw); go_simp; (try with_reducible rfl)
            (try simp only [Act.put, List.setIfInBounds_toArray, List.set_cons_zero, List.set_cons_succ])
            refine wpAnyH_take (i := 12) (oi := { dst := some 40, op := Op.fieldAddr 104 (Operand.tmp 39) 1, type := 0, pos := "l04_filter.go:251", after := #[{ on := 11, ground := Ground.data }, { on := 4, ground := Ground.guard }], guard := some (4, true) }) (v := ?_) rfl (by kernel_rfl) (by kernel_rfl) (by kernel_rfl) (fun _ _ _ h => h) (Or.inl ⟨by rfl, ?_⟩) (by assumption) ?_
            rotate_left
            · intro w hSw; (try dsimp only at hSw); go_simp; (try with_reducible rfl)
            (try simp only [Act.put, List.setIfInBounds_toArray, List.set_cons_zero, List.set_cons_succ])
            refine wpAnyH_take (i := 13) (oi := { dst := some 41, op := Op.load 9 (Operand.tmp 40), type := 9, pos := "l04_filter.go:251", after := #[{ on := 12, ground := Ground.data }, { on := 4, ground := Ground.guard }], guard := some (4, true) }) (v := ?_) rfl (by kernel_rfl) (by kernel_rfl) (by kernel_rfl) (fun _ _ _ h => h) (Or.inl ⟨by rfl, ?_⟩) (by assumption) ?_
            rotate_left
            · intro w hSw; (try dsimp only at hSw); go_simp; (try with_reducible rfl)
            (try simp only [Act.put, List.setIfInBounds_toArray, List.set_cons_zero, List.set_cons_succ])
            refine wpAnyH_take (i := 14) (oi := { dst := some 42, op := Op.binOp BinOp.lss 9 (Operand.tmp 36) (Operand.tmp 41) 9, type := 4, pos := "l04_filter.go:251", after := #[{ on := 8, ground := Ground.data }, { on := 13, ground := Ground.data }, { on := 4, ground := Ground.guard }], guard := some (4, true) }) (v := ?_) rfl (by kernel_rfl) (by kernel_rfl) (by kernel_rfl) (fun _ _ _ h => h) (Or.inl ⟨by rfl, ?_⟩) (by assumption) ?_
            rotate_left
            · intro w hSw; (try dsimp only at hSw); go_simp; (try with_reducible rfl)
            (try simp only [Act.put, List.setIfInBounds_toArray, List.set_cons_zero, List.set_cons_succ])
            refine wpAnyH_take (i := 15) (oi := { dst := some 43, op := Op.pick (Operand.tmp 32) (Operand.tmp 42) (Operand.const (Value.bool false)), type := 4, pos := "l04_filter.go:251", after := #[{ on := 4, ground := Ground.data }, { on := 14, ground := Ground.data }], guard := none }) (v := ?_) rfl (by kernel_rfl) (by kernel_rfl) (by kernel_rfl) (fun _ _ _ h => h) (Or.inl ⟨by rfl, ?_⟩) (by assumption) ?_
            rotate_left
            · intro w hSw; (try dsimp only at hSw); go_simp; (try with_reducible rfl)
            (try simp only [Act.put, List.setIfInBounds_toArray, List.set_cons_zero, List.set_cons_succ])
            refine wpAnyH_done (by kernel_rfl) ?_ _
            clear hHeld
            go_wp2
            go_roundw
            case rel => exact ⟨j + 1, by omega, by go_num, HN'.out, hbr1⟩
            case measure => simp [intOf]; omega
        · have HP : Hid (putS l a1 = l.take j ++ a1 :: l.drop j) := Lib.hid (HTail.out j (kOf_is hj Ha.out (fun h => absurd h hlj)) (by rw [List.getElem?_eq_none (by omega)]; simp))
          have HDn : Hid (l.drop j = []) := Lib.hid (List.drop_eq_nil_of_le (by omega))
          have g4 : ¬ (j : Int) < (l.length : Int) := by omega
          go_wp2_with fail
          refine wp_region_held_drew (S := (fun Z => Below w2.heap.size w2 Z)) (by kernel_rfl) ?_ (fun hHeld => ?_)
          · (try dsimp only)
            assumption
          refine wpAnyH_take (i := 0) (oi := { dst := some 28, op := Op.move (Operand.tmp 5), type := 3, pos := "l04_filter.go:251", after := #[], guard := none }) (v := ?_) rfl (by kernel_rfl) (by kernel_rfl) (by kernel_rfl) (fun _ _ _ h => h) (Or.inl ⟨by rfl, ?_⟩) (by assumption) ?_
          rotate_left
          · intro w hSw; (try dsimp only at hSw); go_simp; (try with_reducible rfl)
          (try simp only [Act.put, List.setIfInBounds_toArray, List.set_cons_zero, List.set_cons_succ])
          refine wpAnyH_take (i := 1) (oi := { dst := some 29, op := Op.move (Operand.tmp 3), type := 29, pos := "l04_filter.go:251", after := #[], guard := none }) (v := ?_) rfl (by kernel_rfl) (by kernel_rfl) (by kernel_rfl) (fun _ _ _ h => h) (Or.inl ⟨by rfl, ?_⟩) (by assumption) ?_
          rotate_left
          · intro w hSw; (try dsimp only at hSw); go_simp; (try with_reducible rfl)
          (try simp only [Act.put, List.setIfInBounds_toArray, List.set_cons_zero, List.set_cons_succ])
          refine wpAnyH_take (i := 2) (oi := { dst := some 30, op := Op.call { callee := Callee.builtin Builtin.len, args := #[Operand.tmp 29], argTypes := #[29] }, type := 3, pos := "l04_filter.go:251", after := #[{ on := 1, ground := Ground.data }], guard := none }) (v := ?_) rfl (by kernel_rfl) (by kernel_rfl) (by kernel_rfl) (fun _ _ _ h => h) (Or.inl ⟨by rfl, ?_⟩) (by assumption) ?_
          rotate_left
          · intro w hSw; (try dsimp only at hSw); go_simp; (try with_reducible rfl)
          (try simp only [Act.put, List.setIfInBounds_toArray, List.set_cons_zero, List.set_cons_succ])
          refine wpAnyH_take (i := 3) (oi := { dst := some 31, op := Op.binOp BinOp.lss 3 (Operand.tmp 28) (Operand.tmp 30) 3, type := 4, pos := "l04_filter.go:251", after := #[{ on := 0, ground := Ground.data }, { on := 2, ground := Ground.data }], guard := none }) (v := ?_) rfl (by kernel_rfl) (by kernel_rfl) (by kernel_rfl) (fun _ _ _ h => h) (Or.inl ⟨by rfl, ?_⟩) (by assumption) ?_
          rotate_left
          · intro w hSw; (try dsimp only at hSw); go_simp; (try with_reducible rfl)
          (try simp only [Act.put, List.setIfInBounds_toArray, List.set_cons_zero, List.set_cons_succ])
          refine wpAnyH_take (i := 4) (oi := { dst := some 32, op := Op.move (Operand.tmp 31), type := 4, pos := "l04_filter.go:251", after := #[{ on := 3, ground := Ground.data }], guard := none }) (v := ?_) rfl (by kernel_rfl) (by kernel_rfl) (by kernel_rfl) (fun _ _ _ h => h) (Or.inl ⟨by rfl, ?_⟩) (by assumption) ?_
          rotate_left
          · intro w hSw; (try dsimp only at hSw); go_simp; (try with_reducible rfl)
          (try simp only [Act.put, List.setIfInBounds_toArray, List.set_cons_zero, List.set_cons_succ])
          refine wpAnyH_take (i := 5) (oi := { dst := some 33, op := Op.move (Operand.tmp 3), type := 29, pos := "l04_filter.go:251", after := #[{ on := 4, ground := Ground.guard }], guard := some (4, true) }) (v := undef) rfl (by kernel_rfl) (by kernel_rfl) (by kernel_rfl) (fun _ _ _ h => h) (Or.inr ⟨by rfl, rfl⟩) (by assumption) ?_
          (try simp only [Act.put, List.setIfInBounds_toArray, List.set_cons_zero, List.set_cons_succ])
          refine wpAnyH_take (i := 6) (oi := { dst := some 34, op := Op.move (Operand.tmp 5), type := 3, pos := "l04_filter.go:251", after := #[{ on := 4, ground := Ground.guard }], guard := some (4, true) }) (v := undef) rfl (by kernel_rfl) (by kernel_rfl) (by kernel_rfl) (fun _ _ _ h => h) (Or.inr ⟨by rfl, rfl⟩) (by assumption) ?_
          (try simp only [Act.put, List.setIfInBounds_toArray, List.set_cons_zero, List.set_cons_succ])
          refine wpAnyH_take (i := 7) (oi := { dst := some 35, op := Op.indexAddr 29 (Operand.tmp 33) (Operand.tmp 34), type := 0, pos := "l04_filter.go:251", after := #[{ on := 5, ground := Ground.data }, { on := 6, ground := Ground.data }, { on := 4, ground := Ground.guard }], guard := some (4, true) }) (v := undef) rfl (by kernel_rfl) (by kernel_rfl) (by kernel_rfl) (fun _ _ _ h => h) (Or.inr ⟨by rfl, rfl⟩) (by assumption) ?_
          (try simp only [Act.put, List.setIfInBounds_toArray, List.set_cons_zero, List.set_cons_succ])
          refine wpAnyH_take (i := 8) (oi := { dst := some 36, op := Op.load 9 (Operand.tmp 35), type := 9, pos := "l04_filter.go:251", after := #[{ on := 7, ground := Ground.data }, { on := 4, ground := Ground.guard }], guard := some (4, true) }) (v := undef) rfl (by kernel_rfl) (by kernel_rfl) (by kernel_rfl) (fun _ _ _ h => h) (Or.inr ⟨by rfl, rfl⟩) (by assumption) ?_
          (try simp only [Act.put, List.setIfInBounds_toArray, List.set_cons_zero, List.set_cons_succ])
          refine wpAnyH_take (i := 9) (oi := { dst := some 37, op := Op.move (Operand.tmp 0), type := 25, pos := "l04_filter.go:251", after := #[{ on := 4, ground := Ground.guard }], guard := some (4, true) }) (v := undef) rfl (by kernel_rfl) (by kernel_rfl) (by kernel_rfl) (fun _ _ _ h => h) (Or.inr ⟨by rfl, rfl⟩) (by assumption) ?_
          (try simp only [Act.put, List.setIfInBounds_toArray, List.set_cons_zero, List.set_cons_succ])
          refine wpAnyH_take (i := 10) (oi := { dst := some 38, op := Op.move (Operand.tmp 4), type := 3, pos := "l04_filter.go:251", after := #[{ on := 4, ground := Ground.guard }], guard := some (4, true) }) (v := undef) rfl (by kernel_rfl) (by kernel_rfl) (by kernel_rfl) (fun _ _ _ h => h) (Or.inr ⟨by rfl, rfl⟩) (by assumption) ?_
          (try simp only [Act.put, List.setIfInBounds_toArray, List.set_cons_zero, List.set_cons_succ])
          refine wpAnyH_take (i := 11) (oi := { dst := some 39, op := Op.indexAddr 25 (Operand.tmp 37) (Operand.tmp 38), type := 0, pos := "l04_filter.go:251", after := #[{ on := 9, ground := Ground.data }, { on := 10, ground := Ground.data }, { on := 4, ground := Ground.guard }], guard := some (4, true) }) (v := undef) rfl (by kernel_rfl) (by kernel_rfl) (by kernel_rfl) (fun _ _ _ h => h) (Or.inr ⟨by rfl, rfl⟩) (by assumption) ?_
          (try simp only [Act.put, List.setIfInBounds_toArray, List.set_cons_zero, List.set_cons_succ])
          refine wpAnyH_take (i := 12) (oi := { dst := some 40, op := Op.fieldAddr 104 (Operand.tmp 39) 1, type := 0, pos := "l04_filter.go:251", after := #[{ on := 11, ground := Ground.data }, { on := 4, ground := Ground.guard }], guard := some (4, true) }) (v := undef) rfl (by kernel_rfl) (by kernel_rfl) (by kernel_rfl) (fun _ _ _ h => h) (Or.inr ⟨by rfl, rfl⟩) (by assumption) ?_
          (try simp only [Act.put, List.setIfInBounds_toArray, List.set_cons_zero, List.set_cons_succ])
          refine wpAnyH_take (i := 13) (oi := { dst := some 41, op := Op.load 9 (Operand.tmp 40), type := 9, pos := "l04_filter.go:251", after := #[{ on := 12, ground := Ground.data }, { on := 4, ground := Ground.guard }], guard := some (4, true) }) (v := undef) rfl (by kernel_rfl) (by kernel_rfl) (by kernel_rfl) (fun _ _ _ h => h) (Or.inr ⟨by rfl, rfl⟩) (by assumption) ?_
          (try simp only [Act.put, List.setIfInBounds_toArray, List.set_cons_zero, List.set_cons_succ])
          refine wpAnyH_take (i := 14) (oi := { dst := some 42, op := Op.binOp BinOp.lss 9 (Operand.tmp 36) (Operand.tmp 41) 9, type := 4, pos := "l04_filter.go:251", after := #[{ on := 8, ground := Ground.data }, { on := 13, ground := Ground.data }, { on := 4, ground := Ground.guard }], guard := some (4, true) }) (v := undef) rfl (by kernel_rfl) (by kernel_rfl) (by kernel_rfl) (fun _ _ _ h => h) (Or.inr ⟨by rfl, rfl⟩) (by assumption) ?_
          (try simp only [Act.put, List.setIfInBounds_toArray, List.set_cons_zero, List.set_cons_succ])
          refine wpAnyH_take (i := 15) (oi := { dst := some 43, op := Op.pick (Operand.tmp 32) (Operand.tmp 42) (Operand.const (Value.bool false)), type := 4, pos := "l04_filter.go:251", after := #[{ on := 4, ground := Ground.data }, { on := 14, ground := Ground.data }], guard := none }) (v := ?_) rfl (by kernel_rfl) (by kernel_rfl) (by kernel_rfl) (fun _ _ _ h => h) (Or.inl ⟨by rfl, ?_⟩) (by assumption) ?_
          rotate_left
          · intro w hSw; (try dsimp only at hSw); go_simp; (try with_reducible rfl)
          (try simp only [Act.put, List.setIfInBounds_toArray, List.set_cons_zero, List.set_cons_succ])
          refine wpAnyH_done (by kernel_rfl) ?_ _
          clear hHeld
          go_wp2_with fail
          refine wp_region_held_drew (S := (fun Z => Below w2.heap.size w2 Z)) (by kernel_rfl) ?_ (fun hHeld => ?_)
          · (try dsimp only)
            assumption
          refine wpAnyH_take (i := 0) (oi := { dst := some 46, op := Op.move (Operand.tmp 5), type := 3, pos := "l04_filter.go:254", after := #[], guard := none }) (v := ?_) rfl (by kernel_rfl) (by kernel_rfl) (by kernel_rfl) (fun _ _ _ h => h) (Or.inl ⟨by rfl, ?_⟩) (by assumption) ?_
          rotate_left
          · intro w hSw; (try dsimp only at hSw); go_simp; (try with_reducible rfl)
          (try simp only [Act.put, List.setIfInBounds_toArray, List.set_cons_zero, List.set_cons_succ])
          refine wpAnyH_take (i := 1) (oi := { dst := some 47, op := Op.move (Operand.tmp 3), type := 29, pos := "l04_filter.go:254", after := #[], guard := none }) (v := ?_) rfl (by kernel_rfl) (by kernel_rfl) (by kernel_rfl) (fun _ _ _ h => h) (Or.inl ⟨by rfl, ?_⟩) (by assumption) ?_
          rotate_left
          · intro w hSw; (try dsimp only at hSw); go_simp; (try with_reducible rfl)
          (try simp only [Act.put, List.setIfInBounds_toArray, List.set_cons_zero, List.set_cons_succ])
          refine wpAnyH_take (i := 2) (oi := { dst := some 48, op := Op.call { callee := Callee.builtin Builtin.len, args := #[Operand.tmp 47], argTypes := #[29] }, type := 3, pos := "l04_filter.go:254", after := #[{ on := 1, ground := Ground.data }], guard := none }) (v := ?_) rfl (by kernel_rfl) (by kernel_rfl) (by kernel_rfl) (fun _ _ _ h => h) (Or.inl ⟨by rfl, ?_⟩) (by assumption) ?_
          rotate_left
          · intro w hSw; (try dsimp only at hSw); go_simp; (try with_reducible rfl)
          (try simp only [Act.put, List.setIfInBounds_toArray, List.set_cons_zero, List.set_cons_succ])
          refine wpAnyH_take (i := 3) (oi := { dst := some 49, op := Op.binOp BinOp.lss 3 (Operand.tmp 46) (Operand.tmp 48) 3, type := 4, pos := "l04_filter.go:254", after := #[{ on := 0, ground := Ground.data }, { on := 2, ground := Ground.data }], guard := none }) (v := ?_) rfl (by kernel_rfl) (by kernel_rfl) (by kernel_rfl) (fun _ _ _ h => h) (Or.inl ⟨by rfl, ?_⟩) (by assumption) ?_
          rotate_left
          · intro w hSw; (try dsimp only at hSw); go_simp; (try with_reducible rfl)
          (try simp only [Act.put, List.setIfInBounds_toArray, List.set_cons_zero, List.set_cons_succ])
          refine wpAnyH_take (i := 4) (oi := { dst := some 50, op := Op.move (Operand.tmp 49), type := 4, pos := "l04_filter.go:254", after := #[{ on := 3, ground := Ground.data }], guard := none }) (v := ?_) rfl (by kernel_rfl) (by kernel_rfl) (by kernel_rfl) (fun _ _ _ h => h) (Or.inl ⟨by rfl, ?_⟩) (by assumption) ?_
          rotate_left
          · intro w hSw; (try dsimp only at hSw); go_simp; (try with_reducible rfl)
          (try simp only [Act.put, List.setIfInBounds_toArray, List.set_cons_zero, List.set_cons_succ])
          refine wpAnyH_take (i := 5) (oi := { dst := some 51, op := Op.move (Operand.tmp 3), type := 29, pos := "l04_filter.go:254", after := #[{ on := 4, ground := Ground.guard }], guard := some (4, true) }) (v := undef) rfl (by kernel_rfl) (by kernel_rfl) (by kernel_rfl) (fun _ _ _ h => h) (Or.inr ⟨by rfl, rfl⟩) (by assumption) ?_
          (try simp only [Act.put, List.setIfInBounds_toArray, List.set_cons_zero, List.set_cons_succ])
          refine wpAnyH_take (i := 6) (oi := { dst := some 52, op := Op.move (Operand.tmp 5), type := 3, pos := "l04_filter.go:254", after := #[{ on := 4, ground := Ground.guard }], guard := some (4, true) }) (v := undef) rfl (by kernel_rfl) (by kernel_rfl) (by kernel_rfl) (fun _ _ _ h => h) (Or.inr ⟨by rfl, rfl⟩) (by assumption) ?_
          (try simp only [Act.put, List.setIfInBounds_toArray, List.set_cons_zero, List.set_cons_succ])
          refine wpAnyH_take (i := 7) (oi := { dst := some 53, op := Op.indexAddr 29 (Operand.tmp 51) (Operand.tmp 52), type := 0, pos := "l04_filter.go:254", after := #[{ on := 5, ground := Ground.data }, { on := 6, ground := Ground.data }, { on := 4, ground := Ground.guard }], guard := some (4, true) }) (v := undef) rfl (by kernel_rfl) (by kernel_rfl) (by kernel_rfl) (fun _ _ _ h => h) (Or.inr ⟨by rfl, rfl⟩) (by assumption) ?_
          (try simp only [Act.put, List.setIfInBounds_toArray, List.set_cons_zero, List.set_cons_succ])
          refine wpAnyH_take (i := 8) (oi := { dst := some 54, op := Op.load 9 (Operand.tmp 53), type := 9, pos := "l04_filter.go:254", after := #[{ on := 7, ground := Ground.data }, { on := 4, ground := Ground.guard }], guard := some (4, true) }) (v := undef) rfl (by kernel_rfl) (by kernel_rfl) (by kernel_rfl) (fun _ _ _ h => h) (Or.inr ⟨by rfl, rfl⟩) (by assumption) ?_
          (try simp only [Act.put, List.setIfInBounds_toArray, List.set_cons_zero, List.set_cons_succ])
          refine wpAnyH_take (i := 9) (oi := { dst := some 55, op := Op.move (Operand.tmp 0), type := 25, pos := "l04_filter.go:254", after := #[{ on := 4, ground := Ground.guard }], guard := some (4, true) }) (v := undef) rfl (by kernel_rfl) (by kernel_rfl) (by kernel_rfl) (fun _ _ _ h => h) (Or.inr ⟨by rfl, rfl⟩) (by assumption) ?_
          (try simp only [Act.put, List.setIfInBounds_toArray, List.set_cons_zero, List.set_cons_succ])
          refine wpAnyH_take (i := 10) (oi := { dst := some 56, op := Op.move (Operand.tmp 4), type := 3, pos := "l04_filter.go:254", after := #[{ on := 4, ground := Ground.guard }], guard := some (4, true) }) (v := undef) rfl (by kernel_rfl) (by kernel_rfl) (by kernel_rfl) (fun _ _ _ h => h) (Or.inr ⟨by rfl, rfl⟩) (by assumption) ?_
          (try simp only [Act.put, List.setIfInBounds_toArray, List.set_cons_zero, List.set_cons_succ])
          refine wpAnyH_take (i := 11) (oi := { dst := some 57, op := Op.indexAddr 25 (Operand.tmp 55) (Operand.tmp 56), type := 0, pos := "l04_filter.go:254", after := #[{ on := 9, ground := Ground.data }, { on := 10, ground := Ground.data }, { on := 4, ground := Ground.guard }], guard := some (4, true) }) (v := undef) rfl (by kernel_rfl) (by kernel_rfl) (by kernel_rfl) (fun _ _ _ h => h) (Or.inr ⟨by rfl, rfl⟩) (by assumption) ?_
          (try simp only [Act.put, List.setIfInBounds_toArray, List.set_cons_zero, List.set_cons_succ])
          refine wpAnyH_take (i := 12) (oi := { dst := some 58, op := Op.fieldAddr 104 (Operand.tmp 57) 1, type := 0, pos := "l04_filter.go:254", after := #[{ on := 11, ground := Ground.data }, { on := 4, ground := Ground.guard }], guard := some (4, true) }) (v := undef) rfl (by kernel_rfl) (by kernel_rfl) (by kernel_rfl) (fun _ _ _ h => h) (Or.inr ⟨by rfl, rfl⟩) (by assumption) ?_
          (try simp only [Act.put, List.setIfInBounds_toArray, List.set_cons_zero, List.set_cons_succ])
          refine wpAnyH_take (i := 13) (oi := { dst := some 59, op := Op.load 9 (Operand.tmp 58), type := 9, pos := "l04_filter.go:254", after := #[{ on := 12, ground := Ground.data }, { on := 4, ground := Ground.guard }], guard := some (4, true) }) (v := undef) rfl (by kernel_rfl) (by kernel_rfl) (by kernel_rfl) (fun _ _ _ h => h) (Or.inr ⟨by rfl, rfl⟩) (by assumption) ?_
          (try simp only [Act.put, List.setIfInBounds_toArray, List.set_cons_zero, List.set_cons_succ])
          refine wpAnyH_take (i := 14) (oi := { dst := some 60, op := Op.binOp BinOp.eql 9 (Operand.tmp 54) (Operand.tmp 59) 9, type := 4, pos := "l04_filter.go:254", after := #[{ on := 8, ground := Ground.data }, { on := 13, ground := Ground.data }, { on := 4, ground := Ground.guard }], guard := some (4, true) }) (v := undef) rfl (by kernel_rfl) (by kernel_rfl) (by kernel_rfl) (fun _ _ _ h => h) (Or.inr ⟨by rfl, rfl⟩) (by assumption) ?_
          (try simp only [Act.put, List.setIfInBounds_toArray, List.set_cons_zero, List.set_cons_succ])
          refine wpAnyH_take (i := 15) (oi := { dst := some 61, op := Op.pick (Operand.tmp 50) (Operand.tmp 60) (Operand.const (Value.bool false)), type := 4, pos := "l04_filter.go:254", after := #[{ on := 4, ground := Ground.data }, { on := 14, ground := Ground.data }], guard := none }) (v := ?_) rfl (by kernel_rfl) (by kernel_rfl) (by kernel_rfl) (fun _ _ _ h => h) (Or.inl ⟨by rfl, ?_⟩) (by assumption) ?_
          rotate_left
          · intro w hSw; (try dsimp only at hSw); go_simp; (try with_reducible rfl)
          (try simp only [Act.put, List.setIfInBounds_toArray, List.set_cons_zero, List.set_cons_succ])
          refine wpAnyH_done (by kernel_rfl) ?_ _
          generalize wr.drew.drew = W at *
          have HWb : Hid (Below w2.heap.size w2 W) := Lib.hid hbr2
          have HSW : Hid (StrsAt W (some ⟨g, 0, none⟩) l) := Lib.hid (HS.out.below HWb.out)
          have Z2 := Lib.hid (own_zeroS W (B := W.heap.size) rfl (Nat.le_refl _)); have B3 := Lib.hid (more (Below.refl W.heap.size W) (.cells #[] 9)); have L2 := B3.out.size
          have D2 : Hid (StrsAt (W.alloc (.cells #[] 9)) (some ⟨g, 0, none⟩) (l.take j)) := Lib.hid (strs_take (HSW.out.below B3.out) j)
          have hBW : w.heap.size ≤ W.heap.size := Nat.le_trans hB HWb.out.size
          clear hHeld
          go_wp2_with (first
            | (at_builtin; refine append_strs W.heap.size rfl _ _ rfl _ (l.take j ++ [a1]) rfl O4.out _ (l.drop j) _ _ (by simp) rfl (.inl HDn.out) (fun e => by split at e <;> cases e) (by simp; omega) L4 B5.out ?_; intro v5 w5 hown5 hbel5; rw [List.append_assoc] at hown5)
            | (at_builtin; refine append_str W.heap.size rfl _ _ rfl _ (l.take j) rfl O3.out a1 rfl (by simp; omega) L3 B4.out ?_; intro v4 w4 hown4 hbel4 hsz4 _ _; have O4 := Lib.hid hown4; have B5 := Lib.hid hbel4; have L4 := hsz4; have D4 := Lib.hid (strs_drop (HSW.out.below hbel4) j); rw [Nat.zero_add] at D4; clear hown4 hbel4)
            | (at_builtin; refine append_strs W.heap.size rfl _ _ rfl _ [] rfl Z2.out (some ⟨g, 0, none⟩) (l.take j) cap2 _ HTk.out.symm rfl D2.out (fun e => by cases e) (by simp; omega) L2 B3.out ?_; rw [List.nil_append]; intro v3 w3 hown3 hbel3; have O3 := Lib.hid hown3; have B4 := Lib.hid hbel3; have L3 := hbel3.size; have c3 := C1.out _ (HWb.out.trans (hbel3.mono HWb.out.size)); clear hown3 hbel3)
            | (fail "none"))
          all_goals (
            obtain ⟨g5, cap5, rfl, _, _⟩ := hown5.form (by simp only [List.length_append, List.length_cons]; omega)
            have HW := Lib.hid (own_mono hown5 hBW); have BW := Lib.hid (B2.trans ((HWb.out.trans (hbel5.mono HWb.out.size)).mono hB)); clear hown5 hbel5
            go_roundw
            case rel => exact ⟨k + 1, by omega, by go_num, by rw [HE.out, HP.out]; exact HW.out, ⟨_, _, _, rfl⟩, BW.out⟩
            case measure => simp [intOf]; omega)
    · have e : f.take k = f := List.take_of_length_le (by omega)
      rw [e] at HO ⊢
      have HOw : Hid (SlOwn strE (Fresh w wr) wr (attrsR f) (.slice (some ⟨g, 0, none⟩) (putAll [] (namesF f)).length cap2)) := Lib.hid (by rw [HR.out]; exact own_texts HO.out)
      clear e
      go_wp2
      go_ret
      exact ⟨⟨_, rfl, HOw.out⟩, hbel⟩
end Go.Proofs.Ytlgafmgohinkbaa
/- FilterAttrs: how large the answer is. -/
namespace Go.Proofs.Ytlgafmgohinkbaa
theorem szL_map_leF {α β : Type} (e : Enc α) (e' : Enc β) (f : α → β) (l : List α) (h : ∀ x, e'.sz (f x) ≤ e.sz x) : szL e' (l.map f) ≤ szL e l := by
  induction l with
  | nil => exact Nat.le_refl _
  | cons x l ih => rw [List.map_cons, szL_cons, szL_cons]; have := h x; omega
theorem szL_filterF {α : Type} (e : Enc α) (p : α → Bool) (l : List α) : szL e (l.filter p) ≤ szL e l := by
  induction l with
  | nil => exact Nat.le_refl _
  | cons x l ih =>
    rw [List.filter_cons]
    cases p x
    · rw [szL_cons]; simp only [Bool.false_eq_true, if_false]; omega
    · simp only [if_true]; rw [szL_cons, szL_cons]; omega
theorem putS_szF (l : List ByteArray) (t : ByteArray) : (putS l t).length + szL strE (putS l t) ≤ l.length + szL strE l + 1 + strE.sz t := by
  unfold putS
  split
  · omega
  · have h : szL strE (l.take (kOf l t)) + szL strE (l.drop (kOf l t)) = szL strE l := by
      unfold szL
      rw [← List.sum_append, ← List.map_append, List.take_append_drop]
    have h2 : szL strE (l.take (kOf l t) ++ t :: l.drop (kOf l t)) = szL strE (l.take (kOf l t)) + (strE.sz t + szL strE (l.drop (kOf l t))) := by
      unfold szL
      rw [List.map_append, List.sum_append, List.map_cons, List.sum_cons]
    rw [h2, List.length_append, List.length_cons, List.length_take, List.length_drop]
    omega
theorem putAll_szF (l acc : List ByteArray) : (putAll acc l).length + szL strE (putAll acc l) ≤ acc.length + szL strE acc + l.length + szL strE l := by
  induction l generalizing acc with
  | nil => simp [putAll]
  | cons x l ih =>
    have e : putAll acc (x :: l) = putAll (putS acc x) l := rfl
    rw [e, List.length_cons, szL_cons]
    have := ih (putS acc x); have := putS_szF acc x
    omega
theorem attrsR_sz (f : List NodeT) : (attrsR f).length + szL strE (attrsR f) ≤ f.length + szL nodeE f := by
  unfold attrsR
  split
  · have h1 := putAll_szF (namesF f) []
    have h2 : szL strE (namesF f) ≤ szL nodeE (f.filter (fun x => !x.2.1.toList.isEmpty)) := szL_map_leF nodeE strE (fun x => x.2.1) _ (fun x => by show x.2.1.size ≤ 0 + (x.2.1.size + (x.2.2.1.size + 0)); omega)
    have h3 := szL_filterF nodeE (fun x => !x.2.1.toList.isEmpty) f
    have h4 : (namesF f).length ≤ f.length := by unfold namesF; rw [List.length_map]; exact List.length_filter_le _ _
    have h5 : szL strE ([] : List ByteArray) = 0 := rfl
    rw [h5] at h1
    simp only [List.length_nil] at h1
    omega
  · simp [szL]
end Go.Proofs.Ytlgafmgohinkbaa
