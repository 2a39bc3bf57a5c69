/- Merged texts: EndS, FcM, FcJ, FrS, ClO, szNode, toNode, eqNode, FilterRightW, Opn. -/
import Derived.Test.YtlgafmgohinkbaaM5
import Derived.Test.YtlgafmgohinkbaaM4
import Derived.Test.YtlgafmgohinkbaaM1
import Derived.Test.YtlgafmgohinkbaaM2
import Derived.Laws.MakeOwn
import Derived.SliceStrings
import Derived.Test.YtlgafmgohinkbaaRows
/- Filters: where the filter that begins at a place ends: the specification. -/
namespace Go.Proofs.Ytlgafmgohinkbaa
open Go.RowKit
attribute [local go_sem ↓] Go.wp_at_zero Go.wp_at_succ

def iterE (g : Nat → Option Nat) : Nat → Option Nat → Option Nat
  | 0, a => a
  | _ + 1, none => none
  | n + 1, some a => iterE g n (g a)
/-- the place behind the filter that begins at a place, no deeper than r -/
noncomputable def endF (f : List NodeT) : Nat → Nat → Option Nat
  | 0, _ => none
  | r + 1, k => if h : k < f.length then if nodeS f[k] = true then iterE (endF f r) (f[k].2.2.2).toNat (some (k + 1)) else none else none
def optI : Option Nat → Int
  | none => -1
  | some a => (a : Int)
theorem iterE_le {g : Nat → Option Nat} {N : Nat} (hg : ∀ a b, g a = some b → b ≤ N) : ∀ (n : Nat) (a : Option Nat) (b : Nat), (∀ c, a = some c → c ≤ N) → iterE g n a = some b → b ≤ N
  | 0, a, b, ha, h => ha b h
  | _ + 1, none, _, _, h => by cases h
  | n + 1, some a, b, _, h => iterE_le hg n (g a) b (fun c hc => hg a c hc) h
theorem endF_le (f : List NodeT) : ∀ (r k b : Nat), endF f r k = some b → b ≤ f.length
  | 0, _, _, h => by cases h
  | r + 1, k, b, h => by
    unfold endF at h
    split at h
    · split at h
      · exact iterE_le (fun a c hc => endF_le f r a c hc) _ _ _ (fun c hc => by injection hc with hc; omega) h
      · cases h
    · cases h
theorem iterE_none (g : Nat → Option Nat) : ∀ n, iterE g n none = none
  | 0 => rfl
  | _ + 1 => rfl
theorem nodeS_many {x : NodeT} (h : nodeS x = true) : 0 ≤ x.2.2.2 ∧ x.2.2.2 ≤ 20 := by
  unfold nodeS at h
  split at h
  · simp at h; omega
  · split at h
    · simp at h; omega
    · split at h
      · simp at h; omega
      · split at h
        · simp at h; omega
        · cases h
set_option maxRecDepth 100000 in
set_option maxHeartbeats 4000000 in
theorem l04End_any {S : Bs} (f : List NodeT) (ao : Option Addr) (cap : Nat) (hz : f.length + szL nodeE f ≤ 1048576) : ∀ (r k : Nat) (w : World), r ≤ 5 → k ≤ f.length → SlAt nodeE S w f (.slice ao f.length cap) →
    Calls Try.prog 71 #[.slice ao f.length cap, .int .i64 k, .int .i64 ((6 : Int) - r)] w fun e w' => e = .returned (.int .i64 (optI (endF f r k))) ∧ Below w.heap.size w w' := by
  intro r
  induction r with
  | zero =>
    intro k w _ hk hf
    have hl : f.length ≤ 1048576 := by omega
    by_cases hlt : k < f.length
    · have g2 : (k : Int) < (f.length : Int) := by omega
      clear hf
      go_enter Try.func71, Try.ntmps71
      go_wp2
      go_ret
      exact ⟨rfl, Below.refl _ _⟩
    · have g2 : ¬ (k : Int) < (f.length : Int) := by omega
      clear hf
      go_enter Try.func71, Try.ntmps71
      go_wp2
      go_ret
      exact ⟨rfl, Below.refl _ _⟩
  | succ r ih =>
    intro k w hr hk hf
    have hl : f.length ≤ 1048576 := by omega
    by_cases hlt : k < f.length
    rotate_left
    · have g2 : ¬ (k : Int) < (f.length : Int) := by omega
      clear hf
      go_enter Try.func71, Try.ntmps71
      go_wp2
      go_ret
      exact ⟨ret_int (by unfold endF; rw [dif_neg hlt]; rfl), Below.refl _ _⟩
    have g2 : (k : Int) < (f.length : Int) := by omega
    have HF := Lib.hid hf
    obtain ⟨b, off, a0, a1, a2, a3, rfl, _, hb0, hx, ⟨hc0, hc1, hc2, hc3⟩, _⟩ := node_row hf hlt
    have HM : Hid (nodeS (a0, a1, a2, a3) = true → 0 ≤ a3 ∧ a3 ≤ 20) := Lib.hid (fun h => nodeS_many h)
    have HZ : Hid (a1.size ≤ 1048576 ∧ a2.size ≤ 1048576) := Lib.hid (by
      have h1 := szL_mem nodeE (List.getElem_mem hlt)
      rw [hx] at h1
      have h2 : nodeE.sz (a0, a1, a2, a3) = 0 + (a1.size + (a2.size + 0)) := rfl
      omega)
    have HT0 : Hid (nodeS (a0, a1, a2, a3) = false → endF f (r + 1) k = none) := Lib.hid (fun h => by unfold endF; rw [dif_pos hlt, hx, if_neg (by rw [h]; simp)])
    have HT1 : Hid (nodeS (a0, a1, a2, a3) = true → endF f (r + 1) k = iterE (endF f r) a3.toNat (some (k + 1))) := Lib.hid (fun h => by unfold endF; rw [dif_pos hlt, hx, if_pos h])
    have HLe : Hid (∀ a b, endF f r a = some b → b ≤ f.length) := Lib.hid (fun a b h => endF_le f r a b h)
    have CN : Hid (∀ W : World, Calls Try.prog 131 #[.agg #[.int .i64 a0, .string a1, .string a2, .int .i64 a3]] W fun e w' => e = .returned (.bool (nodeS (a0, a1, a2, a3))) ∧ Below W.heap.size W w') := Lib.hid (fun W => l04Node_any a0 a1 a2 a3 W HZ.out.1 HZ.out.2)
    obtain ⟨D, hD⟩ : ∃ D : Int, D = 6 - ((r + 1 : Nat) : Int) := ⟨_, rfl⟩
    have d0 : 1 ≤ D := by omega
    have d1 : D ≤ 5 := by omega
    have d2 : D + 1 = 6 - (r : Int) := by omega
    have IH : Hid (∀ (a : Nat) (W : World), Below w.heap.size w W → a ≤ f.length → Calls Try.prog 71 #[.slice (some ⟨b, off, none⟩) f.length cap, .int .i64 (a : Int), .int .i64 (D + 1)] W fun e w' => e = .returned (.int .i64 (optI (endF f r a))) ∧ Below W.heap.size W w') := Lib.hid (fun a W hb ha => by rw [d2]; exact ih a W (by omega) ha (HF.out.frame (Same.of_below' hb)))
    rw [← hD]
    clear hf hx ih hr hD d2
    generalize endF f (r + 1) k = T at *
    generalize nodeS (a0, a1, a2, a3) = ns at *
    generalize endF f r = g at *
    have g1 : (0 : Int) ≤ (k : Int) := by omega
    have g3 : ¬ f.length ≤ k := by omega
    have g4 : ¬ (5 : Int) < D := by omega
    have g5 : decide (f.length ≤ k) = false := by simp; omega
    have g6 : decide (5 < D) = false := by simp; omega
    go_enter Try.func71, Try.ntmps71
    go_wp2_with fail
    refine (CN.out w).mono ?_
    rintro e w2 ⟨rfl, hb⟩
    cases ns
    · have HR := Lib.hid (HT0.out rfl)
      go_wp2
      go_ret
      exact ⟨ret_int (by rw [HR.out]; rfl), hb⟩
    have HR := Lib.hid (HT1.out rfl)
    obtain ⟨m1, m2⟩ := HM.out rfl
    have c3 := (hb.cell (p := ⟨b, off + k * 4 + 3, none⟩) hb0).trans hc3
    clear HT0 HT1 HM
    go_wp2
    go_loopw [1, 7] (fun a n wr => ∃ (m : Nat) (c : Option Nat), n = .int .i64 m ∧ a = .int .i64 (optI c) ∧ m ≤ 20 ∧ T = iterE g m c ∧ (∀ x, c = some x → x ≤ f.length) ∧ Below w.heap.size w wr) (fun _ n _ => (intOf n).toNat)
    case atStart => exact ⟨a3.toNat, some (k + 1), by rw [Int.toNat_of_nonneg m1], by simp [optI], by omega, HR.out, fun x h => by injection h with h; omega, hb⟩
    case round =>
      clear hc0 hc1 hc2 hc3 c3 HR m1 m2 hb
      obtain ⟨m, c, rfl, rfl, hm, hT, hc, hbel⟩ := hrel
      have HTT := Lib.hid hT; clear hT
      rcases m with _ | m
      · have HO : Hid (T = c) := Lib.hid (by rw [HTT.out]; rfl)
        go_wp2
        go_ret
        exact ⟨ret_int (by rw [HO.out]), hbel⟩
      rcases c with _ | c
      · have HO : Hid (T = none) := Lib.hid (by rw [HTT.out]; rfl)
        have h1 : (0 : Int) < ((m + 1 : Nat) : Int) := by omega
        go_wp2
        go_ret
        exact ⟨ret_int (by rw [HO.out]), hbel⟩
      have hcl : c ≤ f.length := hc c rfl
      have HTn : Hid (T = iterE g m (g c)) := Lib.hid (by rw [HTT.out]; rfl)
      have hle := Lib.hid (HLe.out c)
      clear HTT hc
      show _
      have h1 : (0 : Int) < ((m + 1 : Nat) : Int) := by omega
      have h2 : (0 : Int) ≤ (c : Int) := by omega
      have h3 : ((m + 1 : Nat) : Int) - 1 = (m : Int) := by omega
      have e1 : optI (some c) = (c : Int) := rfl
      go_wp2_with fail
      refine (IH.out c wr hbel hcl).mono ?_
      rintro e w3 ⟨rfl, hb⟩
      have b3 := hbel.trans (hb.mono hbel.size)
      clear hb
      generalize g c = c' at *
      go_wp2
      go_roundw
      case rel => exact ⟨m, c', by go_num, rfl, by omega, HTn.out, hle.out, b3⟩
      case measure => simp [intOf]
end Go.Proofs.Ytlgafmgohinkbaa
/- Filters: the program's parse and the specification's end agree. -/
namespace Go.Proofs.Ytlgafmgohinkbaa

/-- so many parts one after the other: the place behind them, and the greatest depth -/
def iterP (g : Nat → Option (Nat × Nat)) : Nat → Nat → Nat → Option (Nat × Nat)
  | 0, k, m => some (k, m)
  | n + 1, k, m => match g k with
    | none => none
    | some (k', d) => iterP g n k' (max m d)
/-- what the program reads at a place: the place behind it and its depth -/
noncomputable def parseF (f : List NodeT) : Nat → Nat → Option (Nat × Nat)
  | 0, _ => none
  | r + 1, k => if h : k < f.length then if nodeI f[k] = true then (iterP (parseF f r) (f[k].2.2.2).toNat (k + 1) 0).map (fun x => (x.1, x.2 + 1)) else none else none
theorem nodeS_I {x : NodeT} (h : nodeS x = true) : nodeI x = true := by
  unfold nodeS at h; unfold nodeI
  split at h
  · rename_i c; rw [if_pos c]; simp at h ⊢; exact ⟨h.1, h.2.1⟩
  · rename_i c; rw [if_neg c]; exact h
theorem nodeI_S {x : NodeT} (h : nodeI x = true) (hm : x.2.2.2 ≤ 20) : nodeS x = true := by
  unfold nodeI at h; unfold nodeS
  split at h
  · rename_i c; rw [if_pos c]; simp at h ⊢; exact ⟨h.1, h.2, hm⟩
  · rename_i c; rw [if_neg c]; exact h
theorem iterP_le {g : Nat → Option (Nat × Nat)} (hg : ∀ a b d, g a = some (b, d) → a + 1 ≤ b) : ∀ (n k m p q : Nat), iterP g n k m = some (p, q) → k + n ≤ p ∧ m ≤ q
  | 0, k, m, p, q, h => by simp only [iterP, Option.some.injEq, Prod.mk.injEq] at h; omega
  | n + 1, k, m, p, q, h => by
    unfold iterP at h
    split at h
    · cases h
    · rename_i k' d e
      have h1 := hg k k' d e
      have h2 := iterP_le hg n k' (max m d) p q h
      omega
theorem parse_le (f : List NodeT) : ∀ (r k p d : Nat), parseF f r k = some (p, d) → k + 1 ≤ p ∧ p ≤ f.length ∧ 1 ≤ d
  | 0, _, _, _, h => by cases h
  | r + 1, k, p, d, h => by
    unfold parseF at h
    split at h
    · split at h
      · rw [Option.map_eq_some_iff] at h
        obtain ⟨⟨p', m⟩, h1, h2⟩ := h
        simp only [Prod.mk.injEq] at h2
        obtain ⟨rfl, rfl⟩ := h2
        have h3 := iterP_le (fun a b d h => (parse_le f r a b d h).1) _ _ _ _ _ h1
        refine ⟨by omega, ?_, by omega⟩
        have h4 : ∀ (n k m p q : Nat), k ≤ f.length → iterP (parseF f r) n k m = some (p, q) → p ≤ f.length := by
          intro n
          induction n with
          | zero => intro k m p q hk h; simp only [iterP, Option.some.injEq, Prod.mk.injEq] at h; omega
          | succ n ih =>
            intro k m p q hk h
            unfold iterP at h
            split at h
            · cases h
            · rename_i k' d e
              exact ih k' _ p q (parse_le f r k k' d e).2.1 h
        exact h4 _ _ _ _ _ (by omega) h1
      · cases h
    · cases h
theorem iter_to {g : Nat → Option (Nat × Nat)} {e : Nat → Option Nat} {s : Nat} (hg : ∀ a b d, g a = some (b, d) → d ≤ s → e a = some b) (hge : ∀ a b d, g a = some (b, d) → a + 1 ≤ b) : ∀ (n k m p q : Nat), iterP g n k m = some (p, q) → q ≤ s → iterE e n (some k) = some p
  | 0, k, m, p, q, h, _ => by simp only [iterP, Option.some.injEq, Prod.mk.injEq] at h; simp [iterE, h.1]
  | n + 1, k, m, p, q, h, hq => by
    unfold iterP at h
    split at h
    · cases h
    · rename_i k' d c
      have h2 := iterP_le hge n k' (max m d) p q h
      show iterE e n (e k) = some p
      rw [hg k k' d c (by omega)]
      exact iter_to hg hge n k' (max m d) p q h hq
theorem parse_end (f : List NodeT) (hl : f.length ≤ 20) : ∀ (r k p d s : Nat), parseF f r k = some (p, d) → d ≤ s → endF f s k = some p
  | 0, _, _, _, _, h, _ => by cases h
  | r + 1, k, p, d, s, h, hs => by
    have h0 := parse_le f (r + 1) k p d h
    unfold parseF at h
    split at h
    · rename_i hk
      split at h
      · rename_i hn
        rw [Option.map_eq_some_iff] at h
        obtain ⟨⟨p', m⟩, h1, h2⟩ := h
        simp only [Prod.mk.injEq] at h2
        obtain ⟨rfl, rfl⟩ := h2
        obtain ⟨s', rfl⟩ : ∃ s', s = s' + 1 := ⟨s - 1, by omega⟩
        have h3 := iterP_le (fun a b d h => (parse_le f r a b d h).1) _ _ _ _ _ h1
        have hm : f[k].2.2.2 ≤ 20 := by have h4 := h0.2.1; have h5 := h3.1; omega
        unfold endF
        rw [dif_pos hk, if_pos (nodeI_S hn hm)]
        exact iter_to (s := s') (fun a b d h hd => parse_end f hl r a b d s' h hd) (fun a b d h => (parse_le f r a b d h).1) _ _ _ _ _ h1 (by omega)
      · cases h
    · cases h
theorem iter_from {g : Nat → Option (Nat × Nat)} {e : Nat → Option Nat} {s : Nat} (hg : ∀ a b, e a = some b → ∃ d, d ≤ s ∧ g a = some (b, d)) : ∀ (n k m p : Nat), iterE e n (some k) = some p → ∃ q, q ≤ max m s ∧ iterP g n k m = some (p, q)
  | 0, k, m, p, h => by simp only [iterE, Option.some.injEq] at h; exact ⟨m, by omega, by simp [iterP, h]⟩
  | n + 1, k, m, p, h => by
    have h' : iterE e n (e k) = some p := h
    rcases c : e k with _ | k'
    · rw [c, iterE_none] at h'; cases h'
    · rw [c] at h'
      obtain ⟨d, hd, hgd⟩ := hg k k' c
      obtain ⟨q, hq, h2⟩ := iter_from hg n k' (max m d) p h'
      refine ⟨q, by omega, ?_⟩
      unfold iterP; rw [hgd]; exact h2
theorem end_parse (f : List NodeT) : ∀ (s k p r : Nat), endF f s k = some p → s ≤ r → ∃ d, d ≤ s ∧ parseF f r k = some (p, d)
  | 0, _, _, _, h, _ => by cases h
  | s + 1, k, p, r, h, hr => by
    obtain ⟨r', rfl⟩ : ∃ r', r = r' + 1 := ⟨r - 1, by omega⟩
    unfold endF at h
    split at h
    · rename_i hk
      split at h
      · rename_i hn
        obtain ⟨q, hq, h1⟩ := iter_from (s := s) (fun a b h => end_parse f s a b r' h (by omega)) _ _ 0 _ h
        refine ⟨q + 1, by omega, ?_⟩
        unfold parseF
        rw [dif_pos hk, if_pos (nodeS_I hn), h1]
        rfl
      · cases h
    · cases h
end Go.Proofs.Ytlgafmgohinkbaa
/- Filters: the program reads a clause. -/
namespace Go.Proofs.Ytlgafmgohinkbaa
open Go.RowKit
attribute [local go_sem ↓] Go.wp_at_zero Go.wp_at_succ

/-- the list from place k on -/
def TailN (ao : Option Addr) (L k : Nat) (v : Value) : Prop := ∃ a c, v = .slice a (L - k) c ∧ L - k ≤ c ∧ (k < L → ∀ b off, ao = some ⟨b, off, none⟩ → a = some ⟨b, off + k * 4, none⟩)
def GivesF (f : List NodeT) (k : Nat) (ao : Option Addr) (L : Nat) (w : World) (R : Option (Nat × Nat)) (e : Ending) (w' : World) : Prop :=
  (match R with
    | none => e = .returned (.tuple #[.nilIface, .slice none 0 0])
    | some (p, d) => ∃ T x v, e = .returned (.tuple #[.iface T x, v]) ∧ ClP f (Fresh w w') w' (k, p, d) (.iface T x) ∧ TailN ao L p v) ∧ Below w.heap.size w w'
section
variable {ops : Array Oper} {rest : List Oper} {o : Oper} {a : Act} {Q : Exit → Act → World → Prop} {w3 : World}
theorem Try.infoTClause : (Try.prog.info? 107).map (fun i => (i.zero, i.size, i.bytes)) = some (some .nilIface, 1, 16) := by kernel_rfl
theorem append_cl (B : Nat) (hgd : o.guard = none) (s x : Operand)
    (ho : o.op = .call { callee := .builtin .append, args := #[s, x], argTypes := #[198, 198] }) (v : Value) (n : Nat) (xs : List Value) (hs : a.eval s = v) (hown : w3.ownsRow B 107 1 v n xs)
    (T : TypeId) (y : Value) (hx : a.eval x = .slice (some ⟨w3.heap.size, 0, none⟩) 1 1) (hlen : n ≤ 100000000) (hB : B ≤ w3.heap.size)
    (h : ∀ g cap w', w'.ownsRow B 107 1 (.slice (some ⟨g, 0, none⟩) (n + 1) cap) (n + 1) (xs ++ [.iface T y]) → (w3.alloc (.cells #[.iface T y] 107)).grownBy w' v.ownBlock → (v.ownBlock = some g ∨ g = w3.heap.size + 1) → wpList Try.prog ops Q rest (a.put o.dst (.slice (some ⟨g, 0, none⟩) (n + 1) cap)) w') :
    wpList Try.prog ops Q (o :: rest) a (w3.alloc (.cells #[.iface T y] 107)) := by
  obtain ⟨i0, hi, hz0, hz1, hz2⟩ := info_parts Try.infoTClause
  refine wpList_append_lies _ hgd s x 198 ho B 107 i0 _ 1 16 Try.underlying198 hi hz0 hz1 hz2 rfl (by decide) v n xs hs (hown.alloc _) ⟨w3.heap.size, 0, none⟩ 1 1 [.iface T y] hx rfl (World.news_of_block (cs := #[.iface T y]) (t := 107) (fr := (0, 0)) (heap_alloc_new _ _)) ?_ (by omega) ?_ ?_ ?_ (w3.heap.size + 1) (by simp) ?_
  · intro u hu; simp at hu; rcases hu with rfl; rfl
  · unfold maxLen; omega
  · omega
  · simp; omega
  · intro g cap w' h1 h2 h3 _
    exact h g cap w' h1 h2 h3
end
theorem run_bsCl (T : TypeId) (x : Value) (w : World) : (Instr.buildSlice 198 1 #[(0, .iface T x)]).run Try.prog w = .ok (.slice (some ⟨w.heap.size, 0, none⟩) 1 1) (w.alloc (.cells #[.iface T x] 107)) := by kernel_rfl
attribute [local go_sem ↓] run_bsCl
theorem nodeI_op {x : NodeT} (h : nodeI x = true) (hn : x.1 = 1 ∨ x.1 = 2 ∨ x.1 = 3) : 1 ≤ x.2.2.2 := by
  unfold nodeI at h
  split at h
  · simp at h; exact h.2
  · rw [if_pos (by omega)] at h; simp at h; omega
theorem nodeI_leaf {x : NodeT} (h : nodeI x = true) (hn : ¬ (x.1 = 1 ∨ x.1 = 2 ∨ x.1 = 3)) : x.2.2.2 = 0 := by
  unfold nodeI at h
  rw [if_neg (by omega), if_neg (by omega)] at h
  split at h
  · simp at h; exact h.2
  · split at h
    · simp at h; exact h.2
    · cases h
set_option maxRecDepth 100000 in
set_option maxHeartbeats 4000000 in
theorem firstClause_any {S : Bs} (f : List NodeT) (ao : Option Addr) (cap : Nat) (hz : f.length + szL nodeE f ≤ 1048576) : ∀ (r k : Nat) (w : World) (v : Value), f.length - k < r → k ≤ f.length → SlAt nodeE S w f (.slice ao f.length cap) → TailN ao f.length k v →
    Calls Try.prog 132 #[v] w (GivesF f k ao f.length w (parseF f r k)) := by
  intro r
  induction r with
  | zero => intro k w v h; omega
  | succ r ih =>
    intro k w v hr hk hf ht
    have hl : f.length ≤ 1048576 := by omega
    obtain ⟨a, c, rfl, hc, ha⟩ := ht
    by_cases hlt : k < f.length
    rotate_left
    · have e0 : f.length - k = 0 := by omega
      rw [e0]
      clear hf ha
      have HR : Hid (parseF f (r + 1) k = none) := Lib.hid (by unfold parseF; rw [dif_neg hlt])
      go_enter Try.func132, Try.ntmps132
      go_wp2
      refine bodyPost_ret (v := .tuple #[.nilIface, .slice none 0 0]) (by simp [results, Try.results132, go_sem]) rfl ?_
      rw [HR.out]
      exact ⟨rfl, Below.refl _ _⟩
    have HF := Lib.hid hf
    obtain ⟨b, off, a0, a1, a2, a3, rfl, _, hb0, hx, ⟨hc0, hc1, hc2, hc3⟩, _⟩ := node_row hf hlt
    obtain rfl := ha hlt b off rfl
    have HZ : Hid (a1.size ≤ 1048576 ∧ a2.size ≤ 1048576) := Lib.hid (by
      have h1 := szL_mem nodeE (List.getElem_mem hlt)
      rw [hx] at h1
      have h2 : nodeE.sz (a0, a1, a2, a3) = 0 + (a1.size + (a2.size + 0)) := rfl
      omega)
    have HT0 : Hid (nodeI (a0, a1, a2, a3) = false → parseF f (r + 1) k = none) := Lib.hid (fun h => by unfold parseF; rw [dif_pos hlt, hx, if_neg (by rw [h]; simp)])
    have HT1 : Hid (nodeI (a0, a1, a2, a3) = true → parseF f (r + 1) k = (iterP (parseF f r) a3.toNat (k + 1) 0).map (fun x => (x.1, x.2 + 1))) := Lib.hid (fun h => by unfold parseF; rw [dif_pos hlt, hx, if_pos h])
    have HLe : Hid (∀ a b d, parseF f r a = some (b, d) → a + 1 ≤ b ∧ b ≤ f.length ∧ 1 ≤ d) := Lib.hid (fun a b d h => parse_le f r a b d h)
    have HX := Lib.hid hx; have HN0 : Hid (nodeI (a0, a1, a2, a3) = true → nodeI f[k] = true) := Lib.hid (fun h => by rw [hx]; exact h)
    have K0 := Lib.hid hc0; have K1 := Lib.hid hc1; have K2 := Lib.hid hc2; have K3 := Lib.hid hc3
    have HLf : Hid (nodeI (a0, a1, a2, a3) = true → ¬ (a0 = 1 ∨ a0 = 2 ∨ a0 = 3) → a3 = 0) := Lib.hid (fun h hn => nodeI_leaf h hn)
    have HOp : Hid (nodeI (a0, a1, a2, a3) = true → (a0 = 1 ∨ a0 = 2 ∨ a0 = 3) → 1 ≤ a3) := Lib.hid (fun h hn => nodeI_op h hn)
    have CN : Hid (∀ W : World, Calls Try.prog 175 #[.agg #[.int .i64 a0, .string a1, .string a2, .int .i64 a3]] W fun e w' => e = .returned (.bool (nodeI (a0, a1, a2, a3))) ∧ Below W.heap.size W w') := Lib.hid (fun W => nodeRight_any a0 a1 a2 a3 W HZ.out.1 HZ.out.2)
    have IH : Hid (∀ (j : Nat) (W : World) (u : Value), k < j → j ≤ f.length → Below w.heap.size w W → TailN (some ⟨b, off, none⟩) f.length j u → Calls Try.prog 132 #[u] W (GivesF f j (some ⟨b, off, none⟩) f.length W (parseF f r j))) := Lib.hid (fun j W u h1 h2 hb h3 => ih j W u (by omega) h2 (HF.out.frame (Same.of_below' hb)) h3)
    obtain ⟨M, hM⟩ : ∃ M, f.length - k = M + 1 := ⟨f.length - k - 1, by omega⟩
    rw [hM] at hc ⊢
    clear hf hx ih ha
    generalize parseF f (r + 1) k = R at *
    generalize nodeI (a0, a1, a2, a3) = ns at *
    generalize parseF f r = g at *
    go_enter Try.func132, Try.ntmps132
    go_wp2_with fail
    refine (CN.out w).mono ?_
    rintro e w2 ⟨rfl, hb⟩
    cases ns
    · have HR := Lib.hid (HT0.out rfl)
      go_wp2
      refine bodyPost_ret (v := .tuple #[.nilIface, .slice none 0 0]) (by simp [results, Try.results132, go_sem]) rfl ?_
      rw [HR.out]
      exact ⟨rfl, hb⟩
    have HR := Lib.hid (HT1.out rfl)
    have c3 := (hb.cell (p := ⟨b, off + k * 4 + 3, none⟩) hb0).trans hc3
    clear HT0 HT1
    by_cases ec : c = 1
    · go_wp2
      go_loopw [4, 5, 24] (fun rv pv i wr => ∃ (j q m : Nat) (ds : List PartT) (xs : List Value), i = .int .i64 j ∧ (j = 0 ∨ (j : Int) ≤ a3) ∧ k < q ∧ q ≤ f.length ∧ j ≤ q ∧ TailN (some ⟨b, off, none⟩) f.length q rv ∧ Grow (clE f) 107 w.heap.size wr pv ds xs ∧ ds.length = j ∧ deepest ds = m ∧ chainP (k + 1) ds q ∧ iterP g a3.toNat (k + 1) 0 = iterP g (a3.toNat - j) q m ∧ Below w.heap.size w wr) (fun _ _ i _ => f.length + 1 - (intOf i).toNat)
      case atStart => exact ⟨0, k + 1, 0, [], [], rfl, .inl rfl, by omega, by omega, by omega, ⟨_, _, by rw [show f.length - (k + 1) = M by omega], by omega, fun h bb oo e => by injection e with e; injection e with e1 e2; subst e1 e2; first | (exfalso; omega) | (congr 2; omega)⟩, Grow.nil _ _ _ _, rfl, rfl, rfl, rfl, hb⟩
      case round =>
        clear hc0 hc1 hc2 hc3 c3 hb
        obtain ⟨j, q, m, ds, xs, rfl, hj, hkq, hq, hjq, ht, hg, hdl, hdm, hch, hit, hbel⟩ := hrel
        have HG := Lib.hid hg; have HTl := Lib.hid ht; have HI := Lib.hid hit; have HDl := Lib.hid hdl; have HDm := Lib.hid hdm; have HCh := Lib.hid hch
        clear hg ht hit hdl hdm hch
        by_cases hlt2 : (j : Int) < a3
        · have HT2 := Lib.hid HTl.out
          obtain ⟨a', c', rfl, _, _⟩ := HTl.out
          obtain ⟨n2, hn2⟩ : ∃ n2, a3.toNat - j = n2 + 1 := ⟨a3.toNat - j - 1, by omega⟩
          have HI2 := HI.out
          rw [hn2] at HI2
          have HI3 := Lib.hid HI2
          have hn3 : a3.toNat - (j + 1) = n2 := by omega
          have hle := Lib.hid (HLe.out q)
          have HCl := Lib.hid (IH.out q wr _ hkq hq hbel HT2.out)
          clear HI2
          go_wp2_with fail
          refine HCl.out.mono ?_
          rintro e w3 ⟨hres, hb3⟩
          have b3 := hbel.trans (hb3.mono hbel.size)
          rcases hgq : g q with _ | ⟨q', dq⟩
          · rw [hgq] at hres
            obtain rfl := hres
            have HN : Hid (R = none) := Lib.hid (by rw [HR.out, HI3.out]; unfold iterP; rw [hgq]; rfl)
            clear hgq
            go_wp2
            refine bodyPost_ret (v := .tuple #[.nilIface, .slice none 0 0]) (by simp [results, Try.results132, go_sem]) rfl ?_
            rw [HN.out]
            exact ⟨rfl, b3⟩
          · rw [hgq] at hres
            obtain ⟨T, x, v', rfl, hcl, htl⟩ := hres
            have HN := Lib.hid (show iterP g a3.toNat (k + 1) 0 = iterP g n2 q' (max m dq) by rw [HI3.out]; show (match g q with | none => none | some (k', d) => iterP g n2 k' (max m d)) = _; rw [hgq])
            obtain ⟨l1, l2, _⟩ := hle.out q' dq hgq
            exfalso; omega
        · have hj0 : a3.toNat - j = 0 := by omega
          have HI2 := HI.out
          rw [hj0] at HI2
          have HRs : Hid (R = some (q, m + 1)) := Lib.hid (by rw [HR.out, HI2]; rfl)
          clear HI2
          have c0 := (hbel.cell (p := ⟨b, off + k * 4, none⟩) hb0).trans K0.out
          have c1 := (hbel.cell (p := ⟨b, off + k * 4 + 1, none⟩) hb0).trans K1.out
          have c2 := (hbel.cell (p := ⟨b, off + k * 4 + 2, none⟩) hb0).trans K2.out
          have c3 := (hbel.cell (p := ⟨b, off + k * 4 + 3, none⟩) hb0).trans K3.out
          obtain ⟨p7, n7, q7, hv7⟩ := own_slice3' HG.out.row
          subst hv7
          have HT2 := Lib.hid HTl.out
          obtain ⟨a', c', rfl, _, _⟩ := HTl.out
          go_wp2_with fail
          refine (newClause_any a0 a1 a2 a3 p7 n7 q7 wr).mono ?_
          clear c0 c1 c2 c3
          rintro e w5 ⟨⟨T, hres⟩, hb5⟩
          have b5 := hbel.trans (hb5.mono hbel.size)
          have hf0 : f[k].1 = a0 := by rw [HX.out]
          have hf3 : f[k].2.2.2 = a3 := by rw [HX.out]
          rcases hres with ⟨hop, rfl⟩ | ⟨hop, rfl⟩
          · have HD : Hid (ClP f (Fresh w w5) w5 (k, q, m + 1) (.iface T (.agg #[.slice p7 n7 q7]))) := Lib.hid (by
              have h0 : 1 ≤ a3 := HOp.out (by first | rfl | trivial) (by omega)
              have h1 := ClP.of HG.out.own.at (by have := HDl.out; omega) hlt (HN0.out (by first | rfl | trivial)) (by rw [hf0]; exact hop) (by rw [hf3, HDl.out]; omega) HCh.out
              rw [HDm.out] at h1
              exact (h1.frame (Same.of_below' hb5)).wide (fun b h => ⟨h.1, Nat.lt_of_lt_of_le h.2 hb5.size⟩))
            clear hop
            go_wp2
            refine bodyPost_ret (v := .tuple #[.iface T (.agg #[.slice p7 n7 q7]), .slice a' (f.length - q) c']) (by simp [results, Try.results132, go_sem]) rfl ?_
            rw [HRs.out]
            exact ⟨⟨T, _, _, rfl, HD.out, HT2.out⟩, b5⟩
          · have h3 : a3 = 0 := HLf.out (by first | rfl | trivial) hop
            have hj1 : j = 0 := by omega
            have hd0 : ds = [] := List.length_eq_zero_iff.1 (by rw [HDl.out, hj1])
            have hm0 : m = 0 := by rw [← HDm.out, hd0]; rfl
            have hq0 : q = k + 1 := by have := HCh.out; rw [hd0] at this; exact this.symm
            have HD : Hid (ClP f (Fresh w w5) w5 (k, q, m + 1) (.iface 231 (.agg #[.int .i64 a0, .string a1, .string a2, .int .i64 a3]))) := Lib.hid (by rw [hm0, hq0]; exact .leaf k hlt a0 a1 a2 a3 HX.out (HN0.out (by first | rfl | trivial)) hop)
            clear h3 hj1 hd0 hm0 hq0 hop
            go_wp2
            refine bodyPost_ret (v := .tuple #[.iface 231 (.agg #[.int .i64 a0, .string a1, .string a2, .int .i64 a3]), .slice a' (f.length - q) c']) (by simp [results, Try.results132, go_sem]) rfl ?_
            rw [HRs.out]
            exact ⟨⟨231, _, _, rfl, HD.out, HT2.out⟩, b5⟩
    · go_wp2
      go_loopw [4, 5, 24] (fun rv pv i wr => ∃ (j q m : Nat) (ds : List PartT) (xs : List Value), i = .int .i64 j ∧ (j = 0 ∨ (j : Int) ≤ a3) ∧ k < q ∧ q ≤ f.length ∧ j ≤ q ∧ TailN (some ⟨b, off, none⟩) f.length q rv ∧ Grow (clE f) 107 w.heap.size wr pv ds xs ∧ ds.length = j ∧ deepest ds = m ∧ chainP (k + 1) ds q ∧ iterP g a3.toNat (k + 1) 0 = iterP g (a3.toNat - j) q m ∧ Below w.heap.size w wr) (fun _ _ i _ => f.length + 1 - (intOf i).toNat)
      case atStart => exact ⟨0, k + 1, 0, [], [], rfl, .inl rfl, by omega, by omega, by omega, ⟨_, _, by rw [show f.length - (k + 1) = M by omega], by omega, fun h bb oo e => by injection e with e; injection e with e1 e2; subst e1 e2; first | (exfalso; omega) | (congr 2; omega)⟩, Grow.nil _ _ _ _, rfl, rfl, rfl, rfl, hb⟩
      case round =>
        clear hc0 hc1 hc2 hc3 c3 hb
        obtain ⟨j, q, m, ds, xs, rfl, hj, hkq, hq, hjq, ht, hg, hdl, hdm, hch, hit, hbel⟩ := hrel
        have HG := Lib.hid hg; have HTl := Lib.hid ht; have HI := Lib.hid hit; have HDl := Lib.hid hdl; have HDm := Lib.hid hdm; have HCh := Lib.hid hch
        clear hg ht hit hdl hdm hch
        by_cases hlt2 : (j : Int) < a3
        · have HT2 := Lib.hid HTl.out
          obtain ⟨a', c', rfl, _, _⟩ := HTl.out
          obtain ⟨n2, hn2⟩ : ∃ n2, a3.toNat - j = n2 + 1 := ⟨a3.toNat - j - 1, by omega⟩
          have HI2 := HI.out
          rw [hn2] at HI2
          have HI3 := Lib.hid HI2
          have hn3 : a3.toNat - (j + 1) = n2 := by omega
          have hle := Lib.hid (HLe.out q)
          have HCl := Lib.hid (IH.out q wr _ hkq hq hbel HT2.out)
          clear HI2
          go_wp2_with fail
          refine HCl.out.mono ?_
          rintro e w3 ⟨hres, hb3⟩
          have b3 := hbel.trans (hb3.mono hbel.size)
          rcases hgq : g q with _ | ⟨q', dq⟩
          · rw [hgq] at hres
            obtain rfl := hres
            have HN : Hid (R = none) := Lib.hid (by rw [HR.out, HI3.out]; unfold iterP; rw [hgq]; rfl)
            clear hgq
            go_wp2
            refine bodyPost_ret (v := .tuple #[.nilIface, .slice none 0 0]) (by simp [results, Try.results132, go_sem]) rfl ?_
            rw [HN.out]
            exact ⟨rfl, b3⟩
          · rw [hgq] at hres
            obtain ⟨T, x, v', rfl, hcl, htl⟩ := hres
            have HN := Lib.hid (show iterP g a3.toNat (k + 1) 0 = iterP g n2 q' (max m dq) by rw [HI3.out]; show (match g q with | none => none | some (k', d) => iterP g n2 k' (max m d)) = _; rw [hgq])
            obtain ⟨l1, l2, _⟩ := hle.out q' dq hgq
            have HTn := Lib.hid htl; have HCd := Lib.hid hcl
            obtain ⟨a9, c9, rfl, _, _⟩ := htl
            have D3 := Lib.hid hb3
            obtain ⟨p7, n7, q7, hv7⟩ := own_slice3' HG.out.row
            subst hv7
            have R3 : Hid (w3.ownsRow w.heap.size 107 1 (.slice p7 n7 q7) ds.length xs) := Lib.hid (HG.out.below hb3).row
            have hb1 : w.heap.size ≤ wr.heap.size := hbel.size
            have hB3 : w.heap.size ≤ w3.heap.size := b3.size
            have hdl2 : ds.length ≤ 100000000 := by have := HDl.out; omega
            clear hgq hcl hb3
            go_wp2_with (first
              | (at_builtin; refine append_cl w.heap.size rfl _ _ rfl _ _ xs rfl R3.out T x rfl hdl2 hB3 ?_; intro g7 cap7 w5 h1 h2 h3)
              | (fail "none"))
            have HG5 : Hid (Grow (clE f) 107 w.heap.size w5 (.slice (some ⟨g7, 0, none⟩) (ds.length + 1) cap7) (ds ++ [(q, q', dq)]) (xs ++ [.iface T x])) := Lib.hid (Grow.step HG.out hb1 D3.out ⟨_, rfl, HCd.out⟩ (more' (Below.refl _ _) _) h1 h2 (fun g' hg' => by
              have e : g7 = g' := by simpa [Value.ownBlock] using hg'
              subst e
              rcases h3 with h | h
              · exact .inl h
              · exact .inr (by omega)))
            have B5 : Below w.heap.size w w5 := (b3.alloc b3.size _).grown h2 (by simp; omega) (fun r hr => by have := (R3.out.lt r hr).1; omega)
            clear h1 h2 h3 R3
            go_wp2
            go_roundw
            case rel =>
              exact ⟨_, _, _, _, _, _, _, _, _, _, _, _, _, _, _, _, _, _, _, _, _, ⟨j + 1, q', max m dq, ds ++ [(q, q', dq)], _, by go_num, .inr (by omega), by omega, l2, by omega, HTn.out, HG5.out, by simp [HDl.out], by unfold deepest at *; rw [List.map_append, List.foldl_append, HDm.out]; rfl, chainP_snoc HCh.out rfl, by rw [hn3]; exact HN.out, B5⟩, rfl⟩
            case measure => simp [intOf]; omega
        · have hj0 : a3.toNat - j = 0 := by omega
          have HI2 := HI.out
          rw [hj0] at HI2
          have HRs : Hid (R = some (q, m + 1)) := Lib.hid (by rw [HR.out, HI2]; rfl)
          clear HI2
          have c0 := (hbel.cell (p := ⟨b, off + k * 4, none⟩) hb0).trans K0.out
          have c1 := (hbel.cell (p := ⟨b, off + k * 4 + 1, none⟩) hb0).trans K1.out
          have c2 := (hbel.cell (p := ⟨b, off + k * 4 + 2, none⟩) hb0).trans K2.out
          have c3 := (hbel.cell (p := ⟨b, off + k * 4 + 3, none⟩) hb0).trans K3.out
          obtain ⟨p7, n7, q7, hv7⟩ := own_slice3' HG.out.row
          subst hv7
          have HT2 := Lib.hid HTl.out
          obtain ⟨a', c', rfl, _, _⟩ := HTl.out
          go_wp2_with fail
          refine (newClause_any a0 a1 a2 a3 p7 n7 q7 wr).mono ?_
          clear c0 c1 c2 c3
          rintro e w5 ⟨⟨T, hres⟩, hb5⟩
          have b5 := hbel.trans (hb5.mono hbel.size)
          have hf0 : f[k].1 = a0 := by rw [HX.out]
          have hf3 : f[k].2.2.2 = a3 := by rw [HX.out]
          rcases hres with ⟨hop, rfl⟩ | ⟨hop, rfl⟩
          · have HD : Hid (ClP f (Fresh w w5) w5 (k, q, m + 1) (.iface T (.agg #[.slice p7 n7 q7]))) := Lib.hid (by
              have h0 : 1 ≤ a3 := HOp.out (by first | rfl | trivial) (by omega)
              have h1 := ClP.of HG.out.own.at (by have := HDl.out; omega) hlt (HN0.out (by first | rfl | trivial)) (by rw [hf0]; exact hop) (by rw [hf3, HDl.out]; omega) HCh.out
              rw [HDm.out] at h1
              exact (h1.frame (Same.of_below' hb5)).wide (fun b h => ⟨h.1, Nat.lt_of_lt_of_le h.2 hb5.size⟩))
            clear hop
            go_wp2
            refine bodyPost_ret (v := .tuple #[.iface T (.agg #[.slice p7 n7 q7]), .slice a' (f.length - q) c']) (by simp [results, Try.results132, go_sem]) rfl ?_
            rw [HRs.out]
            exact ⟨⟨T, _, _, rfl, HD.out, HT2.out⟩, b5⟩
          · have h3 : a3 = 0 := HLf.out (by first | rfl | trivial) hop
            have hj1 : j = 0 := by omega
            have hd0 : ds = [] := List.length_eq_zero_iff.1 (by rw [HDl.out, hj1])
            have hm0 : m = 0 := by rw [← HDm.out, hd0]; rfl
            have hq0 : q = k + 1 := by have := HCh.out; rw [hd0] at this; exact this.symm
            have HD : Hid (ClP f (Fresh w w5) w5 (k, q, m + 1) (.iface 231 (.agg #[.int .i64 a0, .string a1, .string a2, .int .i64 a3]))) := Lib.hid (by rw [hm0, hq0]; exact .leaf k hlt a0 a1 a2 a3 HX.out (HN0.out (by first | rfl | trivial)) hop)
            clear h3 hj1 hd0 hm0 hq0 hop
            go_wp2
            refine bodyPost_ret (v := .tuple #[.iface 231 (.agg #[.int .i64 a0, .string a1, .string a2, .int .i64 a3]), .slice a' (f.length - q) c']) (by simp [results, Try.results132, go_sem]) rfl ?_
            rw [HRs.out]
            exact ⟨⟨231, _, _, rfl, HD.out, HT2.out⟩, b5⟩
end Go.Proofs.Ytlgafmgohinkbaa
/- Filters: which are right: the specification. -/
namespace Go.Proofs.Ytlgafmgohinkbaa
open Go.RowKit
attribute [local go_sem ↓] Go.wp_at_zero Go.wp_at_succ

noncomputable def filterB (f : List NodeT) : Bool := decide (f.length ≤ 20) && (optI (endF f 5 0) == (f.length : Int))
set_option maxRecDepth 100000 in
set_option maxHeartbeats 4000000 in
theorem SpecFilterRight_any {S : Bs} (v : Value) (f : List NodeT) (w : World) (hf : SlAt nodeE S w f v) (hz : f.length + szL nodeE f ≤ 1048576) :
    Calls Try.prog 12 #[v] w fun e w' => e = .returned (.bool (filterB f)) ∧ Below w.heap.size w w' := by
  obtain ⟨ao, cap, rfl⟩ := hf.sl
  have hl : f.length ≤ 1048576 := by omega
  have CE : Hid (Calls Try.prog 71 #[.slice ao f.length cap, .int .i64 0, .int .i64 1] w fun e w' => e = .returned (.int .i64 (optI (endF f 5 0))) ∧ Below w.heap.size w w') := Lib.hid (l04End_any f ao cap hz 5 0 w (by omega) (by omega) hf)
  have HR : Hid (filterB f = (decide (f.length ≤ 20) && (optI (endF f 5 0) == (f.length : Int)))) := Lib.hid rfl
  generalize filterB f = r at *
  generalize optI (endF f 5 0) = n at *
  clear hf hz
  by_cases h : f.length ≤ 20
  · have h' : (f.length : Int) ≤ 20 := by omega
    go_enter Try.func12, Try.ntmps12
    go_wp2_with fail
    refine CE.out.mono ?_
    rintro e w2 ⟨rfl, hb⟩
    go_wp2
    go_ret
    exact ⟨ret_bool (by rw [HR.out]; simp [h]), hb⟩
  · have h' : ¬ (f.length : Int) ≤ 20 := by omega
    go_enter Try.func12, Try.ntmps12
    go_wp2
    go_ret
    exact ⟨ret_bool (by rw [HR.out]; simp [h]), Below.refl _ _⟩
end Go.Proofs.Ytlgafmgohinkbaa
/- Filters: a filter as one clause; which are right: the program. -/
namespace Go.Proofs.Ytlgafmgohinkbaa
open Go.RowKit
attribute [local go_sem ↓] Go.wp_at_zero Go.wp_at_succ

theorem iterP_dle {g : Nat → Option (Nat × Nat)} {s : Nat} (hg : ∀ a b d, g a = some (b, d) → d ≤ s) : ∀ (n k m p q : Nat), iterP g n k m = some (p, q) → q ≤ max m s
  | 0, k, m, p, q, h => by simp only [iterP, Option.some.injEq, Prod.mk.injEq] at h; omega
  | n + 1, k, m, p, q, h => by
    unfold iterP at h
    split at h
    · cases h
    · rename_i k' d e
      have h1 := hg k k' d e
      have h2 := iterP_dle hg n k' (max m d) p q h
      omega
theorem parse_deep (f : List NodeT) : ∀ (r k p d : Nat), parseF f r k = some (p, d) → d ≤ r
  | 0, _, _, _, h => by cases h
  | r + 1, k, p, d, h => by
    unfold parseF at h
    split at h
    · split at h
      · rw [Option.map_eq_some_iff] at h
        obtain ⟨⟨p', m⟩, h1, h2⟩ := h
        simp only [Prod.mk.injEq] at h2
        obtain ⟨rfl, rfl⟩ := h2
        have h3 := iterP_dle (fun a b d h => parse_deep f r a b d h) _ _ _ _ _ h1
        omega
      · cases h
    · cases h
/-- the depth of a right filter -/
noncomputable def deepR (f : List NodeT) : Option Nat := if f.length ≤ 20 then (match parseF f (f.length + 6) 0 with | some (p, d) => if p = f.length ∧ d ≤ 5 then some d else none | none => none) else none
theorem deep_filter (f : List NodeT) : filterB f = (deepR f).isSome := by
  unfold filterB deepR
  by_cases h : f.length ≤ 20
  · rw [if_pos h]
    rcases hp : parseF f (f.length + 6) 0 with _ | ⟨p, d⟩
    · rcases he : endF f 5 0 with _ | q
      · have : ((-1 : Int) == (f.length : Int)) = false := by (first | (simp; done) | (simp; omega))
        simp [optI, this]
      · obtain ⟨d, _, h2⟩ := end_parse f 5 0 q (f.length + 6) he (by omega)
        rw [hp] at h2; cases h2
    · by_cases hd : d ≤ 5
      · rw [parse_end f h _ _ p d 5 hp hd]
        by_cases e : p = f.length
        · simp [optI, h, e, hd]
        · have : ((p : Int) == (f.length : Int)) = false := by (first | (simp; done) | (simp; omega))
          simp [optI, this, e]
      · rcases he : endF f 5 0 with _ | q
        · have : ((-1 : Int) == (f.length : Int)) = false := by (first | (simp; done) | (simp; omega))
          simp [optI, this, hd]
        · obtain ⟨d', hd', h2⟩ := end_parse f 5 0 q (f.length + 6) he (by omega)
          rw [hp] at h2
          injection h2 with h2
          simp only [Prod.mk.injEq] at h2
          omega
  · simp [h]
def GivesO (f : List NodeT) (w : World) (R : Option Nat) (e : Ending) (w' : World) : Prop :=
  (match R with
    | none => e = .returned .nilIface
    | some d => ∃ T x, e = .returned (.iface T x) ∧ ClP f (Fresh w w') w' (0, f.length, d) (.iface T x)) ∧ Below w.heap.size w w'
set_option maxRecDepth 100000 in
set_option maxHeartbeats 4000000 in
theorem clauseOf_any {S : Bs} (v : Value) (f : List NodeT) (w : World) (hf : SlAt nodeE S w f v) (hz : f.length + szL nodeE f ≤ 1048576) :
    Calls Try.prog 73 #[v] w (GivesO f w (deepR f)) := by
  obtain ⟨ao, cap, rfl⟩ := hf.sl
  have hl : f.length ≤ 1048576 := by omega
  have ht : TailN ao f.length 0 (.slice ao f.length cap) := ⟨ao, cap, by simp, by
    obtain ⟨_, c, e, h, _⟩ := hf
    injection e with _ _ e3
    omega, fun _ b off e => by rw [e]; first | (congr 2; omega) | congr 2 | simp⟩
  by_cases h : f.length ≤ 20
  rotate_left
  · have HR : Hid (deepR f = none) := Lib.hid (by unfold deepR; rw [if_neg h])
    have h' : (20 : Int) < (f.length : Int) := by omega
    clear hf ht
    go_enter Try.func73, Try.ntmps73
    go_wp2
    go_ret
    rw [HR.out]
    exact ⟨rfl, Below.refl _ _⟩
  have h' : ¬ (20 : Int) < (f.length : Int) := by omega
  have HC := Lib.hid (firstClause_any f ao cap hz (f.length + 6) 0 w _ (by omega) (by omega) hf ht)
  have HN : Hid (parseF f (f.length + 6) 0 = none → deepR f = none) := Lib.hid (fun e => by unfold deepR; rw [if_pos h, e])
  have HS : Hid (∀ p d, parseF f (f.length + 6) 0 = some (p, d) → deepR f = (if p = f.length ∧ d ≤ 5 then some d else none) ∧ d ≤ 1000000 ∧ p ≤ f.length) := Lib.hid (fun p d e => ⟨by unfold deepR; rw [if_pos h, e], by have := parse_deep f _ _ _ _ e; omega, (parse_le f _ _ _ _ e).2.1⟩)
  clear hf ht
  generalize deepR f = R at *
  generalize parseF f (f.length + 6) 0 = P at *
  go_enter Try.func73, Try.ntmps73
  go_wp2_with fail
  refine HC.out.mono ?_
  rintro e w1 ⟨hres, b1⟩
  rcases P with _ | ⟨p, d⟩
  · have HR := Lib.hid (HN.out rfl)
    dsimp only at hres
    obtain rfl := hres
    go_wp2
    go_ret
    rw [HR.out]
    exact ⟨rfl, b1⟩
  obtain ⟨T, x, v, rfl, hcl, htl⟩ := hres
  obtain ⟨hR, hd, hp⟩ := HS.out p d rfl
  have HCl := Lib.hid hcl
  obtain ⟨a', c', rfl, _, _⟩ := htl
  clear HN HS hcl
  by_cases hpl : p = f.length
  rotate_left
  · have HR : Hid (R = none) := Lib.hid (by rw [hR, if_neg (by omega)])
    have hpos : (0 : Int) < ((f.length - p : Nat) : Int) := by omega
    clear hR
    generalize f.length - p = n at *
    go_wp2
    go_ret
    rw [HR.out]
    exact ⟨rfl, b1⟩
  have hz0 : f.length - p = 0 := by omega
  rw [hz0]
  have HR : Hid (R = if d ≤ 5 then some d else none) := Lib.hid (by rw [hR]; by_cases h5 : d ≤ 5 <;> simp [hpl, h5])
  clear hR
  go_wp2_with fail
  refine (depthOf_any HCl.out hd w1 (Below.refl _ _)).mono ?_
  rintro e w2 ⟨rfl, b2⟩
  have B2 := Lib.hid (b1.trans (b2.mono b1.size))
  by_cases h5 : d ≤ 5
  · have h5' : ¬ (5 : Int) < ((d : Nat) : Int) := by omega
    have HR2 : Hid (R = some d) := Lib.hid (by rw [HR.out, if_pos h5])
    have HC2 : Hid (ClP f (Fresh w w2) w2 (0, f.length, d) (.iface T x)) := Lib.hid (by
      have h1 := HCl.out
      rw [hpl] at h1
      exact (h1.frame (Same.of_below' b2)).wide (fun b h => ⟨h.1, Nat.lt_of_lt_of_le h.2 b2.size⟩))
    clear b2
    go_wp2
    go_ret
    rw [HR2.out]
    exact ⟨⟨T, x, rfl, HC2.out⟩, B2.out⟩
  · have h5' : (5 : Int) < ((d : Nat) : Int) := by omega
    have HR2 : Hid (R = none) := Lib.hid (by rw [HR.out, if_neg h5])
    clear b2
    go_wp2
    go_ret
    rw [HR2.out]
    exact ⟨rfl, B2.out⟩
set_option maxRecDepth 100000 in
set_option maxHeartbeats 4000000 in
theorem FilterRight_any {S : Bs} (v : Value) (f : List NodeT) (w : World) (hf : SlAt nodeE S w f v) (hz : f.length + szL nodeE f ≤ 1048576) :
    Calls Try.prog 14 #[v] w fun e w' => e = .returned (.bool (filterB f)) ∧ Below w.heap.size w w' := by
  have HC := Lib.hid (clauseOf_any v f w hf hz)
  have HR := Lib.hid (deep_filter f)
  obtain ⟨ao, cap, rfl⟩ := hf.sl
  clear hf hz
  generalize filterB f = r at *
  generalize deepR f = d at *
  go_enter Try.func14, Try.ntmps14
  go_wp2_with fail
  refine HC.out.mono ?_
  rintro e w1 ⟨hres, b1⟩
  rcases d with _ | d
  · dsimp only at hres
    obtain rfl := hres
    go_wp2
    go_ret
    exact ⟨ret_bool (by rw [HR.out]; rfl), b1⟩
  · obtain ⟨T, x, rfl, _⟩ := hres
    go_wp2
    go_ret
    exact ⟨ret_bool (by rw [HR.out]; rfl), b1⟩
end Go.Proofs.Ytlgafmgohinkbaa
/- The helpers of the laws: sizes. -/
namespace Go.Proofs.Ytlgafmgohinkbaa
open Go.RowKit
attribute [local go_sem ↓] Go.wp_at_zero Go.wp_at_succ

set_option maxRecDepth 100000 in
set_option maxHeartbeats 4000000 in
theorem szNode_at  (a0 : Int) (a1 : ByteArray) (a2 : ByteArray) (a3 : Int)  (left : Int) (w : World)  (hl : nodeE.long (a0, a1, a2, a3)) (g0 : 0 ≤ left) (g1 : left ≤ 1048576) :
    Calls Try.prog 70 #[.agg #[.int .i64 a0, .string a1, .string a2, .int .i64 a3], .int .i64 left] w fun e w' => e = .returned (.int .i64 (leftR (nodeE.sz (a0, a1, a2, a3)) left)) ∧ Below w.heap.size w w' := by
  have HE : Hid (nodeE.sz (a0, a1, a2, a3) = 0 + (a1.size + (a2.size + (0)))) := Lib.hid rfl
  have z1 : a1.size ≤ 9223372036854775807 := by have := hl.2.1; simp only [strE, maxLen] at this; omega
  have z2 : a2.size ≤ 9223372036854775807 := by have := hl.2.2.1; simp only [strE, maxLen] at this; omega
  clear hl
  generalize nodeE.sz (a0, a1, a2, a3) = z at *
  by_cases g3 : (a1.size : Int) ≤ left
  · have c1 : ¬ left - (a1.size : Int) < 0 := by omega
    by_cases g4 : (a2.size : Int) ≤ left - (a1.size : Int)
    · have c2 : ¬ left - (a1.size : Int) - (a2.size : Int) < 0 := by omega
      have HR : Hid (leftR z left = left - (a1.size : Int) - (a2.size : Int)) := Lib.hid (by rw [leftR_pos (by rw [HE.out]; omega), HE.out]; omega)
      go_enter Try.func70, Try.ntmps70
      go_wp2
      go_ret
      exact ⟨ret_int (by rw [HR.out]), (Below.refl _ _).alloc (Nat.le_refl _) _⟩
    · have c2 : left - (a1.size : Int) - (a2.size : Int) < 0 := by omega
      have HR : Hid (leftR z left = -1) := Lib.hid (leftR_neg (by rw [HE.out]; omega))
      go_enter Try.func70, Try.ntmps70
      go_wp2
      go_ret
      exact ⟨ret_int (by rw [HR.out]), (Below.refl _ _).alloc (Nat.le_refl _) _⟩
  · have c1 : left - (a1.size : Int) < 0 := by omega
    have HR : Hid (leftR z left = -1) := Lib.hid (leftR_neg (by rw [HE.out]; omega))
    go_enter Try.func70, Try.ntmps70
    go_wp2
    go_ret
    exact ⟨ret_int (by rw [HR.out]), (Below.refl _ _).alloc (Nat.le_refl _) _⟩
set_option maxRecDepth 100000 in
set_option maxHeartbeats 4000000 in
theorem szNodeS_at {S : Bs} (v : Value) (d : List NodeT) (left : Int) (w : World) (hd : SlAt nodeE S w d v) (hf : (slE nodeE).long d) (h0 : 0 ≤ left) (h1 : left ≤ 1048576) :
    Calls Try.prog 11 #[v, .int .i64 left] w fun e w' => e = .returned (.int .i64 (leftR (d.length + szL nodeE d) left)) ∧ Below w.heap.size w w' := by
  obtain ⟨ao, cap, rfl⟩ := hd.sl
  have hl : d.length ≤ 9223372036854775807 := hf.1
  have HD := Lib.hid hd; have HF := Lib.hid hf; clear hd hf
  by_cases g : (d.length : Int) ≤ left
  · have c1 : ¬ left - (d.length : Int) < 0 := by omega
    go_enter Try.func11, Try.ntmps11
    go_wp2
    go_loopw [1, 5] (fun t i wr => ∃ k : Nat, k ≤ d.length ∧ i = .int .i64 k ∧ ((d.length + szL nodeE (d.take k) : Nat) : Int) ≤ left ∧ t = .int .i64 (left - (d.length + szL nodeE (d.take k) : Nat)) ∧ Below w.heap.size w wr) (fun _ i _ => d.length - (intOf i).toNat)
    case atStart => exact ⟨0, Nat.zero_le _, rfl, by simp [szL]; omega, by simp [szL], Below.refl _ _⟩
    case round =>
      clear c1
      obtain ⟨k, hk, rfl, hle, rfl, hbel⟩ := hrel
      have hsz := hbel.size
      by_cases hlt : k < d.length
      · obtain ⟨b, off, a0, a1, a2, a3, rfl, _, hb0, hx, ⟨hc0, hc1, hc2, hc3⟩, _⟩ := node_row (HD.out.frame (Same.of_below' hbel)) hlt
        have HZ : Hid (nodeE.long (a0, a1, a2, a3)) := Lib.hid (by have := HF.out.2 _ (List.getElem_mem hlt); rw [hx] at this; exact this)
        have HT : Hid (szL nodeE (d.take (k + 1)) = szL nodeE (d.take k) + nodeE.sz (a0, a1, a2, a3)) := Lib.hid (by rw [szL_take nodeE d k hlt, hx])
        have HTl := Lib.hid (szL_le nodeE d (k + 1))
        clear hx
        generalize hq : d.length + szL nodeE (d.take k) = q at *
        have Hq := Lib.hid hq; clear hq
        have HC := Lib.hid (szNode_at a0 a1 a2 a3 (left - (q : Int)) wr  HZ.out (by omega) (by omega))
        generalize nodeE.sz (a0, a1, a2, a3) = r at *
        go_wp2_with fail
        refine HC.out.mono ?_
        rintro e w2 ⟨rfl, hb2⟩
        have B2 := Lib.hid (hbel.trans (hb2.mono hsz)); clear hb2
        by_cases hfit : (r : Int) ≤ left - (q : Int)
        · rw [leftR_pos hfit]
          have c2 : ¬ left - (q : Int) - (r : Int) < 0 := by omega
          go_wp2
          go_roundw
          case rel =>
            have e := HT.out
            have e3 := Hq.out
            exact ⟨k + 1, by omega, by go_num, by omega, by rw [e]; congr 1; omega, B2.out⟩
          case measure => simp [intOf]; omega
        · rw [leftR_neg hfit]
          have HR : Hid (leftR (d.length + szL nodeE d) left = -1) := Lib.hid (leftR_neg (by
            have := HT.out; have := HTl.out; have := Hq.out; omega))
          go_wp2
          go_ret
          exact ⟨ret_int (by rw [HR.out]), B2.out⟩
      · have HR : Hid (leftR (d.length + szL nodeE d) left = left - (d.length + szL nodeE (d.take k) : Nat)) := Lib.hid (by
          rw [List.take_of_length_le (by omega)] at hle ⊢
          exact leftR_pos hle)
        go_wp2
        go_ret
        exact ⟨ret_int (by rw [HR.out]), hbel⟩
  · have HR : Hid (leftR (d.length + szL nodeE d) left = -1) := Lib.hid (leftR_neg (by omega))
    have c1 : left - (d.length : Int) < 0 := by omega
    go_enter Try.func11, Try.ntmps11
    go_wp2
    go_ret
    exact ⟨ret_int (by rw [HR.out]), Below.refl _ _⟩
end Go.Proofs.Ytlgafmgohinkbaa
/- The helpers of the laws: copies. -/
namespace Go.Proofs.Ytlgafmgohinkbaa
open Go.RowKit
attribute [local go_sem ↓] Go.wp_at_zero Go.wp_at_succ

theorem Try.infoTNode : (Try.prog.info? 104).map (fun i => (i.zero, i.size, i.bytes)) = some (some (.agg #[.int .i64 0, .string ByteArray.empty, .string ByteArray.empty, .int .i64 0]), 4, 48) := by kernel_rfl
theorem mkNode (n : Nat) (hn : n ≤ 1048576) (W : World) : ∃ C : Array Value, C.size = n * 4 ∧
    (Instr.makeSlice 25 (.int .i64 (n : Int)) (.int .i64 (n : Int))).run Try.prog W = .ok (.slice (some ⟨W.heap.size, 0, none⟩) n n) (W.alloc (.cells C 104)) := by
  obtain ⟨i0, hi, hz0, hz1, hz2⟩ := info_parts Try.infoTNode
  have := run_make (P := Try.prog) W 25 104 i0 _ Try.underlying25 hi hz0 .i64 .i64 (n : Int) (n : Int) (by omega) (by omega) (by rw [hz2]; omega) (by omega)
  rw [hz1] at this
  refine ⟨madeCells (Value.cells (.agg #[.int .i64 0, .string ByteArray.empty, .string ByteArray.empty, .int .i64 0])) (n * 4), size_madeCells _ _, ?_⟩
  simpa using this
set_option maxRecDepth 100000 in
set_option maxHeartbeats 4000000 in
theorem toNode_at  (a0 : Int) (a1 : ByteArray) (a2 : ByteArray) (a3 : Int)  (w : World)   :
    Calls Try.prog 72 #[.agg #[.int .i64 a0, .string a1, .string a2, .int .i64 a3]] w fun e w' => e = .returned (.agg #[.int .i64 a0, .string a1, .string a2, .int .i64 a3]) ∧ nodeE.Own (Fresh w w') w' (a0, a1, a2, a3) [.int .i64 a0, .string a1, .string a2, .int .i64 a3] ∧ Below w.heap.size w w' := by
  go_enter Try.func72, Try.ntmps72
  go_wp2
  refine bodyPost_ret (v := .agg #[.int .i64 a0, .string a1, .string a2, .int .i64 a3]) (by simp [results, Try.results72, go_sem]) rfl ⟨rfl, ?_, ?_⟩
  · exact node_pack a0 a1 a2 a3 trivial
  · exact more' (more' (more' (Below.refl _ _) _) _) _
set_option maxRecDepth 100000 in
set_option maxHeartbeats 4000000 in
theorem toNodeS_at {S : Bs} (v : Value) (d : List NodeT) (w : World) (hd : SlAt nodeE S w d v) (hz : d.length + szL nodeE d ≤ 1048576) :
    Calls Try.prog 13 #[v] w fun e w' => ∃ u, e = .returned u ∧ SlOwn nodeE (Fresh w w') w' d u ∧ Below w.heap.size w w' := by
  obtain ⟨ao, cap, rfl⟩ := hd.sl
  have HD := Lib.hid hd; clear hd
  have HL := Lib.hid hz
  have hl : d.length ≤ 1048576 := by omega
  clear hz
  obtain ⟨C, hC, hmk⟩ := mkNode d.length hl w
  have HC := Lib.hid hC; clear hC
  go_enter Try.func13, Try.ntmps13
  go_wp2
  clear hmk
  go_loopw [4] (fun i wr => ∃ k : Nat, k ≤ d.length ∧ i = .int .i64 k ∧ Build nodeE wr w.heap.size d.length (d.take k) ∧ Below w.heap.size w wr) (fun i _ => d.length - (intOf i).toNat)
  case atStart => exact ⟨0, Nat.zero_le _, rfl, Build.new _ _ _ _ HC.out, (Below.refl _ _).alloc (Nat.le_refl _) _⟩
  case round =>
    obtain ⟨k, hk, rfl, hR, hbel⟩ := hrel
    have HR := Lib.hid hR; clear hR
    have hsz := hbel.size
    by_cases hlt : k < d.length
    · obtain ⟨b, off, a0, a1, a2, a3, rfl, _, hb0, hx, ⟨hc0, hc1, hc2, hc3⟩, _⟩ := node_row (HD.out.frame (Same.of_below' hbel)) hlt
      have HT : Hid (d.take (k + 1) = d.take k ++ [(a0, a1, a2, a3)]) := Lib.hid (by rw [List.take_succ_eq_append_getElem hlt, hx])
      have HK : Hid ((d.take k).length = k) := Lib.hid (by rw [List.length_take]; omega)
      have HZ : Hid (nodeE.sz (a0, a1, a2, a3) ≤ 1048576) := Lib.hid (by have h1 := szL_mem nodeE (List.getElem_mem hlt); rw [hx] at h1; have := HL.out; omega)
      clear hx
      go_wp2_with fail
      refine (toNode_at a0 a1 a2 a3 wr ).mono ?_
      rintro e w2 ⟨rfl, hq, hb2⟩
      have HR2 := Lib.hid (HR.out.below hb2)
      have B2 := Lib.hid (hbel.trans (hb2.mono hsz))
      have HQ := Lib.hid hq
      have HB := Lib.hid hb2
      clear hb2 hq hc0 hc1 hc2 hc3
      obtain ⟨x0, c0⟩ := HR2.out.cell (k := k) (u := 0) hlt (by decide)
      have c0 : w2.cell? ⟨w.heap.size, k * 4, none⟩ = some x0 := c0
      have f0 := HR2.out.soft (k * 4)
      obtain ⟨x1, c1⟩ := HR2.out.cell (k := k) (u := 1) hlt (by decide)
      have c1 : w2.cell? ⟨w.heap.size, k * 4 + 1, none⟩ = some x1 := c1
      have f1 := HR2.out.soft (k * 4 + 1)
      obtain ⟨x2, c2⟩ := HR2.out.cell (k := k) (u := 2) hlt (by decide)
      have c2 : w2.cell? ⟨w.heap.size, k * 4 + 2, none⟩ = some x2 := c2
      have f2 := HR2.out.soft (k * 4 + 2)
      obtain ⟨x3, c3⟩ := HR2.out.cell (k := k) (u := 3) hlt (by decide)
      have c3 : w2.cell? ⟨w.heap.size, k * 4 + 3, none⟩ = some x3 := c3
      have f3 := HR2.out.soft (k * 4 + 3)
      go_wp2
      go_roundw
      case rel => exact ⟨k + 1, by omega, by go_num, by rw [HT.out]; exact HR.out.row (o := k * 4) (cs := [.int .i64 a0, .string a1, .string a2, .int .i64 a3]) (by rw [HK.out]; exact hlt) (by rw [HK.out]; rfl) HB.out HQ.out, ((((B2.out.setCell (Nat.le_refl _) _).setCell (Nat.le_refl _) _).setCell (Nat.le_refl _) _).setCell (Nat.le_refl _) _)⟩
      case measure => simp [intOf]; omega
    · have e : d.take k = d := List.take_of_length_le (by omega)
      rw [e] at HR
      clear e
      go_wp2
      go_ret
      exact ⟨_, rfl, HR.out.own, hbel⟩
end Go.Proofs.Ytlgafmgohinkbaa
/- The helpers of the laws: comparisons. -/
namespace Go.Proofs.Ytlgafmgohinkbaa
open Go.RowKit
attribute [local go_sem ↓] Go.wp_at_zero Go.wp_at_succ

set_option maxRecDepth 100000 in
set_option maxHeartbeats 4000000 in
theorem eqNode_at  (w0 : World) (a0 : Int) (a1 : ByteArray) (a2 : ByteArray) (a3 : Int)   (w : World) (hB : Below w0.heap.size w0 w)    :
    Calls Try.prog 74 #[.agg #[.int .i64 a0, .string a1, .string a2, .int .i64 a3], .agg #[.int .i64 a0, .string a1, .string a2, .int .i64 a3]] w fun e w' => e = .returned (.bool true) ∧ Below w0.heap.size w0 w' := by
  have hk0 : (a0 == a0) = true := by simp
  have hj0 : (a0 != a0) = false := by simp
  have hk1 : (a1.toList == a1.toList) = true := by simp
  have hk2 : (a2.toList == a2.toList) = true := by simp
  have hk3 : (a3 == a3) = true := by simp
  have hj3 : (a3 != a3) = false := by simp
  have HB := Lib.hid hB
  clear hB
  go_enter Try.func74, Try.ntmps74
  go_wp2
  go_ret
  exact ⟨rfl, more' (more' HB.out _) _⟩
set_option maxRecDepth 100000 in
set_option maxHeartbeats 4000000 in
theorem eqNodeS_at {S S' : Bs} (v u : Value) (d : List NodeT) (w : World) (hd : SlAt nodeE S w d v) (hu : SlAt nodeE S' w d u) (hz : d.length + szL nodeE d ≤ 1048576) :
    Calls Try.prog 15 #[v, u] w fun e w' => e = .returned (.bool true) ∧ Below w.heap.size w w' := by
  obtain ⟨ao, ca, rfl⟩ := hd.sl
  obtain ⟨bo, cb, rfl⟩ := hu.sl
  have HA := Lib.hid hd; have HB := Lib.hid hu; clear hd hu
  have HL := Lib.hid hz
  have hl : d.length ≤ 1048576 := by omega
  clear hz
  go_enter Try.func15, Try.ntmps15
  go_wp2
  go_loopw [5] (fun i wr => ∃ k : Nat, k ≤ d.length ∧ i = .int .i64 k ∧ Below w.heap.size w wr) (fun i _ => d.length - (intOf i).toNat)
  case atStart => exact ⟨0, Nat.zero_le _, rfl, Below.refl _ _⟩
  case round =>
    obtain ⟨k, hk, rfl, hbel⟩ := hrel
    have hsz := hbel.size
    by_cases hlt : k < d.length
    · obtain ⟨p, off, a0, a1, a2, a3, rfl, _, hp0, hx, hc, _⟩ := node_row (HA.out.frame (Same.of_below' hbel)) hlt
      obtain ⟨q, off', x0, x1, x2, x3, rfl, _, hq0, hx', hd, _⟩ := node_row (HB.out.frame (Same.of_below' hbel)) hlt
      have hxx := hx.symm.trans hx'
      simp only [Prod.mk.injEq] at hxx
      obtain ⟨rfl, rfl, rfl, rfl⟩ := hxx
      have HZ : Hid (nodeE.sz (a0, a1, a2, a3) ≤ 1048576) := Lib.hid (by have h1 := szL_mem nodeE (List.getElem_mem hlt); rw [hx] at h1; have := HL.out; omega)
      clear hx hx'
      have C : Hid (∀ W : World, Below wr.heap.size wr W → Calls Try.prog 74 #[.agg #[.int .i64 a0, .string a1, .string a2, .int .i64 a3], .agg #[.int .i64 a0, .string a1, .string a2, .int .i64 a3]] W fun e w' => e = .returned (.bool true) ∧ Below wr.heap.size wr w') := Lib.hid (fun W b => eqNode_at wr a0 a1 a2 a3 W b   )
      have SK : Hid (∀ W : World, Below wr.heap.size wr W → (Below wr.heap.size wr W ∧ (W.cell? ⟨p, off + k * 4, none⟩ = some (.int .i64 a0) ∧ W.cell? ⟨p, off + k * 4 + 1, none⟩ = some (.string a1) ∧ W.cell? ⟨p, off + k * 4 + 2, none⟩ = some (.string a2) ∧ W.cell? ⟨p, off + k * 4 + 3, none⟩ = some (.int .i64 a3)) ∧ (W.cell? ⟨q, off' + k * 4, none⟩ = some (.int .i64 a0) ∧ W.cell? ⟨q, off' + k * 4 + 1, none⟩ = some (.string a1) ∧ W.cell? ⟨q, off' + k * 4 + 2, none⟩ = some (.string a2) ∧ W.cell? ⟨q, off' + k * 4 + 3, none⟩ = some (.int .i64 a3)))) :=
        Lib.hid (fun W h => ⟨h, ⟨(h.cell (p := ⟨p, _, none⟩) hp0).trans hc.1, (h.cell (p := ⟨p, _, none⟩) hp0).trans hc.2.1, (h.cell (p := ⟨p, _, none⟩) hp0).trans hc.2.2.1, (h.cell (p := ⟨p, _, none⟩) hp0).trans hc.2.2.2⟩, ⟨(h.cell (p := ⟨q, _, none⟩) hq0).trans hd.1, (h.cell (p := ⟨q, _, none⟩) hq0).trans hd.2.1, (h.cell (p := ⟨q, _, none⟩) hq0).trans hd.2.2.1, (h.cell (p := ⟨q, _, none⟩) hq0).trans hd.2.2.2⟩⟩)
      have hbd : Below wr.heap.size wr wr.drew := (Below.refl _ _).drew
      have hb0 : Below wr.heap.size wr wr := Below.refl _ _
      have HBl := Lib.hid hbel
      clear hc hd hbel
      have g1 : (0 : Int) ≤ (k : Int) := by omega
      have g2 : (k : Int) < (d.length : Int) := by omega
      go_wp2_with fail
      go_region_held3 (fun W => Below wr.heap.size wr W ∧ (W.cell? ⟨p, off + k * 4, none⟩ = some (.int .i64 a0) ∧ W.cell? ⟨p, off + k * 4 + 1, none⟩ = some (.string a1) ∧ W.cell? ⟨p, off + k * 4 + 2, none⟩ = some (.string a2) ∧ W.cell? ⟨p, off + k * 4 + 3, none⟩ = some (.int .i64 a3)) ∧ (W.cell? ⟨q, off' + k * 4, none⟩ = some (.int .i64 a0) ∧ W.cell? ⟨q, off' + k * 4 + 1, none⟩ = some (.string a1) ∧ W.cell? ⟨q, off' + k * 4 + 2, none⟩ = some (.string a2) ∧ W.cell? ⟨q, off' + k * 4 + 3, none⟩ = some (.int .i64 a3)))
        (exact SK.out _ (by assumption))
        (first | (go_at_call 74; refine (C.out _ (by assumption)).mono ?_; rintro e w2 ⟨rfl, hb2⟩) | (fail "none"))
      all_goals
        go_wp2
        go_roundw
        case rel => exact ⟨k + 1, by omega, by go_num, HBl.out.trans (hb2.mono HBl.out.size)⟩
        case measure => simp [intOf]; omega
    · go_wp2
      go_ret
      exact ⟨rfl, hbel⟩
end Go.Proofs.Ytlgafmgohinkbaa
/- The law FnExactFilterRight: its walk. -/
namespace Go.Proofs.Ytlgafmgohinkbaa
open Go.RowKit
attribute [local go_sem ↓] Go.wp_at_zero Go.wp_at_succ

set_option maxRecDepth 100000 in
set_option maxHeartbeats 4000000 in
theorem FilterRight_walk (v0 : Value) (d0 : List NodeT) (w : World) (h0 : SlAt nodeE (All w) w d0 v0) (f0 : (slE nodeE).long d0) :
    Calls Try.prog 3 #[v0] w fun e w' => e = .returned (.bool true) ∧ Below w.heap.size w w' := by
  have HQ0 : Hid (d0.length + szL nodeE d0 ≤ 1048576 → ∀ (Y : World) (S S' : Bs) (x u : Value), SlAt nodeE S Y d0 x → SlAt nodeE S' Y d0 u → Calls Try.prog 15 #[x, u] Y fun e w' => e = .returned (.bool true) ∧ Below Y.heap.size Y w') := Lib.hid (fun z Y S S' x u h1 h2 => eqNodeS_at x u d0 Y h1 h2 z)
  have HS0 : Hid (∀ (l : Int) (W : World), Below w.heap.size w W → 0 ≤ l → l ≤ 1048576 → Calls Try.prog 11 #[v0, .int .i64 l] W fun e w' => e = .returned (.int .i64 (leftR (d0.length + szL nodeE d0) l)) ∧ Below W.heap.size W w') := Lib.hid (fun l W b p q => szNodeS_at v0 d0 l W (h0.frame (Same.of_below' b)) f0 p q)
  have HT0 : Hid (d0.length + szL nodeE d0 ≤ 1048576 → ∀ Y : World, Below w.heap.size w Y → Calls Try.prog 13 #[v0] Y fun e w' => ∃ u, e = .returned u ∧ SlOwn nodeE (Fresh Y w') w' d0 u ∧ Below Y.heap.size Y w') := Lib.hid (fun z Y b => toNodeS_at v0 d0 Y (h0.frame (Same.of_below' b)) z)
  have HSp : Hid (d0.length + szL nodeE d0 ≤ 1048576 → ∀ (Y : World) (S0 : Bs) (u0 : Value), SlAt nodeE S0 Y d0 u0 → Calls Try.prog 12 #[u0] Y fun e w' => e = .returned (.bool (filterB d0)) ∧ Below Y.heap.size Y w') := Lib.hid (fun z0 Y S0 u0 h0 => SpecFilterRight_any u0 d0 Y h0 z0)
  have HIm : Hid (d0.length + szL nodeE d0 ≤ 1048576 → ∀ (Y : World) (S0 : Bs) (u0 : Value), SlAt nodeE S0 Y d0 u0 → Calls Try.prog 14 #[u0] Y fun e w' => e = .returned (.bool (filterB d0)) ∧ Below Y.heap.size Y w') := Lib.hid (fun z0 Y S0 u0 h0 => FilterRight_any u0 d0 Y h0 z0)
  obtain ⟨o0, k0, rfl⟩ := h0.sl
  clear h0 f0
  go_enter Try.func3, Try.ntmps3
  have B : Hid (Below w.heap.size w w) := Lib.hid (Below.refl _ _)
  go_wp2_with fail
  refine (HS0.out (1048576) w B.out (by omega) (by omega)).mono ?_
  rintro e W1 ⟨rfl, hb⟩
  have B1 := Lib.hid (B.out.trans (hb.mono B.out.size)); clear B; have B := B1; clear B1
  clear hb HS0
  by_cases g0 : ((d0.length + szL nodeE d0 : Nat) : Int) ≤ 1048576
  rotate_left
  · rw [leftR_neg g0]
    clear g0
    go_wp2
    go_ret
    exact ⟨rfl, B.out⟩
  rw [leftR_pos g0]
  have HZ0 : Hid (d0.length + szL nodeE d0 ≤ 1048576) := Lib.hid (by omega)
  have p0 : (0 : Int) ≤ ((d0.length + szL nodeE d0 : Nat) : Int) := by omega
  have c0 : ¬ 1048576 - ((d0.length + szL nodeE d0 : Nat) : Int) < 0 := by omega
  generalize ((d0.length + szL nodeE d0 : Nat) : Int) = t0 at *
  have HT := Lib.hid (HT0.out HZ0.out); clear HT0; have HT0 := HT; clear HT
  have HQ := Lib.hid (HQ0.out HZ0.out); clear HQ0; have HQ0 := HQ; clear HQ
  have HS := Lib.hid (HSp.out HZ0.out); have HI := Lib.hid (HIm.out HZ0.out); clear HSp HIm
  generalize (filterB d0) = r at *
  have hrr : (r != r) = false := by simp
  have hrq : (r == r) = true := by simp
  go_wp2_with fail
  refine (HT0.out _ B.out).mono ?_
  rintro e W2 ⟨x0, rfl, q, hb⟩
  have B1 := Lib.hid (B.out.trans (hb.mono B.out.size)); clear B; have B := B1; clear B1
  have Qx0 := Lib.hid q.at; clear q hb
  obtain ⟨px0, cx0, rfl⟩ := Qx0.out.sl
  go_wp2_with fail
  refine (HS.out _ _ _ Qx0.out).mono ?_
  rintro e W3 ⟨rfl, hb⟩
  clear Qx0
  have B1 := Lib.hid (B.out.trans (hb.mono B.out.size)); clear B; have B := B1; clear B1
  clear hb
  go_wp2_with fail
  refine (HT0.out _ B.out).mono ?_
  rintro e W4 ⟨y0, rfl, q, hb⟩
  have B1 := Lib.hid (B.out.trans (hb.mono B.out.size)); clear B; have B := B1; clear B1
  have Qy0 := Lib.hid q.at; clear q hb
  obtain ⟨py0, cy0, rfl⟩ := Qy0.out.sl
  go_wp2_with fail
  refine (HI.out _ _ _ Qy0.out).mono ?_
  rintro e W5 ⟨rfl, hb⟩
  have P := Lib.hid (Qy0.out.frame (Same.of_below' hb)); clear Qy0; have Qy0 := P; clear P
  have B1 := Lib.hid (B.out.trans (hb.mono B.out.size)); clear B; have B := B1; clear B1
  clear hb
  go_wp2_with fail
  refine (HT0.out _ B.out).mono ?_
  rintro e W6 ⟨z0, rfl, q, hb⟩
  have P := Lib.hid (Qy0.out.frame (Same.of_below' hb)); clear Qy0; have Qy0 := P; clear P
  have B1 := Lib.hid (B.out.trans (hb.mono B.out.size)); clear B; have B := B1; clear B1
  have Qz0 := Lib.hid q.at; clear q hb
  obtain ⟨pz0, cz0, rfl⟩ := Qz0.out.sl
  go_wp2_with fail
  refine (HQ0.out _ _ _ _ _ Qy0.out Qz0.out).mono ?_
  rintro e W7 ⟨rfl, hb⟩
  have P := Lib.hid (Qy0.out.frame (Same.of_below' hb)); clear Qy0; have Qy0 := P; clear P
  have P := Lib.hid (Qz0.out.frame (Same.of_below' hb)); clear Qz0; have Qz0 := P; clear P
  have B1 := Lib.hid (B.out.trans (hb.mono B.out.size)); clear B; have B := B1; clear B1
  clear hb
  clear Qz0
  go_wp2
  go_ret
  exact ⟨rfl, B.out⟩
end Go.Proofs.Ytlgafmgohinkbaa
/- Arguments of the laws: where they lie. -/
namespace Go.Proofs.Ytlgafmgohinkbaa
open Go.RowKit

open Go.ChangeShapes Go.WideShapes Go.Joins Go.Deep
theorem opn_str : Opens Try.prog 9 strE := opens_str Try.underlying9
theorem Try.cellStr : Try.prog.cellsOf 9 = strE.n := by kernel_rfl
theorem opn_int : Opens Try.prog 2 intE := opens_int Try.underlying2
theorem opn_bool : Opens Try.prog 4 boolE := opens_bool Try.underlying4
theorem Try.cellRdn : Try.prog.cellsOf 208 = rdnE.n := by kernel_rfl
set_option maxRecDepth 100000 in
theorem opn_rdn : Opens Try.prog 208 rdnE := opens_struct Try.underlying208 Try.cellRdn (ff_cons _ (by rfl) (by rfl) (by kernel_rfl) opn_str (ff_last _ (by rfl) (by rfl) (by kernel_rfl) (by rfl) opn_str))
theorem opn_strS : Opens Try.prog 29 (slE strE) := opens_sl Try.underlying29 Try.cellStr (by decide) opn_str
theorem Try.cellAttr : Try.prog.cellsOf 210 = attrE.n := by kernel_rfl
set_option maxRecDepth 100000 in
theorem opn_attr : Opens Try.prog 210 attrE := opens_struct Try.underlying210 Try.cellAttr (ff_cons _ (by rfl) (by rfl) (by kernel_rfl) opn_str (ff_last _ (by rfl) (by rfl) (by kernel_rfl) (by rfl) opn_strS))
theorem opn_rdnS : Opens Try.prog 123 (slE rdnE) := opens_sl Try.underlying123 Try.cellRdn (by decide) opn_rdn
theorem opn_attrS : Opens Try.prog 124 (slE attrE) := opens_sl Try.underlying124 Try.cellAttr (by decide) opn_attr
theorem Try.cellEntry : Try.prog.cellsOf 126 = entryE.n := by kernel_rfl
set_option maxRecDepth 100000 in
theorem opn_entry : Opens Try.prog 126 entryE := opens_struct Try.underlying126 Try.cellEntry (ff_cons _ (by rfl) (by rfl) (by kernel_rfl) opn_rdnS (ff_last _ (by rfl) (by rfl) (by kernel_rfl) (by rfl) opn_attrS))
theorem Try.cellNode : Try.prog.cellsOf 102 = nodeE.n := by kernel_rfl
set_option maxRecDepth 100000 in
theorem opn_node : Opens Try.prog 102 nodeE := opens_struct Try.underlying102 Try.cellNode (ff_cons _ (by rfl) (by rfl) (by kernel_rfl) opn_int (ff_cons _ (by rfl) (by rfl) (by kernel_rfl) opn_str (ff_cons _ (by rfl) (by rfl) (by kernel_rfl) opn_str (ff_last _ (by rfl) (by rfl) (by kernel_rfl) (by rfl) opn_int))))
theorem Try.cellClass : Try.prog.cellsOf 134 = classE.n := by kernel_rfl
set_option maxRecDepth 100000 in
theorem opn_class : Opens Try.prog 134 classE := opens_struct Try.underlying134 Try.cellClass (ff_cons _ (by rfl) (by rfl) (by kernel_rfl) opn_str (ff_cons _ (by rfl) (by rfl) (by kernel_rfl) opn_strS (ff_cons _ (by rfl) (by rfl) (by kernel_rfl) opn_strS (ff_last _ (by rfl) (by rfl) (by kernel_rfl) (by rfl) opn_strS))))
theorem Try.cellMod : Try.prog.cellsOf 35 = modE.n := by kernel_rfl
set_option maxRecDepth 100000 in
theorem opn_mod : Opens Try.prog 35 modE := opens_struct Try.underlying35 Try.cellMod (ff_cons _ (by rfl) (by rfl) (by kernel_rfl) opn_int (ff_cons _ (by rfl) (by rfl) (by kernel_rfl) opn_str (ff_last _ (by rfl) (by rfl) (by kernel_rfl) (by rfl) opn_strS)))
theorem opn_entryS : Opens Try.prog 42 (slE entryE) := opens_sl Try.underlying42 Try.cellEntry (by decide) opn_entry
theorem opn_nodeS : Opens Try.prog 22 (slE nodeE) := opens_sl Try.underlying22 Try.cellNode (by decide) opn_node
theorem opn_classS : Opens Try.prog 50 (slE classE) := opens_sl Try.underlying50 Try.cellClass (by decide) opn_class
set_option maxRecDepth 100000 in
theorem opv_rdn {H : Type} {enc : TypeId × Value → H} {w : World} {base : Nat} {spare : Nat → Bool} {held : Bool} {r : Reach} {b0 : Nat} {v : Value} {d : DataW H} {p : List MemPlace} (hv : Value.okWide Try.prog w r b0 208 v) (h : DataW.Trod enc Try.prog w base spare held 208 v d p) :
    ∃ (a0 : ByteArray) (a1 : ByteArray) , v = .agg #[.string a0, .string a1] ∧ (True) ∧ rdnE.long (a0, a1) := by
  obtain ⟨cs, a, rfl, h1, h2⟩ := opv_struct Try.underlying208 opn_rdn hv h
  obtain ⟨a0, a1, rfl, e1, hq⟩ := rdn_atq h1
  refine ⟨a0, a1, agg_eq e1, ?_, h2⟩
  exact hq
set_option maxRecDepth 100000 in
theorem opv_attr {H : Type} {enc : TypeId × Value → H} {w : World} {base : Nat} {spare : Nat → Bool} {held : Bool} {r : Reach} {b0 : Nat} {v : Value} {d : DataW H} {p : List MemPlace} (hv : Value.okWide Try.prog w r b0 210 v) (h : DataW.Trod enc Try.prog w base spare held 210 v d p) :
    ∃ (a0 : ByteArray) (a1 : (List ByteArray)) (v1 : Value), v = .agg #[.string a0, v1] ∧ (SlAt strE (All w) w a1 v1) ∧ attrE.long (a0, a1) := by
  obtain ⟨cs, a, rfl, h1, h2⟩ := opv_struct Try.underlying210 opn_attr hv h
  obtain ⟨a0, a1, v1, rfl, e1, hq⟩ := attr_atq h1
  refine ⟨a0, a1, v1, agg_eq e1, ?_, h2⟩
  exact hq.1
set_option maxRecDepth 100000 in
theorem opv_entry {H : Type} {enc : TypeId × Value → H} {w : World} {base : Nat} {spare : Nat → Bool} {held : Bool} {r : Reach} {b0 : Nat} {v : Value} {d : DataW H} {p : List MemPlace} (hv : Value.okWide Try.prog w r b0 126 v) (h : DataW.Trod enc Try.prog w base spare held 126 v d p) :
    ∃ (a0 : (List RdnT)) (a1 : (List AttrT)) (v0 v1 : Value), v = .agg #[v0, v1] ∧ (SlAt rdnE (All w) w a0 v0 ∧ SlAt attrE (All w) w a1 v1) ∧ entryE.long (a0, a1) := by
  obtain ⟨cs, a, rfl, h1, h2⟩ := opv_struct Try.underlying126 opn_entry hv h
  obtain ⟨a0, a1, v0, v1, rfl, e1, hq⟩ := entry_atq h1
  refine ⟨a0, a1, v0, v1, agg_eq e1, ?_, h2⟩
  exact ⟨hq.1, hq.2.1⟩
set_option maxRecDepth 100000 in
theorem opv_node {H : Type} {enc : TypeId × Value → H} {w : World} {base : Nat} {spare : Nat → Bool} {held : Bool} {r : Reach} {b0 : Nat} {v : Value} {d : DataW H} {p : List MemPlace} (hv : Value.okWide Try.prog w r b0 102 v) (h : DataW.Trod enc Try.prog w base spare held 102 v d p) :
    ∃ (a0 : Int) (a1 : ByteArray) (a2 : ByteArray) (a3 : Int) , v = .agg #[.int .i64 a0, .string a1, .string a2, .int .i64 a3] ∧ (True) ∧ nodeE.long (a0, a1, a2, a3) := by
  obtain ⟨cs, a, rfl, h1, h2⟩ := opv_struct Try.underlying102 opn_node hv h
  obtain ⟨a0, a1, a2, a3, rfl, e1, hq⟩ := node_atq h1
  refine ⟨a0, a1, a2, a3, agg_eq e1, ?_, h2⟩
  exact hq
set_option maxRecDepth 100000 in
theorem opv_class {H : Type} {enc : TypeId × Value → H} {w : World} {base : Nat} {spare : Nat → Bool} {held : Bool} {r : Reach} {b0 : Nat} {v : Value} {d : DataW H} {p : List MemPlace} (hv : Value.okWide Try.prog w r b0 134 v) (h : DataW.Trod enc Try.prog w base spare held 134 v d p) :
    ∃ (a0 : ByteArray) (a1 : (List ByteArray)) (a2 : (List ByteArray)) (a3 : (List ByteArray)) (v1 v2 v3 : Value), v = .agg #[.string a0, v1, v2, v3] ∧ (SlAt strE (All w) w a1 v1 ∧ SlAt strE (All w) w a2 v2 ∧ SlAt strE (All w) w a3 v3) ∧ classE.long (a0, a1, a2, a3) := by
  obtain ⟨cs, a, rfl, h1, h2⟩ := opv_struct Try.underlying134 opn_class hv h
  obtain ⟨a0, a1, a2, a3, v1, v2, v3, rfl, e1, hq⟩ := class_atq h1
  refine ⟨a0, a1, a2, a3, v1, v2, v3, agg_eq e1, ?_, h2⟩
  exact ⟨hq.1, hq.2.1, hq.2.2.1⟩
set_option maxRecDepth 100000 in
theorem opv_mod {H : Type} {enc : TypeId × Value → H} {w : World} {base : Nat} {spare : Nat → Bool} {held : Bool} {r : Reach} {b0 : Nat} {v : Value} {d : DataW H} {p : List MemPlace} (hv : Value.okWide Try.prog w r b0 35 v) (h : DataW.Trod enc Try.prog w base spare held 35 v d p) :
    ∃ (a0 : Int) (a1 : ByteArray) (a2 : (List ByteArray)) (v2 : Value), v = .agg #[.int .i64 a0, .string a1, v2] ∧ (SlAt strE (All w) w a2 v2) ∧ modE.long (a0, a1, a2) := by
  obtain ⟨cs, a, rfl, h1, h2⟩ := opv_struct Try.underlying35 opn_mod hv h
  obtain ⟨a0, a1, a2, v2, rfl, e1, hq⟩ := mod_atq h1
  refine ⟨a0, a1, a2, v2, agg_eq e1, ?_, h2⟩
  exact hq.1
end Go.Proofs.Ytlgafmgohinkbaa
