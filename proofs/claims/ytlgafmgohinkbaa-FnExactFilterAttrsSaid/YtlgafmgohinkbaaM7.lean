/- Merged texts: EndS, FcM, FcJ, FrS, ClO, FaM, EntH1, FaI, L5c. -/
import Derived.Test.YtlgafmgohinkbaaM6
import Derived.Test.YtlgafmgohinkbaaM5
import Derived.Test.YtlgafmgohinkbaaM3
import Derived.Test.YtlgafmgohinkbaaM2
import Derived.Test.YtlgafmgohinkbaaM4
/- Filters: where the filter that begins at a place ends: the specification. -/
namespace Go.Proofs.Ytlgafmgohinkbaa
open Go.RowKit
attribute [local go_sem ↓] Go.wp_at_zero Go.wp_at_succ

def iterE (g : Nat → Option Nat) : Nat → Option Nat → Option Nat
  | 0, a => a
  | _ + 1, none => none
  | n + 1, some a => iterE g n (g a)
/-- the place behind the filter that begins at a place, no deeper than r -/
noncomputable def endF (f : List NodeT) : Nat → Nat → Option Nat
  | 0, _ => none
  | r + 1, k => if h : k < f.length then if nodeS f[k] = true then iterE (endF f r) (f[k].2.2.2).toNat (some (k + 1)) else none else none
def optI : Option Nat → Int
  | none => -1
  | some a => (a : Int)
theorem iterE_le {g : Nat → Option Nat} {N : Nat} (hg : ∀ a b, g a = some b → b ≤ N) : ∀ (n : Nat) (a : Option Nat) (b : Nat), (∀ c, a = some c → c ≤ N) → iterE g n a = some b → b ≤ N
  | 0, a, b, ha, h => ha b h
  | _ + 1, none, _, _, h => by cases h
  | n + 1, some a, b, _, h => iterE_le hg n (g a) b (fun c hc => hg a c hc) h
theorem endF_le (f : List NodeT) : ∀ (r k b : Nat), endF f r k = some b → b ≤ f.length
  | 0, _, _, h => by cases h
  | r + 1, k, b, h => by
    unfold endF at h
    split at h
    · split at h
      · exact iterE_le (fun a c hc => endF_le f r a c hc) _ _ _ (fun c hc => by injection hc with hc; omega) h
      · cases h
    · cases h
theorem iterE_none (g : Nat → Option Nat) : ∀ n, iterE g n none = none
  | 0 => rfl
  | _ + 1 => rfl
theorem nodeS_many {x : NodeT} (h : nodeS x = true) : 0 ≤ x.2.2.2 ∧ x.2.2.2 ≤ 20 := by
  unfold nodeS at h
  split at h
  · simp at h; omega
  · split at h
    · simp at h; omega
    · split at h
      · simp at h; omega
      · split at h
        · simp at h; omega
        · cases h
set_option maxRecDepth 100000 in
set_option maxHeartbeats 4000000 in
theorem l04End_any {S : Bs} (f : List NodeT) (ao : Option Addr) (cap : Nat) (hz : f.length + szL nodeE f ≤ 1048576) : ∀ (r k : Nat) (w : World), r ≤ 5 → k ≤ f.length → SlAt nodeE S w f (.slice ao f.length cap) →
    Calls Try.prog 71 #[.slice ao f.length cap, .int .i64 k, .int .i64 ((6 : Int) - r)] w fun e w' => e = .returned (.int .i64 (optI (endF f r k))) ∧ Below w.heap.size w w' := by
  intro r
  induction r with
  | zero =>
    intro k w _ hk hf
    have hl : f.length ≤ 1048576 := by omega
    by_cases hlt : k < f.length
    · have g2 : (k : Int) < (f.length : Int) := by omega
      clear hf
      go_enter Try.func71, Try.ntmps71
      go_wp2
      go_ret
      exact ⟨rfl, Below.refl _ _⟩
    · have g2 : ¬ (k : Int) < (f.length : Int) := by omega
      clear hf
      go_enter Try.func71, Try.ntmps71
      go_wp2
      go_ret
      exact ⟨rfl, Below.refl _ _⟩
  | succ r ih =>
    intro k w hr hk hf
    have hl : f.length ≤ 1048576 := by omega
    by_cases hlt : k < f.length
    rotate_left
    · have g2 : ¬ (k : Int) < (f.length : Int) := by omega
      clear hf
      go_enter Try.func71, Try.ntmps71
      go_wp2
      go_ret
      exact ⟨ret_int (by unfold endF; rw [dif_neg hlt]; rfl), Below.refl _ _⟩
    have g2 : (k : Int) < (f.length : Int) := by omega
    have HF := Lib.hid hf
    obtain ⟨b, off, a0, a1, a2, a3, rfl, _, hb0, hx, ⟨hc0, hc1, hc2, hc3⟩, _⟩ := node_row hf hlt
    have HM : Hid (nodeS (a0, a1, a2, a3) = true → 0 ≤ a3 ∧ a3 ≤ 20) := Lib.hid (fun h => nodeS_many h)
    have HZ : Hid (a1.size ≤ 1048576 ∧ a2.size ≤ 1048576) := Lib.hid (by
      have h1 := szL_mem nodeE (List.getElem_mem hlt)
      rw [hx] at h1
      have h2 : nodeE.sz (a0, a1, a2, a3) = 0 + (a1.size + (a2.size + 0)) := rfl
      omega)
    have HT0 : Hid (nodeS (a0, a1, a2, a3) = false → endF f (r + 1) k = none) := Lib.hid (fun h => by unfold endF; rw [dif_pos hlt, hx, if_neg (by rw [h]; simp)])
    have HT1 : Hid (nodeS (a0, a1, a2, a3) = true → endF f (r + 1) k = iterE (endF f r) a3.toNat (some (k + 1))) := Lib.hid (fun h => by unfold endF; rw [dif_pos hlt, hx, if_pos h])
    have HLe : Hid (∀ a b, endF f r a = some b → b ≤ f.length) := Lib.hid (fun a b h => endF_le f r a b h)
    have CN : Hid (∀ W : World, Calls Try.prog 131 #[.agg #[.int .i64 a0, .string a1, .string a2, .int .i64 a3]] W fun e w' => e = .returned (.bool (nodeS (a0, a1, a2, a3))) ∧ Below W.heap.size W w') := Lib.hid (fun W => l04Node_any a0 a1 a2 a3 W HZ.out.1 HZ.out.2)
    obtain ⟨D, hD⟩ : ∃ D : Int, D = 6 - ((r + 1 : Nat) : Int) := ⟨_, rfl⟩
    have d0 : 1 ≤ D := by omega
    have d1 : D ≤ 5 := by omega
    have d2 : D + 1 = 6 - (r : Int) := by omega
    have IH : Hid (∀ (a : Nat) (W : World), Below w.heap.size w W → a ≤ f.length → Calls Try.prog 71 #[.slice (some ⟨b, off, none⟩) f.length cap, .int .i64 (a : Int), .int .i64 (D + 1)] W fun e w' => e = .returned (.int .i64 (optI (endF f r a))) ∧ Below W.heap.size W w') := Lib.hid (fun a W hb ha => by rw [d2]; exact ih a W (by omega) ha (HF.out.frame (Same.of_below' hb)))
    rw [← hD]
    clear hf hx ih hr hD d2
    generalize endF f (r + 1) k = T at *
    generalize nodeS (a0, a1, a2, a3) = ns at *
    generalize endF f r = g at *
    have g1 : (0 : Int) ≤ (k : Int) := by omega
    have g3 : ¬ f.length ≤ k := by omega
    have g4 : ¬ (5 : Int) < D := by omega
    have g5 : decide (f.length ≤ k) = false := by simp; omega
    have g6 : decide (5 < D) = false := by simp; omega
    go_enter Try.func71, Try.ntmps71
    go_wp2_with fail
    refine (CN.out w).mono ?_
    rintro e w2 ⟨rfl, hb⟩
    cases ns
    · have HR := Lib.hid (HT0.out rfl)
      go_wp2
      go_ret
      exact ⟨ret_int (by rw [HR.out]; rfl), hb⟩
    have HR := Lib.hid (HT1.out rfl)
    obtain ⟨m1, m2⟩ := HM.out rfl
    have c3 := (hb.cell (p := ⟨b, off + k * 4 + 3, none⟩) hb0).trans hc3
    clear HT0 HT1 HM
    go_wp2
    go_loopw [1, 7] (fun a n wr => ∃ (m : Nat) (c : Option Nat), n = .int .i64 m ∧ a = .int .i64 (optI c) ∧ m ≤ 20 ∧ T = iterE g m c ∧ (∀ x, c = some x → x ≤ f.length) ∧ Below w.heap.size w wr) (fun _ n _ => (intOf n).toNat)
    case atStart => exact ⟨a3.toNat, some (k + 1), by rw [Int.toNat_of_nonneg m1], by simp [optI], by omega, HR.out, fun x h => by injection h with h; omega, hb⟩
    case round =>
      clear hc0 hc1 hc2 hc3 c3 HR m1 m2 hb
      obtain ⟨m, c, rfl, rfl, hm, hT, hc, hbel⟩ := hrel
      have HTT := Lib.hid hT; clear hT
      rcases m with _ | m
      · have HO : Hid (T = c) := Lib.hid (by rw [HTT.out]; rfl)
        go_wp2
        go_ret
        exact ⟨ret_int (by rw [HO.out]), hbel⟩
      rcases c with _ | c
      · have HO : Hid (T = none) := Lib.hid (by rw [HTT.out]; rfl)
        have h1 : (0 : Int) < ((m + 1 : Nat) : Int) := by omega
        go_wp2
        go_ret
        exact ⟨ret_int (by rw [HO.out]), hbel⟩
      have hcl : c ≤ f.length := hc c rfl
      have HTn : Hid (T = iterE g m (g c)) := Lib.hid (by rw [HTT.out]; rfl)
      have hle := Lib.hid (HLe.out c)
      clear HTT hc
      show _
      have h1 : (0 : Int) < ((m + 1 : Nat) : Int) := by omega
      have h2 : (0 : Int) ≤ (c : Int) := by omega
      have h3 : ((m + 1 : Nat) : Int) - 1 = (m : Int) := by omega
      have e1 : optI (some c) = (c : Int) := rfl
      go_wp2_with fail
      refine (IH.out c wr hbel hcl).mono ?_
      rintro e w3 ⟨rfl, hb⟩
      have b3 := hbel.trans (hb.mono hbel.size)
      clear hb
      generalize g c = c' at *
      go_wp2
      go_roundw
      case rel => exact ⟨m, c', by go_num, rfl, by omega, HTn.out, hle.out, b3⟩
      case measure => simp [intOf]
end Go.Proofs.Ytlgafmgohinkbaa
/- Filters: the program's parse and the specification's end agree. -/
namespace Go.Proofs.Ytlgafmgohinkbaa

/-- so many parts one after the other: the place behind them, and the greatest depth -/
def iterP (g : Nat → Option (Nat × Nat)) : Nat → Nat → Nat → Option (Nat × Nat)
  | 0, k, m => some (k, m)
  | n + 1, k, m => match g k with
    | none => none
    | some (k', d) => iterP g n k' (max m d)
/-- what the program reads at a place: the place behind it and its depth -/
noncomputable def parseF (f : List NodeT) : Nat → Nat → Option (Nat × Nat)
  | 0, _ => none
  | r + 1, k => if h : k < f.length then if nodeI f[k] = true then (iterP (parseF f r) (f[k].2.2.2).toNat (k + 1) 0).map (fun x => (x.1, x.2 + 1)) else none else none
theorem nodeS_I {x : NodeT} (h : nodeS x = true) : nodeI x = true := by
  unfold nodeS at h; unfold nodeI
  split at h
  · rename_i c; rw [if_pos c]; simp at h ⊢; exact ⟨h.1, h.2.1⟩
  · rename_i c; rw [if_neg c]; exact h
theorem nodeI_S {x : NodeT} (h : nodeI x = true) (hm : x.2.2.2 ≤ 20) : nodeS x = true := by
  unfold nodeI at h; unfold nodeS
  split at h
  · rename_i c; rw [if_pos c]; simp at h ⊢; exact ⟨h.1, h.2, hm⟩
  · rename_i c; rw [if_neg c]; exact h
theorem iterP_le {g : Nat → Option (Nat × Nat)} (hg : ∀ a b d, g a = some (b, d) → a + 1 ≤ b) : ∀ (n k m p q : Nat), iterP g n k m = some (p, q) → k + n ≤ p ∧ m ≤ q
  | 0, k, m, p, q, h => by simp only [iterP, Option.some.injEq, Prod.mk.injEq] at h; omega
  | n + 1, k, m, p, q, h => by
    unfold iterP at h
    split at h
    · cases h
    · rename_i k' d e
      have h1 := hg k k' d e
      have h2 := iterP_le hg n k' (max m d) p q h
      omega
theorem parse_le (f : List NodeT) : ∀ (r k p d : Nat), parseF f r k = some (p, d) → k + 1 ≤ p ∧ p ≤ f.length ∧ 1 ≤ d
  | 0, _, _, _, h => by cases h
  | r + 1, k, p, d, h => by
    unfold parseF at h
    split at h
    · split at h
      · rw [Option.map_eq_some_iff] at h
        obtain ⟨⟨p', m⟩, h1, h2⟩ := h
        simp only [Prod.mk.injEq] at h2
        obtain ⟨rfl, rfl⟩ := h2
        have h3 := iterP_le (fun a b d h => (parse_le f r a b d h).1) _ _ _ _ _ h1
        refine ⟨by omega, ?_, by omega⟩
        have h4 : ∀ (n k m p q : Nat), k ≤ f.length → iterP (parseF f r) n k m = some (p, q) → p ≤ f.length := by
          intro n
          induction n with
          | zero => intro k m p q hk h; simp only [iterP, Option.some.injEq, Prod.mk.injEq] at h; omega
          | succ n ih =>
            intro k m p q hk h
            unfold iterP at h
            split at h
            · cases h
            · rename_i k' d e
              exact ih k' _ p q (parse_le f r k k' d e).2.1 h
        exact h4 _ _ _ _ _ (by omega) h1
      · cases h
    · cases h
theorem iter_to {g : Nat → Option (Nat × Nat)} {e : Nat → Option Nat} {s : Nat} (hg : ∀ a b d, g a = some (b, d) → d ≤ s → e a = some b) (hge : ∀ a b d, g a = some (b, d) → a + 1 ≤ b) : ∀ (n k m p q : Nat), iterP g n k m = some (p, q) → q ≤ s → iterE e n (some k) = some p
  | 0, k, m, p, q, h, _ => by simp only [iterP, Option.some.injEq, Prod.mk.injEq] at h; simp [iterE, h.1]
  | n + 1, k, m, p, q, h, hq => by
    unfold iterP at h
    split at h
    · cases h
    · rename_i k' d c
      have h2 := iterP_le hge n k' (max m d) p q h
      show iterE e n (e k) = some p
      rw [hg k k' d c (by omega)]
      exact iter_to hg hge n k' (max m d) p q h hq
theorem parse_end (f : List NodeT) (hl : f.length ≤ 20) : ∀ (r k p d s : Nat), parseF f r k = some (p, d) → d ≤ s → endF f s k = some p
  | 0, _, _, _, _, h, _ => by cases h
  | r + 1, k, p, d, s, h, hs => by
    have h0 := parse_le f (r + 1) k p d h
    unfold parseF at h
    split at h
    · rename_i hk
      split at h
      · rename_i hn
        rw [Option.map_eq_some_iff] at h
        obtain ⟨⟨p', m⟩, h1, h2⟩ := h
        simp only [Prod.mk.injEq] at h2
        obtain ⟨rfl, rfl⟩ := h2
        obtain ⟨s', rfl⟩ : ∃ s', s = s' + 1 := ⟨s - 1, by omega⟩
        have h3 := iterP_le (fun a b d h => (parse_le f r a b d h).1) _ _ _ _ _ h1
        have hm : f[k].2.2.2 ≤ 20 := by have h4 := h0.2.1; have h5 := h3.1; omega
        unfold endF
        rw [dif_pos hk, if_pos (nodeI_S hn hm)]
        exact iter_to (s := s') (fun a b d h hd => parse_end f hl r a b d s' h hd) (fun a b d h => (parse_le f r a b d h).1) _ _ _ _ _ h1 (by omega)
      · cases h
    · cases h
theorem iter_from {g : Nat → Option (Nat × Nat)} {e : Nat → Option Nat} {s : Nat} (hg : ∀ a b, e a = some b → ∃ d, d ≤ s ∧ g a = some (b, d)) : ∀ (n k m p : Nat), iterE e n (some k) = some p → ∃ q, q ≤ max m s ∧ iterP g n k m = some (p, q)
  | 0, k, m, p, h => by simp only [iterE, Option.some.injEq] at h; exact ⟨m, by omega, by simp [iterP, h]⟩
  | n + 1, k, m, p, h => by
    have h' : iterE e n (e k) = some p := h
    rcases c : e k with _ | k'
    · rw [c, iterE_none] at h'; cases h'
    · rw [c] at h'
      obtain ⟨d, hd, hgd⟩ := hg k k' c
      obtain ⟨q, hq, h2⟩ := iter_from hg n k' (max m d) p h'
      refine ⟨q, by omega, ?_⟩
      unfold iterP; rw [hgd]; exact h2
theorem end_parse (f : List NodeT) : ∀ (s k p r : Nat), endF f s k = some p → s ≤ r → ∃ d, d ≤ s ∧ parseF f r k = some (p, d)
  | 0, _, _, _, h, _ => by cases h
  | s + 1, k, p, r, h, hr => by
    obtain ⟨r', rfl⟩ : ∃ r', r = r' + 1 := ⟨r - 1, by omega⟩
    unfold endF at h
    split at h
    · rename_i hk
      split at h
      · rename_i hn
        obtain ⟨q, hq, h1⟩ := iter_from (s := s) (fun a b h => end_parse f s a b r' h (by omega)) _ _ 0 _ h
        refine ⟨q + 1, by omega, ?_⟩
        unfold parseF
        rw [dif_pos hk, if_pos (nodeS_I hn), h1]
        rfl
      · cases h
    · cases h
end Go.Proofs.Ytlgafmgohinkbaa
/- Filters: the program reads a clause. -/
namespace Go.Proofs.Ytlgafmgohinkbaa
open Go.RowKit
attribute [local go_sem ↓] Go.wp_at_zero Go.wp_at_succ

/-- the list from place k on -/
def TailN (ao : Option Addr) (L k : Nat) (v : Value) : Prop := ∃ a c, v = .slice a (L - k) c ∧ L - k ≤ c ∧ (k < L → ∀ b off, ao = some ⟨b, off, none⟩ → a = some ⟨b, off + k * 4, none⟩)
def GivesF (f : List NodeT) (k : Nat) (ao : Option Addr) (L : Nat) (w : World) (R : Option (Nat × Nat)) (e : Ending) (w' : World) : Prop :=
  (match R with
    | none => e = .returned (.tuple #[.nilIface, .slice none 0 0])
    | some (p, d) => ∃ T x v, e = .returned (.tuple #[.iface T x, v]) ∧ ClP f (Fresh w w') w' (k, p, d) (.iface T x) ∧ TailN ao L p v) ∧ Below w.heap.size w w'
section
variable {ops : Array Oper} {rest : List Oper} {o : Oper} {a : Act} {Q : Exit → Act → World → Prop} {w3 : World}
theorem Try.infoTClause : (Try.prog.info? 107).map (fun i => (i.zero, i.size, i.bytes)) = some (some .nilIface, 1, 16) := by kernel_rfl
theorem append_cl (B : Nat) (hgd : o.guard = none) (s x : Operand)
    (ho : o.op = .call { callee := .builtin .append, args := #[s, x], argTypes := #[198, 198] }) (v : Value) (n : Nat) (xs : List Value) (hs : a.eval s = v) (hown : w3.ownsRow B 107 1 v n xs)
    (T : TypeId) (y : Value) (hx : a.eval x = .slice (some ⟨w3.heap.size, 0, none⟩) 1 1) (hlen : n ≤ 100000000) (hB : B ≤ w3.heap.size)
    (h : ∀ g cap w', w'.ownsRow B 107 1 (.slice (some ⟨g, 0, none⟩) (n + 1) cap) (n + 1) (xs ++ [.iface T y]) → (w3.alloc (.cells #[.iface T y] 107)).grownBy w' v.ownBlock → (v.ownBlock = some g ∨ g = w3.heap.size + 1) → wpList Try.prog ops Q rest (a.put o.dst (.slice (some ⟨g, 0, none⟩) (n + 1) cap)) w') :
    wpList Try.prog ops Q (o :: rest) a (w3.alloc (.cells #[.iface T y] 107)) := by
  obtain ⟨i0, hi, hz0, hz1, hz2⟩ := info_parts Try.infoTClause
  refine wpList_append_lies _ hgd s x 198 ho B 107 i0 _ 1 16 Try.underlying198 hi hz0 hz1 hz2 rfl (by decide) v n xs hs (hown.alloc _) ⟨w3.heap.size, 0, none⟩ 1 1 [.iface T y] hx rfl (World.news_of_block (cs := #[.iface T y]) (t := 107) (fr := (0, 0)) (heap_alloc_new _ _)) ?_ (by omega) ?_ ?_ ?_ (w3.heap.size + 1) (by simp) ?_
  · intro u hu; simp at hu; rcases hu with rfl; rfl
  · unfold maxLen; omega
  · omega
  · simp; omega
  · intro g cap w' h1 h2 h3 _
    exact h g cap w' h1 h2 h3
end
theorem run_bsCl (T : TypeId) (x : Value) (w : World) : (Instr.buildSlice 198 1 #[(0, .iface T x)]).run Try.prog w = .ok (.slice (some ⟨w.heap.size, 0, none⟩) 1 1) (w.alloc (.cells #[.iface T x] 107)) := by kernel_rfl
attribute [local go_sem ↓] run_bsCl
theorem nodeI_op {x : NodeT} (h : nodeI x = true) (hn : x.1 = 1 ∨ x.1 = 2 ∨ x.1 = 3) : 1 ≤ x.2.2.2 := by
  unfold nodeI at h
  split at h
  · simp at h; exact h.2
  · rw [if_pos (by omega)] at h; simp at h; omega
theorem nodeI_leaf {x : NodeT} (h : nodeI x = true) (hn : ¬ (x.1 = 1 ∨ x.1 = 2 ∨ x.1 = 3)) : x.2.2.2 = 0 := by
  unfold nodeI at h
  rw [if_neg (by omega), if_neg (by omega)] at h
  split at h
  · simp at h; exact h.2
  · split at h
    · simp at h; exact h.2
    · cases h
set_option maxRecDepth 100000 in
set_option maxHeartbeats 4000000 in
theorem firstClause_any {S : Bs} (f : List NodeT) (ao : Option Addr) (cap : Nat) (hz : f.length + szL nodeE f ≤ 1048576) : ∀ (r k : Nat) (w : World) (v : Value), f.length - k < r → k ≤ f.length → SlAt nodeE S w f (.slice ao f.length cap) → TailN ao f.length k v →
    Calls Try.prog 132 #[v] w (GivesF f k ao f.length w (parseF f r k)) := by
  intro r
  induction r with
  | zero => intro k w v h; omega
  | succ r ih =>
    intro k w v hr hk hf ht
    have hl : f.length ≤ 1048576 := by omega
    obtain ⟨a, c, rfl, hc, ha⟩ := ht
    by_cases hlt : k < f.length
    rotate_left
    · have e0 : f.length - k = 0 := by omega
      rw [e0]
      clear hf ha
      have HR : Hid (parseF f (r + 1) k = none) := Lib.hid (by unfold parseF; rw [dif_neg hlt])
      go_enter Try.func132, Try.ntmps132
      go_wp2
      refine bodyPost_ret (v := .tuple #[.nilIface, .slice none 0 0]) (by simp [results, Try.results132, go_sem]) rfl ?_
      rw [HR.out]
      exact ⟨rfl, Below.refl _ _⟩
    have HF := Lib.hid hf
    obtain ⟨b, off, a0, a1, a2, a3, rfl, _, hb0, hx, ⟨hc0, hc1, hc2, hc3⟩, _⟩ := node_row hf hlt
    obtain rfl := ha hlt b off rfl
    have HZ : Hid (a1.size ≤ 1048576 ∧ a2.size ≤ 1048576) := Lib.hid (by
      have h1 := szL_mem nodeE (List.getElem_mem hlt)
      rw [hx] at h1
      have h2 : nodeE.sz (a0, a1, a2, a3) = 0 + (a1.size + (a2.size + 0)) := rfl
      omega)
    have HT0 : Hid (nodeI (a0, a1, a2, a3) = false → parseF f (r + 1) k = none) := Lib.hid (fun h => by unfold parseF; rw [dif_pos hlt, hx, if_neg (by rw [h]; simp)])
    have HT1 : Hid (nodeI (a0, a1, a2, a3) = true → parseF f (r + 1) k = (iterP (parseF f r) a3.toNat (k + 1) 0).map (fun x => (x.1, x.2 + 1))) := Lib.hid (fun h => by unfold parseF; rw [dif_pos hlt, hx, if_pos h])
    have HLe : Hid (∀ a b d, parseF f r a = some (b, d) → a + 1 ≤ b ∧ b ≤ f.length ∧ 1 ≤ d) := Lib.hid (fun a b d h => parse_le f r a b d h)
    have HX := Lib.hid hx; have HN0 : Hid (nodeI (a0, a1, a2, a3) = true → nodeI f[k] = true) := Lib.hid (fun h => by rw [hx]; exact h)
    have K0 := Lib.hid hc0; have K1 := Lib.hid hc1; have K2 := Lib.hid hc2; have K3 := Lib.hid hc3
    have HLf : Hid (nodeI (a0, a1, a2, a3) = true → ¬ (a0 = 1 ∨ a0 = 2 ∨ a0 = 3) → a3 = 0) := Lib.hid (fun h hn => nodeI_leaf h hn)
    have HOp : Hid (nodeI (a0, a1, a2, a3) = true → (a0 = 1 ∨ a0 = 2 ∨ a0 = 3) → 1 ≤ a3) := Lib.hid (fun h hn => nodeI_op h hn)
    have CN : Hid (∀ W : World, Calls Try.prog 175 #[.agg #[.int .i64 a0, .string a1, .string a2, .int .i64 a3]] W fun e w' => e = .returned (.bool (nodeI (a0, a1, a2, a3))) ∧ Below W.heap.size W w') := Lib.hid (fun W => nodeRight_any a0 a1 a2 a3 W HZ.out.1 HZ.out.2)
    have IH : Hid (∀ (j : Nat) (W : World) (u : Value), k < j → j ≤ f.length → Below w.heap.size w W → TailN (some ⟨b, off, none⟩) f.length j u → Calls Try.prog 132 #[u] W (GivesF f j (some ⟨b, off, none⟩) f.length W (parseF f r j))) := Lib.hid (fun j W u h1 h2 hb h3 => ih j W u (by omega) h2 (HF.out.frame (Same.of_below' hb)) h3)
    obtain ⟨M, hM⟩ : ∃ M, f.length - k = M + 1 := ⟨f.length - k - 1, by omega⟩
    rw [hM] at hc ⊢
    clear hf hx ih ha
    generalize parseF f (r + 1) k = R at *
    generalize nodeI (a0, a1, a2, a3) = ns at *
    generalize parseF f r = g at *
    go_enter Try.func132, Try.ntmps132
    go_wp2_with fail
    refine (CN.out w).mono ?_
    rintro e w2 ⟨rfl, hb⟩
    cases ns
    · have HR := Lib.hid (HT0.out rfl)
      go_wp2
      refine bodyPost_ret (v := .tuple #[.nilIface, .slice none 0 0]) (by simp [results, Try.results132, go_sem]) rfl ?_
      rw [HR.out]
      exact ⟨rfl, hb⟩
    have HR := Lib.hid (HT1.out rfl)
    have c3 := (hb.cell (p := ⟨b, off + k * 4 + 3, none⟩) hb0).trans hc3
    clear HT0 HT1
    by_cases ec : c = 1
    · go_wp2
      go_loopw [4, 5, 24] (fun rv pv i wr => ∃ (j q m : Nat) (ds : List PartT) (xs : List Value), i = .int .i64 j ∧ (j = 0 ∨ (j : Int) ≤ a3) ∧ k < q ∧ q ≤ f.length ∧ j ≤ q ∧ TailN (some ⟨b, off, none⟩) f.length q rv ∧ Grow (clE f) 107 w.heap.size wr pv ds xs ∧ ds.length = j ∧ deepest ds = m ∧ chainP (k + 1) ds q ∧ iterP g a3.toNat (k + 1) 0 = iterP g (a3.toNat - j) q m ∧ Below w.heap.size w wr) (fun _ _ i _ => f.length + 1 - (intOf i).toNat)
      case atStart => exact ⟨0, k + 1, 0, [], [], rfl, .inl rfl, by omega, by omega, by omega, ⟨_, _, by rw [show f.length - (k + 1) = M by omega], by omega, fun h bb oo e => by injection e with e; injection e with e1 e2; subst e1 e2; first | (exfalso; omega) | (congr 2; omega)⟩, Grow.nil _ _ _ _, rfl, rfl, rfl, rfl, hb⟩
      case round =>
        clear hc0 hc1 hc2 hc3 c3 hb
        obtain ⟨j, q, m, ds, xs, rfl, hj, hkq, hq, hjq, ht, hg, hdl, hdm, hch, hit, hbel⟩ := hrel
        have HG := Lib.hid hg; have HTl := Lib.hid ht; have HI := Lib.hid hit; have HDl := Lib.hid hdl; have HDm := Lib.hid hdm; have HCh := Lib.hid hch
        clear hg ht hit hdl hdm hch
        by_cases hlt2 : (j : Int) < a3
        · have HT2 := Lib.hid HTl.out
          obtain ⟨a', c', rfl, _, _⟩ := HTl.out
          obtain ⟨n2, hn2⟩ : ∃ n2, a3.toNat - j = n2 + 1 := ⟨a3.toNat - j - 1, by omega⟩
          have HI2 := HI.out
          rw [hn2] at HI2
          have HI3 := Lib.hid HI2
          have hn3 : a3.toNat - (j + 1) = n2 := by omega
          have hle := Lib.hid (HLe.out q)
          have HCl := Lib.hid (IH.out q wr _ hkq hq hbel HT2.out)
          clear HI2
          go_wp2_with fail
          refine HCl.out.mono ?_
          rintro e w3 ⟨hres, hb3⟩
          have b3 := hbel.trans (hb3.mono hbel.size)
          rcases hgq : g q with _ | ⟨q', dq⟩
          · rw [hgq] at hres
            obtain rfl := hres
            have HN : Hid (R = none) := Lib.hid (by rw [HR.out, HI3.out]; unfold iterP; rw [hgq]; rfl)
            clear hgq
            go_wp2
            refine bodyPost_ret (v := .tuple #[.nilIface, .slice none 0 0]) (by simp [results, Try.results132, go_sem]) rfl ?_
            rw [HN.out]
            exact ⟨rfl, b3⟩
          · rw [hgq] at hres
            obtain ⟨T, x, v', rfl, hcl, htl⟩ := hres
            have HN := Lib.hid (show iterP g a3.toNat (k + 1) 0 = iterP g n2 q' (max m dq) by rw [HI3.out]; show (match g q with | none => none | some (k', d) => iterP g n2 k' (max m d)) = _; rw [hgq])
            obtain ⟨l1, l2, _⟩ := hle.out q' dq hgq
            exfalso; omega
        · have hj0 : a3.toNat - j = 0 := by omega
          have HI2 := HI.out
          rw [hj0] at HI2
          have HRs : Hid (R = some (q, m + 1)) := Lib.hid (by rw [HR.out, HI2]; rfl)
          clear HI2
          have c0 := (hbel.cell (p := ⟨b, off + k * 4, none⟩) hb0).trans K0.out
          have c1 := (hbel.cell (p := ⟨b, off + k * 4 + 1, none⟩) hb0).trans K1.out
          have c2 := (hbel.cell (p := ⟨b, off + k * 4 + 2, none⟩) hb0).trans K2.out
          have c3 := (hbel.cell (p := ⟨b, off + k * 4 + 3, none⟩) hb0).trans K3.out
          obtain ⟨p7, n7, q7, hv7⟩ := own_slice3' HG.out.row
          subst hv7
          have HT2 := Lib.hid HTl.out
          obtain ⟨a', c', rfl, _, _⟩ := HTl.out
          go_wp2_with fail
          refine (newClause_any a0 a1 a2 a3 p7 n7 q7 wr).mono ?_
          clear c0 c1 c2 c3
          rintro e w5 ⟨⟨T, hres⟩, hb5⟩
          have b5 := hbel.trans (hb5.mono hbel.size)
          have hf0 : f[k].1 = a0 := by rw [HX.out]
          have hf3 : f[k].2.2.2 = a3 := by rw [HX.out]
          rcases hres with ⟨hop, rfl⟩ | ⟨hop, rfl⟩
          · have HD : Hid (ClP f (Fresh w w5) w5 (k, q, m + 1) (.iface T (.agg #[.slice p7 n7 q7]))) := Lib.hid (by
              have h0 : 1 ≤ a3 := HOp.out (by first | rfl | trivial) (by omega)
              have h1 := ClP.of HG.out.own.at (by have := HDl.out; omega) hlt (HN0.out (by first | rfl | trivial)) (by rw [hf0]; exact hop) (by rw [hf3, HDl.out]; omega) HCh.out
              rw [HDm.out] at h1
              exact (h1.frame (Same.of_below' hb5)).wide (fun b h => ⟨h.1, Nat.lt_of_lt_of_le h.2 hb5.size⟩))
            clear hop
            go_wp2
            refine bodyPost_ret (v := .tuple #[.iface T (.agg #[.slice p7 n7 q7]), .slice a' (f.length - q) c']) (by simp [results, Try.results132, go_sem]) rfl ?_
            rw [HRs.out]
            exact ⟨⟨T, _, _, rfl, HD.out, HT2.out⟩, b5⟩
          · have h3 : a3 = 0 := HLf.out (by first | rfl | trivial) hop
            have hj1 : j = 0 := by omega
            have hd0 : ds = [] := List.length_eq_zero_iff.1 (by rw [HDl.out, hj1])
            have hm0 : m = 0 := by rw [← HDm.out, hd0]; rfl
            have hq0 : q = k + 1 := by have := HCh.out; rw [hd0] at this; exact this.symm
            have HD : Hid (ClP f (Fresh w w5) w5 (k, q, m + 1) (.iface 231 (.agg #[.int .i64 a0, .string a1, .string a2, .int .i64 a3]))) := Lib.hid (by rw [hm0, hq0]; exact .leaf k hlt a0 a1 a2 a3 HX.out (HN0.out (by first | rfl | trivial)) hop)
            clear h3 hj1 hd0 hm0 hq0 hop
            go_wp2
            refine bodyPost_ret (v := .tuple #[.iface 231 (.agg #[.int .i64 a0, .string a1, .string a2, .int .i64 a3]), .slice a' (f.length - q) c']) (by simp [results, Try.results132, go_sem]) rfl ?_
            rw [HRs.out]
            exact ⟨⟨231, _, _, rfl, HD.out, HT2.out⟩, b5⟩
    · go_wp2
      go_loopw [4, 5, 24] (fun rv pv i wr => ∃ (j q m : Nat) (ds : List PartT) (xs : List Value), i = .int .i64 j ∧ (j = 0 ∨ (j : Int) ≤ a3) ∧ k < q ∧ q ≤ f.length ∧ j ≤ q ∧ TailN (some ⟨b, off, none⟩) f.length q rv ∧ Grow (clE f) 107 w.heap.size wr pv ds xs ∧ ds.length = j ∧ deepest ds = m ∧ chainP (k + 1) ds q ∧ iterP g a3.toNat (k + 1) 0 = iterP g (a3.toNat - j) q m ∧ Below w.heap.size w wr) (fun _ _ i _ => f.length + 1 - (intOf i).toNat)
      case atStart => exact ⟨0, k + 1, 0, [], [], rfl, .inl rfl, by omega, by omega, by omega, ⟨_, _, by rw [show f.length - (k + 1) = M by omega], by omega, fun h bb oo e => by injection e with e; injection e with e1 e2; subst e1 e2; first | (exfalso; omega) | (congr 2; omega)⟩, Grow.nil _ _ _ _, rfl, rfl, rfl, rfl, hb⟩
      case round =>
        clear hc0 hc1 hc2 hc3 c3 hb
        obtain ⟨j, q, m, ds, xs, rfl, hj, hkq, hq, hjq, ht, hg, hdl, hdm, hch, hit, hbel⟩ := hrel
        have HG := Lib.hid hg; have HTl := Lib.hid ht; have HI := Lib.hid hit; have HDl := Lib.hid hdl; have HDm := Lib.hid hdm; have HCh := Lib.hid hch
        clear hg ht hit hdl hdm hch
        by_cases hlt2 : (j : Int) < a3
        · have HT2 := Lib.hid HTl.out
          obtain ⟨a', c', rfl, _, _⟩ := HTl.out
          obtain ⟨n2, hn2⟩ : ∃ n2, a3.toNat - j = n2 + 1 := ⟨a3.toNat - j - 1, by omega⟩
          have HI2 := HI.out
          rw [hn2] at HI2
          have HI3 := Lib.hid HI2
          have hn3 : a3.toNat - (j + 1) = n2 := by omega
          have hle := Lib.hid (HLe.out q)
          have HCl := Lib.hid (IH.out q wr _ hkq hq hbel HT2.out)
          clear HI2
          go_wp2_with fail
          refine HCl.out.mono ?_
          rintro e w3 ⟨hres, hb3⟩
          have b3 := hbel.trans (hb3.mono hbel.size)
          rcases hgq : g q with _ | ⟨q', dq⟩
          · rw [hgq] at hres
            obtain rfl := hres
            have HN : Hid (R = none) := Lib.hid (by rw [HR.out, HI3.out]; unfold iterP; rw [hgq]; rfl)
            clear hgq
            go_wp2
            refine bodyPost_ret (v := .tuple #[.nilIface, .slice none 0 0]) (by simp [results, Try.results132, go_sem]) rfl ?_
            rw [HN.out]
            exact ⟨rfl, b3⟩
          · rw [hgq] at hres
            obtain ⟨T, x, v', rfl, hcl, htl⟩ := hres
            have HN := Lib.hid (show iterP g a3.toNat (k + 1) 0 = iterP g n2 q' (max m dq) by rw [HI3.out]; show (match g q with | none => none | some (k', d) => iterP g n2 k' (max m d)) = _; rw [hgq])
            obtain ⟨l1, l2, _⟩ := hle.out q' dq hgq
            have HTn := Lib.hid htl; have HCd := Lib.hid hcl
            obtain ⟨a9, c9, rfl, _, _⟩ := htl
            have D3 := Lib.hid hb3
            obtain ⟨p7, n7, q7, hv7⟩ := own_slice3' HG.out.row
            subst hv7
            have R3 : Hid (w3.ownsRow w.heap.size 107 1 (.slice p7 n7 q7) ds.length xs) := Lib.hid (HG.out.below hb3).row
            have hb1 : w.heap.size ≤ wr.heap.size := hbel.size
            have hB3 : w.heap.size ≤ w3.heap.size := b3.size
            have hdl2 : ds.length ≤ 100000000 := by have := HDl.out; omega
            clear hgq hcl hb3
            go_wp2_with (first
              | (at_builtin; refine append_cl w.heap.size rfl _ _ rfl _ _ xs rfl R3.out T x rfl hdl2 hB3 ?_; intro g7 cap7 w5 h1 h2 h3)
              | (fail "none"))
            have HG5 : Hid (Grow (clE f) 107 w.heap.size w5 (.slice (some ⟨g7, 0, none⟩) (ds.length + 1) cap7) (ds ++ [(q, q', dq)]) (xs ++ [.iface T x])) := Lib.hid (Grow.step HG.out hb1 D3.out ⟨_, rfl, HCd.out⟩ (more' (Below.refl _ _) _) h1 h2 (fun g' hg' => by
              have e : g7 = g' := by simpa [Value.ownBlock] using hg'
              subst e
              rcases h3 with h | h
              · exact .inl h
              · exact .inr (by omega)))
            have B5 : Below w.heap.size w w5 := (b3.alloc b3.size _).grown h2 (by simp; omega) (fun r hr => by have := (R3.out.lt r hr).1; omega)
            clear h1 h2 h3 R3
            go_wp2
            go_roundw
            case rel =>
              exact ⟨_, _, _, _, _, _, _, _, _, _, _, _, _, _, _, _, _, _, _, _, _, ⟨j + 1, q', max m dq, ds ++ [(q, q', dq)], _, by go_num, .inr (by omega), by omega, l2, by omega, HTn.out, HG5.out, by simp [HDl.out], by unfold deepest at *; rw [List.map_append, List.foldl_append, HDm.out]; rfl, chainP_snoc HCh.out rfl, by rw [hn3]; exact HN.out, B5⟩, rfl⟩
            case measure => simp [intOf]; omega
        · have hj0 : a3.toNat - j = 0 := by omega
          have HI2 := HI.out
          rw [hj0] at HI2
          have HRs : Hid (R = some (q, m + 1)) := Lib.hid (by rw [HR.out, HI2]; rfl)
          clear HI2
          have c0 := (hbel.cell (p := ⟨b, off + k * 4, none⟩) hb0).trans K0.out
          have c1 := (hbel.cell (p := ⟨b, off + k * 4 + 1, none⟩) hb0).trans K1.out
          have c2 := (hbel.cell (p := ⟨b, off + k * 4 + 2, none⟩) hb0).trans K2.out
          have c3 := (hbel.cell (p := ⟨b, off + k * 4 + 3, none⟩) hb0).trans K3.out
          obtain ⟨p7, n7, q7, hv7⟩ := own_slice3' HG.out.row
          subst hv7
          have HT2 := Lib.hid HTl.out
          obtain ⟨a', c', rfl, _, _⟩ := HTl.out
          go_wp2_with fail
          refine (newClause_any a0 a1 a2 a3 p7 n7 q7 wr).mono ?_
          clear c0 c1 c2 c3
          rintro e w5 ⟨⟨T, hres⟩, hb5⟩
          have b5 := hbel.trans (hb5.mono hbel.size)
          have hf0 : f[k].1 = a0 := by rw [HX.out]
          have hf3 : f[k].2.2.2 = a3 := by rw [HX.out]
          rcases hres with ⟨hop, rfl⟩ | ⟨hop, rfl⟩
          · have HD : Hid (ClP f (Fresh w w5) w5 (k, q, m + 1) (.iface T (.agg #[.slice p7 n7 q7]))) := Lib.hid (by
              have h0 : 1 ≤ a3 := HOp.out (by first | rfl | trivial) (by omega)
              have h1 := ClP.of HG.out.own.at (by have := HDl.out; omega) hlt (HN0.out (by first | rfl | trivial)) (by rw [hf0]; exact hop) (by rw [hf3, HDl.out]; omega) HCh.out
              rw [HDm.out] at h1
              exact (h1.frame (Same.of_below' hb5)).wide (fun b h => ⟨h.1, Nat.lt_of_lt_of_le h.2 hb5.size⟩))
            clear hop
            go_wp2
            refine bodyPost_ret (v := .tuple #[.iface T (.agg #[.slice p7 n7 q7]), .slice a' (f.length - q) c']) (by simp [results, Try.results132, go_sem]) rfl ?_
            rw [HRs.out]
            exact ⟨⟨T, _, _, rfl, HD.out, HT2.out⟩, b5⟩
          · have h3 : a3 = 0 := HLf.out (by first | rfl | trivial) hop
            have hj1 : j = 0 := by omega
            have hd0 : ds = [] := List.length_eq_zero_iff.1 (by rw [HDl.out, hj1])
            have hm0 : m = 0 := by rw [← HDm.out, hd0]; rfl
            have hq0 : q = k + 1 := by have := HCh.out; rw [hd0] at this; exact this.symm
            have HD : Hid (ClP f (Fresh w w5) w5 (k, q, m + 1) (.iface 231 (.agg #[.int .i64 a0, .string a1, .string a2, .int .i64 a3]))) := Lib.hid (by rw [hm0, hq0]; exact .leaf k hlt a0 a1 a2 a3 HX.out (HN0.out (by first | rfl | trivial)) hop)
            clear h3 hj1 hd0 hm0 hq0 hop
            go_wp2
            refine bodyPost_ret (v := .tuple #[.iface 231 (.agg #[.int .i64 a0, .string a1, .string a2, .int .i64 a3]), .slice a' (f.length - q) c']) (by simp [results, Try.results132, go_sem]) rfl ?_
            rw [HRs.out]
            exact ⟨⟨231, _, _, rfl, HD.out, HT2.out⟩, b5⟩
end Go.Proofs.Ytlgafmgohinkbaa
/- Filters: which are right: the specification. -/
namespace Go.Proofs.Ytlgafmgohinkbaa
open Go.RowKit
attribute [local go_sem ↓] Go.wp_at_zero Go.wp_at_succ

noncomputable def filterB (f : List NodeT) : Bool := decide (f.length ≤ 20) && (optI (endF f 5 0) == (f.length : Int))
set_option maxRecDepth 100000 in
set_option maxHeartbeats 4000000 in
theorem SpecFilterRight_any {S : Bs} (v : Value) (f : List NodeT) (w : World) (hf : SlAt nodeE S w f v) (hz : f.length + szL nodeE f ≤ 1048576) :
    Calls Try.prog 12 #[v] w fun e w' => e = .returned (.bool (filterB f)) ∧ Below w.heap.size w w' := by
  obtain ⟨ao, cap, rfl⟩ := hf.sl
  have hl : f.length ≤ 1048576 := by omega
  have CE : Hid (Calls Try.prog 71 #[.slice ao f.length cap, .int .i64 0, .int .i64 1] w fun e w' => e = .returned (.int .i64 (optI (endF f 5 0))) ∧ Below w.heap.size w w') := Lib.hid (l04End_any f ao cap hz 5 0 w (by omega) (by omega) hf)
  have HR : Hid (filterB f = (decide (f.length ≤ 20) && (optI (endF f 5 0) == (f.length : Int)))) := Lib.hid rfl
  generalize filterB f = r at *
  generalize optI (endF f 5 0) = n at *
  clear hf hz
  by_cases h : f.length ≤ 20
  · have h' : (f.length : Int) ≤ 20 := by omega
    go_enter Try.func12, Try.ntmps12
    go_wp2_with fail
    refine CE.out.mono ?_
    rintro e w2 ⟨rfl, hb⟩
    go_wp2
    go_ret
    exact ⟨ret_bool (by rw [HR.out]; simp [h]), hb⟩
  · have h' : ¬ (f.length : Int) ≤ 20 := by omega
    go_enter Try.func12, Try.ntmps12
    go_wp2
    go_ret
    exact ⟨ret_bool (by rw [HR.out]; simp [h]), Below.refl _ _⟩
end Go.Proofs.Ytlgafmgohinkbaa
/- Filters: a filter as one clause; which are right: the program. -/
namespace Go.Proofs.Ytlgafmgohinkbaa
open Go.RowKit
attribute [local go_sem ↓] Go.wp_at_zero Go.wp_at_succ

theorem iterP_dle {g : Nat → Option (Nat × Nat)} {s : Nat} (hg : ∀ a b d, g a = some (b, d) → d ≤ s) : ∀ (n k m p q : Nat), iterP g n k m = some (p, q) → q ≤ max m s
  | 0, k, m, p, q, h => by simp only [iterP, Option.some.injEq, Prod.mk.injEq] at h; omega
  | n + 1, k, m, p, q, h => by
    unfold iterP at h
    split at h
    · cases h
    · rename_i k' d e
      have h1 := hg k k' d e
      have h2 := iterP_dle hg n k' (max m d) p q h
      omega
theorem parse_deep (f : List NodeT) : ∀ (r k p d : Nat), parseF f r k = some (p, d) → d ≤ r
  | 0, _, _, _, h => by cases h
  | r + 1, k, p, d, h => by
    unfold parseF at h
    split at h
    · split at h
      · rw [Option.map_eq_some_iff] at h
        obtain ⟨⟨p', m⟩, h1, h2⟩ := h
        simp only [Prod.mk.injEq] at h2
        obtain ⟨rfl, rfl⟩ := h2
        have h3 := iterP_dle (fun a b d h => parse_deep f r a b d h) _ _ _ _ _ h1
        omega
      · cases h
    · cases h
/-- the depth of a right filter -/
noncomputable def deepR (f : List NodeT) : Option Nat := if f.length ≤ 20 then (match parseF f (f.length + 6) 0 with | some (p, d) => if p = f.length ∧ d ≤ 5 then some d else none | none => none) else none
theorem deep_filter (f : List NodeT) : filterB f = (deepR f).isSome := by
  unfold filterB deepR
  by_cases h : f.length ≤ 20
  · rw [if_pos h]
    rcases hp : parseF f (f.length + 6) 0 with _ | ⟨p, d⟩
    · rcases he : endF f 5 0 with _ | q
      · have : ((-1 : Int) == (f.length : Int)) = false := by (first | (simp; done) | (simp; omega))
        simp [optI, this]
      · obtain ⟨d, _, h2⟩ := end_parse f 5 0 q (f.length + 6) he (by omega)
        rw [hp] at h2; cases h2
    · by_cases hd : d ≤ 5
      · rw [parse_end f h _ _ p d 5 hp hd]
        by_cases e : p = f.length
        · simp [optI, h, e, hd]
        · have : ((p : Int) == (f.length : Int)) = false := by (first | (simp; done) | (simp; omega))
          simp [optI, this, e]
      · rcases he : endF f 5 0 with _ | q
        · have : ((-1 : Int) == (f.length : Int)) = false := by (first | (simp; done) | (simp; omega))
          simp [optI, this, hd]
        · obtain ⟨d', hd', h2⟩ := end_parse f 5 0 q (f.length + 6) he (by omega)
          rw [hp] at h2
          injection h2 with h2
          simp only [Prod.mk.injEq] at h2
          omega
  · simp [h]
def GivesO (f : List NodeT) (w : World) (R : Option Nat) (e : Ending) (w' : World) : Prop :=
  (match R with
    | none => e = .returned .nilIface
    | some d => ∃ T x, e = .returned (.iface T x) ∧ ClP f (Fresh w w') w' (0, f.length, d) (.iface T x)) ∧ Below w.heap.size w w'
set_option maxRecDepth 100000 in
set_option maxHeartbeats 4000000 in
theorem clauseOf_any {S : Bs} (v : Value) (f : List NodeT) (w : World) (hf : SlAt nodeE S w f v) (hz : f.length + szL nodeE f ≤ 1048576) :
    Calls Try.prog 73 #[v] w (GivesO f w (deepR f)) := by
  obtain ⟨ao, cap, rfl⟩ := hf.sl
  have hl : f.length ≤ 1048576 := by omega
  have ht : TailN ao f.length 0 (.slice ao f.length cap) := ⟨ao, cap, by simp, by
    obtain ⟨_, c, e, h, _⟩ := hf
    injection e with _ _ e3
    omega, fun _ b off e => by rw [e]; first | (congr 2; omega) | congr 2 | simp⟩
  by_cases h : f.length ≤ 20
  rotate_left
  · have HR : Hid (deepR f = none) := Lib.hid (by unfold deepR; rw [if_neg h])
    have h' : (20 : Int) < (f.length : Int) := by omega
    clear hf ht
    go_enter Try.func73, Try.ntmps73
    go_wp2
    go_ret
    rw [HR.out]
    exact ⟨rfl, Below.refl _ _⟩
  have h' : ¬ (20 : Int) < (f.length : Int) := by omega
  have HC := Lib.hid (firstClause_any f ao cap hz (f.length + 6) 0 w _ (by omega) (by omega) hf ht)
  have HN : Hid (parseF f (f.length + 6) 0 = none → deepR f = none) := Lib.hid (fun e => by unfold deepR; rw [if_pos h, e])
  have HS : Hid (∀ p d, parseF f (f.length + 6) 0 = some (p, d) → deepR f = (if p = f.length ∧ d ≤ 5 then some d else none) ∧ d ≤ 1000000 ∧ p ≤ f.length) := Lib.hid (fun p d e => ⟨by unfold deepR; rw [if_pos h, e], by have := parse_deep f _ _ _ _ e; omega, (parse_le f _ _ _ _ e).2.1⟩)
  clear hf ht
  generalize deepR f = R at *
  generalize parseF f (f.length + 6) 0 = P at *
  go_enter Try.func73, Try.ntmps73
  go_wp2_with fail
  refine HC.out.mono ?_
  rintro e w1 ⟨hres, b1⟩
  rcases P with _ | ⟨p, d⟩
  · have HR := Lib.hid (HN.out rfl)
    dsimp only at hres
    obtain rfl := hres
    go_wp2
    go_ret
    rw [HR.out]
    exact ⟨rfl, b1⟩
  obtain ⟨T, x, v, rfl, hcl, htl⟩ := hres
  obtain ⟨hR, hd, hp⟩ := HS.out p d rfl
  have HCl := Lib.hid hcl
  obtain ⟨a', c', rfl, _, _⟩ := htl
  clear HN HS hcl
  by_cases hpl : p = f.length
  rotate_left
  · have HR : Hid (R = none) := Lib.hid (by rw [hR, if_neg (by omega)])
    have hpos : (0 : Int) < ((f.length - p : Nat) : Int) := by omega
    clear hR
    generalize f.length - p = n at *
    go_wp2
    go_ret
    rw [HR.out]
    exact ⟨rfl, b1⟩
  have hz0 : f.length - p = 0 := by omega
  rw [hz0]
  have HR : Hid (R = if d ≤ 5 then some d else none) := Lib.hid (by rw [hR]; by_cases h5 : d ≤ 5 <;> simp [hpl, h5])
  clear hR
  go_wp2_with fail
  refine (depthOf_any HCl.out hd w1 (Below.refl _ _)).mono ?_
  rintro e w2 ⟨rfl, b2⟩
  have B2 := Lib.hid (b1.trans (b2.mono b1.size))
  by_cases h5 : d ≤ 5
  · have h5' : ¬ (5 : Int) < ((d : Nat) : Int) := by omega
    have HR2 : Hid (R = some d) := Lib.hid (by rw [HR.out, if_pos h5])
    have HC2 : Hid (ClP f (Fresh w w2) w2 (0, f.length, d) (.iface T x)) := Lib.hid (by
      have h1 := HCl.out
      rw [hpl] at h1
      exact (h1.frame (Same.of_below' b2)).wide (fun b h => ⟨h.1, Nat.lt_of_lt_of_le h.2 b2.size⟩))
    clear b2
    go_wp2
    go_ret
    rw [HR2.out]
    exact ⟨⟨T, x, rfl, HC2.out⟩, B2.out⟩
  · have h5' : (5 : Int) < ((d : Nat) : Int) := by omega
    have HR2 : Hid (R = none) := Lib.hid (by rw [HR.out, if_neg h5])
    clear b2
    go_wp2
    go_ret
    rw [HR2.out]
    exact ⟨rfl, B2.out⟩
set_option maxRecDepth 100000 in
set_option maxHeartbeats 4000000 in
theorem FilterRight_any {S : Bs} (v : Value) (f : List NodeT) (w : World) (hf : SlAt nodeE S w f v) (hz : f.length + szL nodeE f ≤ 1048576) :
    Calls Try.prog 14 #[v] w fun e w' => e = .returned (.bool (filterB f)) ∧ Below w.heap.size w w' := by
  have HC := Lib.hid (clauseOf_any v f w hf hz)
  have HR := Lib.hid (deep_filter f)
  obtain ⟨ao, cap, rfl⟩ := hf.sl
  clear hf hz
  generalize filterB f = r at *
  generalize deepR f = d at *
  go_enter Try.func14, Try.ntmps14
  go_wp2_with fail
  refine HC.out.mono ?_
  rintro e w1 ⟨hres, b1⟩
  rcases d with _ | d
  · dsimp only at hres
    obtain rfl := hres
    go_wp2
    go_ret
    exact ⟨ret_bool (by rw [HR.out]; rfl), b1⟩
  · obtain ⟨T, x, rfl, _⟩ := hres
    go_wp2
    go_ret
    exact ⟨ret_bool (by rw [HR.out]; rfl), b1⟩
end Go.Proofs.Ytlgafmgohinkbaa
/- FilterAttrs: the names of a filter. -/
namespace Go.Proofs.Ytlgafmgohinkbaa
open Go.RowKit Go.Sort Go.Lib
attribute [local go_sem ↓] Go.wp_at_zero Go.wp_at_succ

def namesF (f : List NodeT) : List ByteArray := (f.filter (fun x => !x.2.1.toList.isEmpty)).map (fun x => x.2.1)
noncomputable def attrsR (f : List NodeT) : List ByteArray := if filterB f = true then putAll [] (namesF f) else []
theorem namesF_take (f : List NodeT) (k : Nat) (h : k < f.length) : namesF (f.take (k + 1)) = namesF (f.take k) ++ (if f[k].2.1.toList.isEmpty then [] else [f[k].2.1]) := by
  unfold namesF
  rw [List.take_succ_eq_append_getElem h, List.filter_append, List.map_append]
  cases hq : f[k].2.1.toList.isEmpty <;> simp [List.filter_cons, hq]
theorem namesF_len (f : List NodeT) (k : Nat) : (namesF (f.take k)).length ≤ f.length := by
  unfold namesF
  rw [List.length_map]
  exact Nat.le_trans (List.length_filter_le _ _) (by rw [List.length_take]; omega)
/-- a filter has a leaf -/
theorem end_leaf (f : List NodeT) : ∀ (r k b : Nat), endF f r k = some b → ∃ i, k ≤ i ∧ i < f.length ∧ ∃ h : i < f.length, nmL f[i].2.1 = true
  | 0, _, _, h => by cases h
  | r + 1, k, b, h => by
    unfold endF at h
    split at h
    · rename_i hk
      split at h
      · rename_i hn
        by_cases hop : f[k].1 = 1 ∨ f[k].1 = 2 ∨ f[k].1 = 3
        · have h1 := nodeI_op (nodeS_I hn) hop
          obtain ⟨n, hn'⟩ : ∃ n, f[k].2.2.2.toNat = n + 1 := ⟨f[k].2.2.2.toNat - 1, by omega⟩
          rw [hn'] at h
          have h' : iterE (endF f r) n (endF f r (k + 1)) = some b := h
          rcases c : endF f r (k + 1) with _ | q
          · rw [c, iterE_none] at h'; cases h'
          · obtain ⟨i, h2, h3, h4⟩ := end_leaf f r (k + 1) q c
            exact ⟨i, by omega, h3, h4⟩
        · refine ⟨k, Nat.le_refl _, hk, hk, ?_⟩
          unfold nodeS at hn
          rw [if_neg (by omega), if_neg (by omega)] at hn
          split at hn
          · simp only [Bool.and_eq_true] at hn; exact hn.1.1
          · split at hn
            · simp only [Bool.and_eq_true] at hn; exact hn.1.1
            · cases hn
      · cases h
    · cases h
theorem namesF_pos {f : List NodeT} (h : filterB f = true) : 0 < (namesF f).length := by
  unfold filterB at h
  simp only [Bool.and_eq_true, decide_eq_true_eq, beq_iff_eq] at h
  rcases c : endF f 5 0 with _ | q
  · rw [c] at h; simp only [optI] at h; omega
  · obtain ⟨i, _, _, hi, hn⟩ := end_leaf f 5 0 q c
    have hne : f[i].2.1.toList.isEmpty = false := by
      unfold nmL at hn
      simp only [Bool.and_eq_true, decide_eq_true_eq] at hn
      have h1 : 1 ≤ f[i].2.1.size := hn.1.1.1
      cases he : f[i].2.1.toList.isEmpty with
      | false => rfl
      | true =>
        rw [List.isEmpty_iff] at he
        have h2 : f[i].2.1.toList.length = f[i].2.1.size := by rw [ByteArray.toList_eq]; rfl
        rw [he] at h2; simp at h2; omega
    have hm : f[i].2.1 ∈ namesF f := by
      unfold namesF
      exact List.mem_map.2 ⟨f[i], List.mem_filter.2 ⟨List.getElem_mem _, by rw [hne]; rfl⟩, rfl⟩
    exact List.length_pos_of_mem hm
theorem own_shrink {w : World} {B e g cap n m : Nat} {xs : List Value} (h : w.ownsRow B e 1 (.slice (some ⟨g, 0, none⟩) n cap) n xs) (hm : m ≤ n) : w.ownsRow B e 1 (.slice (some ⟨g, 0, none⟩) m cap) m (xs.take m) := by
  obtain ⟨h0, h1⟩ := h
  refine ⟨by rw [List.length_take, h0]; omega, ?_⟩
  rcases h1 with ⟨h1, _⟩ | ⟨g', cap', cur, e1, hB, hk, c1, c2, c3, c4⟩
  · cases h1
  · injection e1 with e1 _ e3
    injection e1 with e1
    injection e1 with e1
    subst e1; subst e3
    exact .inr ⟨g, cap, cur, rfl, hB, hk, by omega, c2, c3, by rw [← c4, List.take_take]; congr 1; omega⟩
set_option maxRecDepth 100000 in
theorem compactO_any (B g cap : Nat) (zs : List (List UInt8)) (w : World) (hown : w.ownsRow B 9 1 (.slice (some ⟨g, 0, none⟩) zs.length cap) zs.length (zs.map encStr)) :
    Calls Try.prog 77 #[.slice (some ⟨g, 0, none⟩) zs.length cap] w fun e w' => e = .returned (.slice (some ⟨g, 0, none⟩) ((Lib.compact zs).map sb).length cap) ∧ w'.ownsRow B 9 1 (.slice (some ⟨g, 0, none⟩) ((Lib.compact zs).map sb).length cap) ((Lib.compact zs).map sb).length (ss ((Lib.compact zs).map sb)) ∧ w.grownBy w' (some g) := by
  rcases hown.2 with ⟨h0, _⟩ | ⟨g', cap', cur, e, hbase, hk, hc1, hc2, hc3, hc4⟩
  · cases h0
  · injection e with e1 _ e3
    injection e1 with e1
    injection e1 with e1
    subst e1; subst e3
    have hH : Holds encStr w g 0 zs.toArray := by
      refine holds_of_block hk ?_
      rw [← Nat.mul_one zs.length, hc4]
    refine (AnyG.slices_Compact_string Try.laysCmp g 0 cap zs w hH (by unfold maxLen at hc2; omega) hc1).mono ?_
    rintro e w' ⟨he, q, rfl⟩
    have hle : (Lib.compact zs).length ≤ zs.length := by unfold Lib.compact Lib.compactUpTo; rw [List.length_map]; exact Nat.le_trans (List.length_filter_le _ _) (by simp)
    have hgl : g < w.heap.size := (Array.getElem?_eq_some_iff.1 hk).1
    refine ⟨by rw [he, List.length_map], ?_, ?_⟩
    · have hl : (Lib.compact zs ++ List.replicate (zs.length - (Lib.compact zs).length) []).length = zs.length := by simp; omega
      have h1 := ownsRow_sorted (w := w) (base := B) (g := g) (cap := cap) (n := q) (e := 9) (os := #[]) (cur := cur) (ss := zs) (ts := Lib.compact zs ++ List.replicate (zs.length - (Lib.compact zs).length) []) hl hbase hk hc1 hc2 hc3
      rw [grow_empty] at h1
      have h2 := own_shrink h1 hle
      have e2 : ((Lib.compact zs ++ List.replicate (zs.length - (Lib.compact zs).length) []).map encStr).take (Lib.compact zs).length = ss ((Lib.compact zs).map sb) := by
        rw [List.map_append, List.take_append_of_le_length (by simp), List.take_of_length_le (by simp)]
        unfold ss
        rw [List.map_map]
        rfl
      rw [e2] at h2
      rw [List.length_map]
      exact h2
    · refine ⟨rfl, rfl, rfl, by simp [Sort.ahead], fun k hk' hne => ?_⟩
      have hkg : g ≠ k := fun e => hne (by rw [e])
      simp [putRow, mapBlock, Sort.ahead, Array.getElem?_modify, hkg]
end Go.Proofs.Ytlgafmgohinkbaa
/- HasValue: what the program returns. -/
namespace Go.Proofs.Ytlgafmgohinkbaa
open Go.RowKit
attribute [local go_sem ↓] Go.wp_at_zero Go.wp_at_succ

/-- the number of the first that is so, or -1 -/
def findI {α : Type} (p : α → Bool) (l : List α) : Int := match l.findIdx? p with | some i => (i : Int) | none => -1
theorem findI_none {α : Type} {p : α → Bool} {l : List α} (h : ∀ i (hi : i < l.length), p l[i] = false) : findI p l = -1 := by
  have : l.findIdx? p = none := by
    rw [List.findIdx?_eq_none_iff]
    intro a ha
    obtain ⟨i, hi, rfl⟩ := List.getElem_of_mem ha
    exact h i hi
  unfold findI; rw [this]
theorem findI_some {α : Type} {p : α → Bool} {l : List α} {k : Nat} (hk : k < l.length) (h1 : p l[k] = true) (h : ∀ i (hi : i < l.length), i < k → p l[i] = false) : findI p l = (k : Int) := by
  have : l.findIdx? p = some k := by
    rw [List.findIdx?_eq_some_iff_getElem]
    exact ⟨hk, h1, fun j hj => by simpa using h j (by omega) hj⟩
  unfold findI; rw [this]
theorem findI_range {α : Type} (p : α → Bool) (l : List α) : -1 ≤ findI p l ∧ findI p l ≤ l.length := by
  unfold findI
  cases h : l.findIdx? p with
  | none => constructor <;> simp <;> omega
  | some i =>
    rw [List.findIdx?_eq_some_iff_getElem] at h
    obtain ⟨hi, _⟩ := h
    constructor <;> simp <;> omega
def likeV (val v : ByteArray) : Bool := normEq v val
noncomputable def hasB (d : RdnL) (l : List AttrV) (nm val : ByteArray) : Bool := decide (0 ≤ findI (likeV val) (attrOfL d l nm))
set_option maxRecDepth 100000 in
set_option maxHeartbeats 1000000 in
theorem like_any (w0 : World) (q : Nat) (x val : ByteArray) (w : World) (hx : x.size ≤ maxLen) (hv : val.size ≤ maxLen) (hc : w0.cell? ⟨q, 0, none⟩ = some (.string val)) (hq : q < w0.heap.size) (hB : Below w0.heap.size w0 w) :
    Calls Try.prog 223 #[.string x, .pointer (some ⟨q, 0, none⟩)] w fun e w' => e = .returned (.bool (likeV val x)) ∧ Below w0.heap.size w0 w' := by
  have c1 := (hB.cell (p := ⟨q, 0, none⟩) hq).trans hc
  have HE : Hid (likeV val x = normEq x val) := Lib.hid rfl
  go_enter Try.func223, Try.ntmps223
  go_wp2_with fail
  refine (sameNorm_any w0 x val w hx hv hB).mono ?_
  rintro e w1 ⟨rfl, hb1⟩
  generalize normEq x val = r at *
  go_wp2
  go_ret
  exact ⟨ret_bool HE.out.symm, hb1⟩
set_option maxRecDepth 100000 in
set_option maxHeartbeats 1000000 in
theorem indexFunc_any (w0 : World) (vo : Option Addr) (V : List ByteArray) (vc q : Nat) (val : ByteArray) (w : World) (hd : StrsAt w0 vo V) (hf : FitsV V) (hv : val.size ≤ maxLen) (hc : w0.cell? ⟨q, 0, none⟩ = some (.string val)) (hq : q < w0.heap.size) (hB : Below w0.heap.size w0 w) :
    Calls Try.prog 222 #[.slice vo V.length vc, .func (.func 223) #[] #[.pointer (some ⟨q, 0, none⟩)]] w fun e w' => e = .returned (.int .i64 (findI (likeV val) V)) ∧ Below w0.heap.size w0 w' := by
  have hl := hf.1
  have HD := Lib.hid hd; have HF := Lib.hid hf; have HC := Lib.hid hc; clear hd hf hc
  go_enter Try.func222, Try.ntmps222
  go_wp2_with fail
  go_loopw [8] (fun i wr => ∃ k : Nat, k ≤ V.length ∧ i = .int .i64 k ∧ (∀ j (h : j < V.length), j < k → likeV val V[j] = false) ∧ Below w0.heap.size w0 wr) (fun i _ => V.length - (intOf i).toNat)
  case atStart => exact ⟨0, Nat.zero_le _, rfl, fun j _ h => absurd h (Nat.not_lt_zero _), hB⟩
  case round =>
    obtain ⟨k, hk, rfl, hj, hbel⟩ := hrel
    have Hj := Lib.hid hj; clear hj
    by_cases hlt : k < V.length
    · obtain ⟨p, off, rfl, hp0, hd1⟩ := HD.out.at hlt
      have c1 := (hbel.cell (p := ⟨p, off + k, none⟩) hp0).trans hd1
      have hz := HF.out.max hlt
      have g1 : (0 : Int) ≤ (k : Int) := by omega
      have g2 : (k : Int) < (V.length : Int) := by omega
      have HX : Hid (likeV val V[k] = true → findI (likeV val) V = (k : Int)) := Lib.hid (fun h => findI_some hlt h Hj.out)
      have HN : Hid (likeV val V[k] = false → ∀ j (h : j < V.length), j < k + 1 → likeV val V[j] = false) := Lib.hid (fun hn j h hjk => by
        by_cases e : j = k
        · subst e; exact hn
        · exact Hj.out j h (by omega))
      clear hd1
      generalize V[k] = x at *
      cases hn : likeV val x
      · have HN' := Lib.hid (HN.out hn)
        go_wp2_with fail
        refine (like_any w0 q x val wr hz hv HC.out hq hbel).mono ?_
        rw [hn]
        rintro e w1 ⟨rfl, hb1⟩
        go_wp2
        go_roundw
        case rel => exact ⟨k + 1, by omega, by go_num, HN'.out, hb1⟩
        case measure => simp [intOf]; omega
      · have HX' := Lib.hid (HX.out hn)
        go_wp2_with fail
        refine (like_any w0 q x val wr hz hv HC.out hq hbel).mono ?_
        rw [hn]
        rintro e w1 ⟨rfl, hb1⟩
        go_wp2
        go_ret
        exact ⟨ret_int' HX'.out.symm, hb1⟩
    · have HT := Lib.hid (findI_none (p := likeV val) (l := V) (fun i hi => Hj.out i hi (by omega)))
      go_wp2
      go_ret
      exact ⟨ret_int' HT.out.symm, hbel⟩
set_option maxRecDepth 100000 in
set_option maxHeartbeats 1000000 in
theorem normIndex_any (vo : Option Addr) (V : List ByteArray) (vc : Nat) (val : ByteArray) (w : World) (hd : StrsAt w vo V) (hf : FitsV V) (hv : val.size ≤ maxLen) :
    Calls Try.prog 183 #[.slice vo V.length vc, .string val] w fun e w' => e = .returned (.int .i64 (findI (likeV val) V)) ∧ Below w.heap.size w w' := by
  have HD := Lib.hid hd; have HF := Lib.hid hf; clear hd hf
  go_enter Try.func183, Try.ntmps183
  go_wp2_with fail
  have hB1 := more (Below.refl w.heap.size w) (.cells #[.string val] 9)
  refine (indexFunc_any (w.alloc (.cells #[.string val] 9)) vo V vc w.heap.size val _ (HD.out.below hB1) HF.out hv (by simp) (by simp) (Below.refl _ _)).mono ?_
  rintro e w1 ⟨rfl, hb1⟩
  generalize hr : findI (likeV val) V = r at *
  have HR := Lib.hid hr; clear hr
  go_wp2
  go_ret
  exact ⟨ret_int' HR.out.symm, hB1.trans (hb1.mono hB1.size)⟩
theorem own_strs {w : World} {B n cap : Nat} {ao : Option Addr} {V : List ByteArray} (h : w.ownsRow B 9 1 (.slice ao n cap) V.length (ss V)) : StrsAt w ao V := by
  by_cases h0 : V.length = 0
  · exact .inl (List.length_eq_zero_iff.1 h0)
  · obtain ⟨g, cp, hv, _, hlt⟩ := h.form (by omega)
    have e : ao = some ⟨g, 0, none⟩ := by injection hv
    subst e
    refine .inr ⟨g, 0, rfl, hlt, fun i hi => ?_⟩
    have := h.cells (g := g) rfl i (.string V[i]) (by unfold ss; rw [List.getElem?_map, List.getElem?_eq_getElem hi]; rfl)
    rw [add_plain] at this; rw [Nat.zero_add]; exact this
theorem attrOf_fits {d : RdnL} {l : List AttrV} (h : FitsA l) (nm : ByteArray) : FitsV (attrOfL d l nm) := by
  unfold attrOfL; split
  · exact valsOf_fits h nm
  · exact .nil
end Go.Proofs.Ytlgafmgohinkbaa
/- FilterAttrs: what the program returns. -/
namespace Go.Proofs.Ytlgafmgohinkbaa
open Go.RowKit
attribute [local go_sem ↓] Go.wp_at_zero Go.wp_at_succ

set_option maxRecDepth 100000 in
set_option maxHeartbeats 2000000 in
theorem FilterAttrs_any {S : Bs} (v : Value) (f : List NodeT) (w : World) (hf : SlAt nodeE S w f v) (hz : f.length + szL nodeE f ≤ 1048576) :
    Calls Try.prog 17 #[v] w fun e w' => (∃ u, e = .returned u ∧ SlOwn strE (Fresh w w') w' (attrsR f) u) ∧ Below w.heap.size w w' := by
  have CF := Lib.hid (FilterRight_any v f w hf hz)
  obtain ⟨ao, cap, rfl⟩ := hf.sl
  have HA := Lib.hid hf
  have hl : f.length ≤ 1048576 := by omega
  have HZ : Hid (∀ x ∈ f, nodeE.sz x ≤ 1048576) := Lib.hid (fun x h => by have h1 := szL_mem nodeE h; omega)
  have HF : Hid (filterB f = false → attrsR f = []) := Lib.hid (fun h => by unfold attrsR; rw [h]; rfl)
  have HT : Hid (filterB f = true → attrsR f = putAll [] (namesF f) ∧ 0 < (namesF f).length) := Lib.hid (fun h => ⟨by unfold attrsR; rw [if_pos h], namesF_pos h⟩)
  have HNL : Hid (∀ k, (namesF (f.take k)).length ≤ 1048576) := Lib.hid (fun k => Nat.le_trans (namesF_len f k) hl)
  clear hf hz
  generalize filterB f = r at *
  go_enter Try.func17, Try.ntmps17
  go_wp2_with fail
  refine CF.out.mono ?_
  rintro e w1 ⟨rfl, b1⟩
  cases r
  · have HR := Lib.hid (HF.out (by rfl))
    go_wp2
    go_ret
    rw [HR.out]
    exact ⟨⟨_, rfl, own_nilS _ _ _⟩, b1⟩
  obtain ⟨hR, hp⟩ := HT.out (by rfl)
  have HR := Lib.hid hR
  have HP := Lib.hid hp
  clear hR hp HF HT CF
  go_wp2
  go_loopw [3, 11] (fun v i wr => ∃ k : Nat, k ≤ f.length ∧ i = .int .i64 k ∧ wr.ownsRow w.heap.size 9 1 v (namesF (f.take k)).length (ss (namesF (f.take k))) ∧ Below w.heap.size w wr) (fun _ i _ => f.length - (intOf i).toNat)
  case atStart => exact ⟨0, Nat.zero_le _, rfl, ⟨rfl, .inl ⟨rfl, rfl⟩⟩, b1⟩
  case round =>
    clear b1
    obtain ⟨k, hk, rfl, hown, hbel⟩ := hrel
    have HO := Lib.hid hown; clear hown
    by_cases hlt : k < f.length
    · obtain ⟨b, off, a0, a1, a2, a3, rfl, _, hb0, hx, ⟨hc0, hc1, hc2, hc3⟩, _⟩ := node_row (HA.out.frame (Same.of_below' hbel)) hlt
      have hz1 : a1.size ≤ 1048576 := by
        have h1 := HZ.out _ (List.getElem_mem hlt)
        rw [hx] at h1
        have h2 : nodeE.sz (a0, a1, a2, a3) = 0 + (a1.size + (a2.size + 0)) := rfl
        omega
      have HT : Hid (namesF (f.take (k + 1)) = namesF (f.take k) ++ (if a1.toList.isEmpty then [] else [a1])) := Lib.hid (by rw [namesF_take f k hlt, hx])
      have hpl : Hid ((namesF (f.take k)).length ≤ 1000000000) := Lib.hid (by have := HNL.out k; omega)
      clear hx
      generalize namesF (f.take k) = pre at *
      have g1 : (0 : Int) ≤ (k : Int) := by omega
      have g2 : (k : Int) < (f.length : Int) := by omega
      have OB := Lib.hid (HO.out.alloc (.cells #[.int .i64 a0, .string a1, .string a2, .int .i64 a3] 104))
      have BB := more' hbel (.cells #[.int .i64 a0, .string a1, .string a2, .int .i64 a3] 104)
      cases he : a1.toList.isEmpty
      · have HT2 : Hid (namesF (f.take (k + 1)) = pre ++ [a1]) := Lib.hid (by rw [HT.out, he]; rfl)
        have hne : ¬ a1.toList = [] := by intro h; rw [h] at he; cases he
        go_wp2_with fail
        refine (concat_at w _ a1 _ hz1 (by simp) (by simp) (more' BB _)).mono ?_
        rintro e w3 ⟨rfl, b3, d3⟩
        have O3 := Lib.hid (own_below (own_below OB.out (more' (Below.refl _ _) (.cells #[.string a1] 9))) d3)
        have L3 := b3.size
        clear d3 hc0 hc1 hc2 hc3
        go_wp2_with (first
          | (at_builtin; refine append_str w.heap.size rfl _ _ rfl _ pre rfl O3.out _ rfl hpl.out L3 b3 ?_; intro v4 w4 hown4 hbel4 hsz4 _ _)
          | (fail "none"))
        go_roundw
        case rel => exact ⟨k + 1, by omega, by go_num, by rw [HT2.out]; exact hown4, hbel4⟩
        case measure => simp [intOf]; omega
      · have HT2 : Hid (namesF (f.take (k + 1)) = pre) := Lib.hid (by rw [HT.out, he]; simp)
        have hem : a1.toList = [] := List.isEmpty_iff.1 he
        go_wp2
        go_roundw
        case rel => exact ⟨k + 1, by omega, by go_num, by rw [HT2.out]; exact OB.out, BB⟩
        case measure => simp [intOf]; omega
    · have e : f.take k = f := List.take_of_length_le (by omega)
      have hl9 : (namesF f).length ≤ 100000000 := by have := HNL.out k; rw [e] at this; omega
      rw [e] at HO
      clear e
      have HKc : Hid (∀ zs : List (List UInt8), zs.Perm ((namesF f).map bl) → (∀ i j, i < j → j < zs.length → Op.bytesLess zs.toArray[j]! zs.toArray[i]! = false) → (Lib.compact zs).map sb = attrsR f) := Lib.hid (fun zs h1 h2 => by rw [HR.out]; exact sorted_set h1 h2)
      have hp0 := HP.out
      clear HR HP HNL
      generalize namesF f = V at *
      obtain ⟨g, cp, rfl, _, _⟩ := HO.out.form hp0
      have HSt := Lib.hid (own_strs HO.out)
      have hsz := hbel.size
      go_wp2_with fail
      refine (sorted_any ⟨g, 0, none⟩ V cp _ HSt.out hl9 hp0).mono ?_
      rintro e w3 ⟨⟨g3, cp3, zs, rfl, hp, hs, o3⟩, b3⟩
      have O3 := Lib.hid o3; have B3 := Lib.hid (hbel.trans (b3.mono hsz)); have HK := Lib.hid (HKc.out zs hp hs)
      have hg3 := (o3.lt g3 rfl).1
      clear o3 b3 hp hs HKc
      go_wp2_with fail
      refine (compactO_any _ g3 cp3 zs w3 O3.out).mono ?_
      rw [HK.out]
      rintro e w4 ⟨rfl, o4, g4⟩
      have O4 := Lib.hid (own_texts (own_mono o4 hsz)); have B4 := Lib.hid (B3.out.grown g4 B3.out.size (fun j hj => by injection hj with hj; omega))
      clear o4 g4 HK O3
      go_wp2
      go_ret
      exact ⟨⟨_, rfl, O4.out⟩, B4.out⟩
end Go.Proofs.Ytlgafmgohinkbaa
/- l05Copy: what the specification's text returns. -/
namespace Go.Proofs.Ytlgafmgohinkbaa
open Go.RowKit
attribute [local go_sem ↓] Go.wp_at_zero Go.wp_at_succ

section
variable {ops : Array Oper} {rest : List Oper} {o : Oper} {a : Act} {Q : Exit → Act → World → Prop} {W : World}
theorem wpListW {P : Program} {l : List Oper} {w : World} (R : World → Prop) (h : R w) (k : ∀ W, R W → wpList P ops Q l a W) : wpList P ops Q l a w := k w h
/-- append([]string{}, texts...) -/
theorem app_txt0 (N : Nat) (hgd : o.guard = none) (s x : Operand)
    (ho : o.op = .call { callee := .builtin .append, args := #[s, x], argTypes := #[29, 29] }) (hs : a.eval s = .slice (some ⟨N, 0, none⟩) 0 0)
    (ao : Option Addr) (d : List ByteArray) (c n : Nat) (hn : n = d.length) (hx : a.eval x = .slice ao n c) (hd : StrsAt W ao d) (hc : ao = none → c = 0) (hlen : d.length ≤ 100000000) (hN : N = W.heap.size)
    (h : ∀ v' w', SlOwn strE (fun b => N ≤ b ∧ b < w'.heap.size) w' d v' → Below W.heap.size W w' → wpList Try.prog ops Q rest (a.put o.dst v') w') :
    wpList Try.prog ops Q (o :: rest) a (W.alloc (.cells #[] 9)) := by
  subst hN
  have B0 : Below W.heap.size W (W.alloc (.cells #[] 9)) := more' (Below.refl _ _) _
  have O0 : (W.alloc (.cells #[] 9)).ownsRow W.heap.size 9 1 (.slice (some ⟨W.heap.size, 0, none⟩) 0 0) ([] : List ByteArray).length (ss []) := ⟨rfl, .inr ⟨W.heap.size, 0, #[], rfl, Nat.le_refl _, heap_alloc_new W _, by simp, by unfold maxLen; simp, rfl, rfl⟩⟩
  refine append_strs W.heap.size hgd s x ho _ [] hs O0 ao d c n hn hx (hd.below B0) hc (by simp; omega) B0.size B0 ?_
  intro v' w' h1 h2
  exact h v' w' (own_texts h1) h2
end
set_option maxRecDepth 100000 in
set_option maxHeartbeats 4000000 in
theorem l05Copy_any {S : Bs} (a0 : ByteArray) (a1 a2 a3 : List ByteArray) (v1 v2 v3 : Value) (w : World) (h1 : SlAt strE S w a1 v1) (h2 : SlAt strE S w a2 v2) (h3 : SlAt strE S w a3 v3) (hz : classE.sz (a0, a1, a2, a3) ≤ 1048576) :
    Calls Try.prog 106 #[.agg #[.string a0, v1, v2, v3]] w fun e w' => ∃ u1 u2 u3, e = .returned (.agg #[.string a0, u1, u2, u3]) ∧ classE.Own (Fresh w w') w' (a0, a1, a2, a3) [.string a0, u1, u2, u3] ∧ Below w.heap.size w w' := by
  have HE : classE.sz (a0, a1, a2, a3) = a0.size + ((a1.length + szL strE a1) + ((a2.length + szL strE a2) + (a3.length + szL strE a3))) := rfl
  rw [HE] at hz
  obtain ⟨o1, k1, rfl⟩ := h1.sl
  obtain ⟨o2, k2, rfl⟩ := h2.sl
  obtain ⟨o3, k3, rfl⟩ := h3.sl
  have hc1 := h1.cap.2.2; have hc2 := h2.cap.2.2; have hc3 := h3.cap.2.2
  have H1 : Hid (∀ W : World, Below w.heap.size w W → StrsAt W o1 a1) := Lib.hid (fun W b => (strs_of h1).below b)
  have H2 : Hid (∀ W : World, Below w.heap.size w W → StrsAt W o2 a2) := Lib.hid (fun W b => (strs_of h2).below b)
  have H3 : Hid (∀ W : World, Below w.heap.size w W → StrsAt W o3 a3) := Lib.hid (fun W b => (strs_of h3).below b)
  have l1 : a1.length ≤ 100000000 := by omega
  have l2 : a2.length ≤ 100000000 := by omega
  have l3 : a3.length ≤ 100000000 := by omega
  clear h1 h2 h3 hz HE
  have W00 : Hid (∀ (C D : Array Value) (T : TypeId), C = #[.string a0, .slice o1 a1.length k1, .slice o2 a2.length k2, .slice o3 a3.length k3] → D = #[.string ⟨#[]⟩, .slice none 0 0, .slice none 0 0, .slice none 0 0] → Below w.heap.size w ((w.alloc (.cells C T)).alloc (.cells D T)) ∧ Blk ((w.alloc (.cells C T)).alloc (.cells D T)) w.heap.size [.string a0, .slice o1 a1.length k1, .slice o2 a2.length k2, .slice o3 a3.length k3] ∧ Blk ((w.alloc (.cells C T)).alloc (.cells D T)) (w.heap.size + 1) [.string ⟨#[]⟩, .slice none 0 0, .slice none 0 0, .slice none 0 0]) := Lib.hid (fun C D T hC hD => by subst hC hD; exact ⟨more' (more' (Below.refl _ _) _) _, (Blk.new _ _ _).alloc _, blk_at _ _ _ (by simp)⟩)
  go_enter Try.func106, Try.ntmps106
  go_wp2_with (first
    | (at_builtin; refine app_txt0 _ rfl _ _ rfl rfl o3 a3 k3 _ rfl rfl (H3.out _ B2s.out) hc3 l3 (setCell_size _ _ _).symm ?_; intro v3 w3 q3 hb3; obtain ⟨p3, e3, rfl⟩ := q3.at.sl; have Q3 := Lib.hid q3; have B3 := Lib.hid (B2s.out.trans (hb3.mono B2s.out.size)); have T3 := Lib.hid (T2s.out.below hb3); have R3 := Lib.hid (R2s.out.below hb3); have Q13 := Lib.hid (Q12s.out.frame (Same.of_below' hb3)); have Q23 := Lib.hid (Q2s.out.frame (Same.of_below' hb3)); have hR3 : w2.heap.size ≤ w3.heap.size := (by have := hb3.size; rw [setCell_size] at this; exact this); have x3 := T3.out.cell 3 rfl; have f3 := T3.out.soft 3; have U3 := Lib.hid (T3.out.set 3 (.slice p3 a3.length e3)); have V3 := Lib.hid (R3.out.far (R := w.heap.size) (j := 3) (by omega) (.slice p3 a3.length e3)); have u0 := U3.out.cell 0 rfl; have u1 := U3.out.cell 1 rfl; have u2 := U3.out.cell 2 rfl; have u3 := U3.out.cell 3 rfl; have z0 := V3.out.cell 0 rfl; have z1 := V3.out.cell 1 rfl; have z2 := V3.out.cell 2 rfl; have z3 := V3.out.cell 3 rfl; have s0 := V3.out.soft 0; have s1 := V3.out.soft 1; have s2 := V3.out.soft 2; have s3 := V3.out.soft 3; have TE := (((V3.out.set 0 (.string a0)).set 1 (.slice p1 a1.length e1)).set 2 (.slice p2 a2.length e2)).set 3 (.slice p3 a3.length e3); have j0 := TE.cell 0 rfl; have j1 := TE.cell 1 rfl; have j2 := TE.cell 2 rfl; have j3 := TE.cell 3 rfl; clear TE q3 hb3 y3 x2 f2 T2s R2s Q12s Q2s B2s T2 R2 Q2 Q12 B2)
    | (at_builtin; refine app_txt0 _ rfl _ _ rfl rfl o2 a2 k2 _ rfl rfl (H2.out _ B1s.out) hc2 l2 (setCell_size _ _ _).symm ?_; intro v2 w2 q2 hb2; obtain ⟨p2, e2, rfl⟩ := q2.at.sl; have Q2 := Lib.hid q2; have B2 := Lib.hid (B1s.out.trans (hb2.mono B1s.out.size)); have T2 := Lib.hid (T1s.out.below hb2); have R2 := Lib.hid (R1s.out.below hb2); have Q12 := Lib.hid (Q1s.out.frame (Same.of_below' hb2)); have x2 := T2.out.cell 2 rfl; have f2 := T2.out.soft 2; have hR2 : w1.heap.size ≤ w2.heap.size := (by have := hb2.size; rw [setCell_size] at this; exact this); have B2s := Lib.hid (B2.out.setCell (p := ⟨w.heap.size, 2, none⟩) (Nat.le_refl _) (.slice p2 a2.length e2)); have T2s := Lib.hid (T2.out.set 2 (.slice p2 a2.length e2)); have R2s := Lib.hid (R2.out.far (R := w.heap.size) (j := 2) (by omega) (.slice p2 a2.length e2)); have Q12s := Lib.hid (Q12.out.frame (Same.set w2 (g := w.heap.size) 2 (.slice p2 a2.length e2) (by intro h; have := h.1; omega))); have Q2s := Lib.hid (Q2.out.frame (Same.set w2 (g := w.heap.size) 2 (.slice p2 a2.length e2) (by intro h; have := h.1; omega))); have y3 := (T2s.out.alloc (.cells #[] 9)).cell 3 rfl; clear q2 hb2 y2 x1 f1 T1s R1s Q1s B1s T1 R1 Q1 B1)
    | (at_builtin; obtain ⟨b0, t0, r0⟩ := W00.out _ _ 63 rfl rfl; refine app_txt0 _ rfl _ _ rfl rfl o1 a1 k1 _ rfl rfl (H1.out _ b0) hc1 l1 (by simp) ?_; intro v1 w1 q1 hb1; obtain ⟨p1, e1, rfl⟩ := q1.at.sl; have Q1 := Lib.hid q1; have B1 := Lib.hid (b0.trans (hb1.mono b0.size)); have T1 := Lib.hid (t0.below hb1); have R1 := Lib.hid (r0.below hb1); have x1 := T1.out.cell 1 rfl; have f1 := T1.out.soft 1; have hR1 : w.heap.size + 1 < w1.heap.size := R1.out.lt; have B1s := Lib.hid (B1.out.setCell (p := ⟨w.heap.size, 1, none⟩) (Nat.le_refl _) (.slice p1 a1.length e1)); have T1s := Lib.hid (T1.out.set 1 (.slice p1 a1.length e1)); have R1s := Lib.hid (R1.out.far (R := w.heap.size) (j := 1) (by omega) (.slice p1 a1.length e1)); have Q1s := Lib.hid (Q1.out.frame (Same.set w1 (g := w.heap.size) 1 (.slice p1 a1.length e1) (by intro h; have := h.1; omega))); have y2 := (T1s.out.alloc (.cells #[] 9)).cell 2 rfl; clear q1 b0 t0 r0 hb1 W00)
    | (fail "none"))

  refine bodyPost_ret (v := .agg #[.string a0, .slice p1 a1.length e1, .slice p2 a2.length e2, .slice p3 a3.length e3]) (by simp [results, Try.results106, go_sem, j0, j1, j2, j3]) rfl ⟨_, _, _, rfl, class_pack a0 a1 a2 a3 _ _ _ (fun b => w.heap.size + 1 + 1 ≤ b ∧ b < w1.heap.size) (fun b => w1.heap.size ≤ b ∧ b < w2.heap.size) (fun b => w2.heap.size ≤ b ∧ b < w3.heap.size) ⟨?_, ?_, ?_, ?_, ?_, ?_, ?_, ?_, ?_, trivial⟩, ?_⟩
  · exact (((((Q13.out.frame (Same.set _ (g := w.heap.size) 3 (.slice p3 a3.length e3) (by intro h; have := h.1; omega))).frame (Same.set _ (g := w.heap.size + 1) 0 (.string a0) (by intro h; have := h.1; omega))).frame (Same.set _ (g := w.heap.size + 1) 1 (.slice p1 a1.length e1) (by intro h; have := h.1; omega))).frame (Same.set _ (g := w.heap.size + 1) 2 (.slice p2 a2.length e2) (by intro h; have := h.1; omega))).frame (Same.set _ (g := w.heap.size + 1) 3 (.slice p3 a3.length e3) (by intro h; have := h.1; omega)))
  · exact fun b h => ⟨by have := h.1; omega, by have := h.2; show _ < (World.heap _).size; simp only [setCell_size]; omega⟩
  · exact (((((Q23.out.frame (Same.set _ (g := w.heap.size) 3 (.slice p3 a3.length e3) (by intro h; have := h.1; omega))).frame (Same.set _ (g := w.heap.size + 1) 0 (.string a0) (by intro h; have := h.1; omega))).frame (Same.set _ (g := w.heap.size + 1) 1 (.slice p1 a1.length e1) (by intro h; have := h.1; omega))).frame (Same.set _ (g := w.heap.size + 1) 2 (.slice p2 a2.length e2) (by intro h; have := h.1; omega))).frame (Same.set _ (g := w.heap.size + 1) 3 (.slice p3 a3.length e3) (by intro h; have := h.1; omega)))
  · exact fun b h => ⟨by have := h.1; omega, by have := h.2; show _ < (World.heap _).size; simp only [setCell_size]; omega⟩
  · exact (((((Q3.out.frame (Same.set _ (g := w.heap.size) 3 (.slice p3 a3.length e3) (by intro h; have := h.1; omega))).frame (Same.set _ (g := w.heap.size + 1) 0 (.string a0) (by intro h; have := h.1; omega))).frame (Same.set _ (g := w.heap.size + 1) 1 (.slice p1 a1.length e1) (by intro h; have := h.1; omega))).frame (Same.set _ (g := w.heap.size + 1) 2 (.slice p2 a2.length e2) (by intro h; have := h.1; omega))).frame (Same.set _ (g := w.heap.size + 1) 3 (.slice p3 a3.length e3) (by intro h; have := h.1; omega)))
  · exact fun b h => ⟨by have := h.1; omega, by have := h.2; show _ < (World.heap _).size; simp only [setCell_size]; omega⟩
  · exact fun b h1 h2 => by have := h1.2; have := h2.1; omega
  · exact fun b h1 h2 => by have := h1.2; have := h2.1; omega
  · exact fun b h1 h2 => by have := h1.2; have := h2.1; omega
  · exact ((((B3.out.setCell (p := ⟨w.heap.size, 3, none⟩) (Nat.le_refl _) (.slice p3 a3.length e3)).setCell (p := ⟨w.heap.size + 1, 0, none⟩) (by show w.heap.size ≤ w.heap.size + 1; omega) (.string a0)).setCell (p := ⟨w.heap.size + 1, 1, none⟩) (by show w.heap.size ≤ w.heap.size + 1; omega) (.slice p1 a1.length e1)).setCell (p := ⟨w.heap.size + 1, 2, none⟩) (by show w.heap.size ≤ w.heap.size + 1; omega) (.slice p2 a2.length e2)).setCell (p := ⟨w.heap.size + 1, 3, none⟩) (by show w.heap.size ≤ w.heap.size + 1; omega) (.slice p3 a3.length e3)
end Go.Proofs.Ytlgafmgohinkbaa
