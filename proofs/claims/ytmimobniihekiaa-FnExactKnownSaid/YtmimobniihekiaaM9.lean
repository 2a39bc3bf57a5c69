/- Merged texts: KnS2, KnI, KnS3, KnownW. -/
import Derived.Test.YtmimobniihekiaaM8
/- Known: what the specification returns. -/
namespace Go.Proofs.Ytmimobniihekiaa
open Go.RowKit
attribute [local go_sem ↓] Go.wp_at_zero Go.wp_at_succ

theorem strs_take {w : World} {ao : Option Addr} {l : List ByteArray} (h : StrsAt w ao l) (k : Nat) : StrsAt w ao (l.take k) := by
  rcases h with h | ⟨b, off, e, h2, h3⟩
  · left; subst h; simp
  · exact .inr ⟨b, off, e, h2, fun i hi => by rw [List.getElem_take]; exact h3 i (by rw [List.length_take] at hi; omega)⟩
theorem strs_drop {w : World} {b off : Nat} {l : List ByteArray} (h : StrsAt w (some ⟨b, off, none⟩) l) (k : Nat) : StrsAt w (some ⟨b, off + k, none⟩) (l.drop k) := by
  rcases h with h | ⟨b', off', e, h2, h3⟩
  · left; subst h; simp
  · cases e
    refine .inr ⟨b, off + k, rfl, h2, fun i hi => ?_⟩
    rw [List.getElem_drop]
    have := h3 (k + i) (by rw [List.length_drop] at hi; omega)
    rw [← Nat.add_assoc] at this
    exact this
set_option maxRecDepth 100000 in
set_option maxHeartbeats 2000000 in
theorem l05Put_any (B : Nat) (u : Value) (l : List ByteArray) (t : ByteArray) (w : World) (hown : w.ownsRow B 9 1 u l.length (ss l)) (hB : B ≤ w.heap.size) (hl : l.length ≤ 100000000) (h0 : 0 < l.length) :
    Calls Try.prog 70 #[u, .string t] w fun e w' => (∃ v, e = .returned v ∧ w'.ownsRow B 9 1 v (putS l t).length (ss (putS l t))) ∧ Below w.heap.size w w' := by
  obtain ⟨g, cap, rfl, _, hgl⟩ := hown.form h0
  have HO := Lib.hid hown
  have HS := Lib.hid (own_strs hown).1
  have hcap : l.length ≤ cap := by
    rcases hown.2 with ⟨e, _⟩ | ⟨_, _, _, e, _, _, hc, _⟩
    · cases e
    · injection e with _ _ e; omega
  clear hown
  have O2 := Lib.hid (own_zeroS w (B := w.heap.size) rfl (Nat.le_refl _)); have B2 := Lib.hid (more (Below.refl w.heap.size w) (.cells #[] 9)); have L2 := B2.out.size
  have HTail : Hid (∀ k, kOf l t = k → ¬ l[k]? = some t → putS l t = l.take k ++ t :: l.drop k) := Lib.hid (fun k e h => by unfold putS; rw [e, if_neg h])
  have HSame : Hid (∀ k, kOf l t = k → l[k]? = some t → putS l t = l) := Lib.hid (fun k e h => by unfold putS; rw [e, if_pos h])
  go_enter Try.func70, Try.ntmps70
  go_wp2
  go_loopw [5] (fun i wr => ∃ k : Nat, k ≤ l.length ∧ i = .int .i64 k ∧ (∀ j (h : j < l.length), j < k → strLt l[j] t = true) ∧ wr = w) (fun i _ => l.length - (intOf i).toNat)
  case atStart => exact ⟨0, Nat.zero_le _, rfl, fun j _ h => absurd h (Nat.not_lt_zero _), by trivial⟩
  case round =>
    obtain ⟨k, hk, rfl, ha, hw0⟩ := hrel
    have hw1 := hw0.symm
    clear hw0
    subst hw1
    have Ha := Lib.hid ha; clear ha
    have D2 : Hid (StrsAt (w.alloc (.cells #[] 9)) (some ⟨g, 0, none⟩) (l.take k)) := Lib.hid (strs_take (HS.out.below B2.out) k)
    have HTk : Hid ((l.take k).length = k) := Lib.hid (by rw [List.length_take]; omega)
    by_cases hlt : k < l.length
    · obtain ⟨b, off, e, hb0, hc⟩ := HS.out.at hlt
      cases e
      rw [Nat.zero_add] at hc
      have g1 : (0 : Int) ≤ (k : Int) := by omega
      have g2 : (k : Int) < (l.length : Int) := by omega
      have HN : Hid (strLt l[k] t = true → ∀ j (h : j < l.length), j < k + 1 → strLt l[j] t = true) := Lib.hid (fun hn j h hj => by
        by_cases e : j = k
        · subst e; exact hn
        · exact Ha.out j h (by omega))
      have HKk : Hid (strLt l[k] t = false → kOf l t = k) := Lib.hid (fun h => kOf_is hk Ha.out (fun _ => h))
      have HGet : Hid (l[k]? = some l[k]) := Lib.hid (List.getElem?_eq_getElem hlt)
      have HLt : Hid (strLt l[k] t = Op.bytesLess l[k].toList t.toList) := Lib.hid rfl
      generalize l[k] = A at *
      have hbe := name_beq A t
      cases hs : strLt A t
      · have hless : Op.bytesLess A.toList t.toList = false := HLt.out.symm.trans hs
        by_cases hq : A = t
        · rw [decide_eq_true hq] at hbe
          have HE : Hid (putS l t = l) := Lib.hid (HSame.out k (HKk.out hs) (by rw [HGet.out, hq]))
          clear hq
          go_wp2
          go_ret
          exact ⟨⟨_, rfl, by rw [HE.out]; exact HO.out⟩, Below.refl _ _⟩
        · rw [decide_eq_false hq] at hbe
          have HE : Hid (putS l t = l.take k ++ t :: l.drop k) := Lib.hid (HTail.out k (HKk.out hs) (by rw [HGet.out]; exact fun e => hq (Option.some.inj e)))
          clear hq
          go_wp2_with (first
            | (at_builtin; refine append_strs w.heap.size rfl _ _ rfl _ (l.take k ++ [t]) rfl O4.out _ (l.drop k) _ _ (by simp) rfl D4.out (fun e => by cases e) (by simp; omega) L4 B4.out ?_; intro v5 w5 hown5 hbel5; rw [List.append_assoc] at hown5)
            | (at_builtin; refine append_str w.heap.size rfl _ _ rfl _ (l.take k) rfl O3.out t rfl (by simp; omega) L3 B3.out ?_; intro v4 w4 hown4 hbel4 hsz4 _ _; have O4 := Lib.hid hown4; have B4 := Lib.hid hbel4; have L4 := hsz4; have D4 := Lib.hid (strs_drop (HS.out.below hbel4) k); rw [Nat.zero_add] at D4; clear hown4 hbel4)
            | (at_builtin; refine append_strs w.heap.size rfl _ _ rfl _ [] rfl O2.out (some ⟨g, 0, none⟩) (l.take k) cap _ HTk.out.symm rfl D2.out (fun e => by cases e) (by simp; omega) L2 B2.out ?_; rw [List.nil_append]; intro v3 w3 hown3 hbel3; have O3 := Lib.hid hown3; have B3 := Lib.hid hbel3; have L3 := hbel3.size; clear hown3 hbel3)
            | (fail "none"))
          go_ret
          exact ⟨⟨_, rfl, by rw [HE.out]; exact own_mono hown5 hB⟩, hbel5⟩
      · have hless : Op.bytesLess A.toList t.toList = true := HLt.out.symm.trans hs
        have HN' := Lib.hid (HN.out hs)
        go_wp2
        go_roundw
        case rel => exact ⟨k + 1, by omega, by go_num, HN'.out, by trivial⟩
        case measure => simp [intOf]; omega
    · have HE : Hid (putS l t = l.take k ++ t :: l.drop k) := Lib.hid (HTail.out k (kOf_is hk Ha.out (fun h => absurd h hlt)) (by rw [List.getElem?_eq_none (by omega)]; simp))
      have HDn : Hid (l.drop k = []) := Lib.hid (List.drop_eq_nil_of_le (by omega))
      go_wp2_with (first
        | (at_builtin; refine append_strs w.heap.size rfl _ _ rfl _ (l.take k ++ [t]) rfl O4.out _ (l.drop k) _ _ (by simp) rfl (.inl HDn.out) (fun e => by split at e <;> cases e) (by simp; omega) L4 B4.out ?_; intro v5 w5 hown5 hbel5; rw [List.append_assoc] at hown5)
        | (at_builtin; refine append_str w.heap.size rfl _ _ rfl _ (l.take k) rfl O3.out t rfl (by simp; omega) L3 B3.out ?_; intro v4 w4 hown4 hbel4 hsz4 _ _; have O4 := Lib.hid hown4; have B4 := Lib.hid hbel4; have L4 := hsz4; have D4 := Lib.hid (strs_drop (HS.out.below hbel4) k); rw [Nat.zero_add] at D4; clear hown4 hbel4)
        | (at_builtin; refine append_strs w.heap.size rfl _ _ rfl _ [] rfl O2.out (some ⟨g, 0, none⟩) (l.take k) cap _ HTk.out.symm rfl D2.out (fun e => by cases e) (by simp; omega) L2 B2.out ?_; rw [List.nil_append]; intro v3 w3 hown3 hbel3; have O3 := Lib.hid hown3; have B3 := Lib.hid hbel3; have L3 := hbel3.size; clear hown3 hbel3)
        | (fail "none"))
      all_goals (go_ret; exact ⟨⟨_, rfl, by rw [HE.out]; exact own_mono hown5 hB⟩, hbel5⟩)
theorem putAll_pos {acc : List ByteArray} (l : List ByteArray) (h : 0 < acc.length) : 0 < (putAll acc l).length := by
  induction l generalizing acc with
  | nil => exact h
  | cons x l ih =>
    refine ih ?_
    unfold putS
    split
    · exact h
    · rw [List.length_append, List.length_cons]; omega
theorem allN_len {l : List ClassV} (h6 : l.length ≤ 6) (hf : FitsC l) (k : Nat) : (allN (l.take k)).length ≤ 20000000 := by
  have : ∀ m : List ClassV, (∀ c ∈ m, FitsC1 c) → (allN m).length ≤ m.length * 2097152 := by
    intro m
    induction m with
    | nil => intro _; simp [allN]
    | cons c m ih =>
      intro h
      have h1 := ih (fun x hx => h x (List.mem_cons_of_mem _ hx))
      have h2 := h c (List.mem_cons_self ..)
      have h3 := h2.must.1; have h4 := h2.may.1
      have e : allN (c :: m) = (c.must ++ c.may) ++ allN m := by unfold allN; simp
      rw [e, List.length_append, List.length_append, List.length_cons]; omega
  have h1 := this (l.take k) (fun c hc => hf.2 c (List.mem_of_mem_take hc))
  have h2 : (l.take k).length ≤ 6 := by rw [List.length_take]; omega
  omega
set_option maxRecDepth 100000 in
set_option maxHeartbeats 2000000 in
theorem l05Known_any (ao : Option Addr) (d : List ClassV) (cap : Nat) (w : World) (hd : ClassesAt w ao d) (hf : FitsC d) (h6 : d.length ≤ 6) :
    Calls Try.prog 53 #[.slice ao d.length cap] w (GivesV w (knownL d)) := by
  have HD := Lib.hid hd; have HF := Lib.hid hf; clear hd hf
  have HAl : Hid (∀ k, (allN (d.take k)).length ≤ 20000000) := Lib.hid (fun k => allN_len h6 HF.out k)
  have HPut : Hid (∀ (W : World) (u : Value) (L : List ByteArray) (t : ByteArray), Below w.heap.size w W → W.ownsRow w.heap.size 9 1 u L.length (ss L) → 0 < L.length → L.length ≤ 100000000 → Calls Try.prog 70 #[u, .string t] W fun e w' => (∃ v, e = .returned v ∧ w'.ownsRow w.heap.size 9 1 v (putS L t).length (ss (putS L t))) ∧ Below w.heap.size w w') :=
    Lib.hid (fun W u L t h o h0 hl => (l05Put_any w.heap.size u L t W o h.size hl h0).mono fun e w' ⟨p, q⟩ => ⟨p, h.trans (q.mono h.size)⟩)
  have O0 : Hid ((w.alloc (.cells #[.string ⟨#[99, 108, 97, 115, 115]⟩] 9)).ownsRow w.heap.size 9 1 (.slice (some ⟨w.heap.size, 0, none⟩) 1 1) (putAll [clsT] (allN (d.take 0))).length (ss (putAll [clsT] (allN (d.take 0))))) := Lib.hid ⟨rfl, .inr ⟨w.heap.size, 1, #[.string ⟨#[99, 108, 97, 115, 115]⟩], rfl, Nat.le_refl _, heap_alloc_new _ _, Nat.le_refl _, by decide, rfl, rfl⟩⟩
  have B0 := Lib.hid (more (Below.refl w.heap.size w) (.cells #[.string ⟨#[99, 108, 97, 115, 115]⟩] 9))
  go_enter Try.func53, Try.ntmps53
  go_wp2
  go_loopw [3, 4] (fun v i wr => ∃ j : Nat, j ≤ d.length ∧ i = .int .i64 j ∧ wr.ownsRow w.heap.size 9 1 v (putAll [clsT] (allN (d.take j))).length (ss (putAll [clsT] (allN (d.take j)))) ∧ Below w.heap.size w wr) (fun _ i _ => d.length - (intOf i).toNat)
  case atStart => exact ⟨0, Nat.zero_le _, rfl, O0.out, B0.out⟩
  case round =>
    clear O0 B0
    obtain ⟨j, hj, rfl, hown0, hbel0⟩ := hrel
    have O1 := Lib.hid hown0; have O1b := Lib.hid hbel0
    clear hown0
    by_cases hlt : j < d.length
    · obtain ⟨b, off, v1, v2, v3, rfl, hb0, hc⟩ := HD.out.at hlt
      obtain ⟨d0, d1, d2, d3, ⟨o1, k1, e1, s1, _⟩, ⟨o2, k2, e2, s2, _⟩, _⟩ := hc
      subst e1 e2
      have HSn0 : Hid (putAll [clsT] (allN (d.take (j + 1))) = putAll (putAll (putAll [clsT] (allN (d.take j))) d[j].must) d[j].may) := Lib.hid (by rw [allN_succ d j hlt, putAll_append, putAll_append])
      have HZ := Lib.hid (HF.out.at hlt)
      have HSz : Hid ((putAll [clsT] (allN (d.take j))).length ≤ 30000000) := Lib.hid (by have := putAll_len (allN (d.take j)) [clsT]; have := HAl.out j; simp at *; omega)
      have g1 : (0 : Int) ≤ (j : Int) := by omega
      have g2 : (j : Int) < (d.length : Int) := by omega
      generalize d[j] = C at *
      have HCell : Hid (∀ W : World, Below w.heap.size w W → W.cell? ⟨b, off + j * 4, none⟩ = some (.string C.nm) ∧ W.cell? ⟨b, off + j * 4 + 1, none⟩ = some (.slice o1 C.must.length k1) ∧ W.cell? ⟨b, off + j * 4 + 2, none⟩ = some (.slice o2 C.may.length k2) ∧ True) := Lib.hid (fun W h => ⟨(h.cell (p := ⟨b, _, none⟩) hb0).trans d0, (h.cell (p := ⟨b, _, none⟩) hb0).trans d1, (h.cell (p := ⟨b, _, none⟩) hb0).trans d2, trivial⟩)
      have HStr_must := Lib.hid s1; have HStr_may := Lib.hid s2
      have hlm := HZ.out.must.1; have hly := HZ.out.may.1
      have HPos_must : Hid (0 < (putAll [clsT] (allN (d.take j))).length) := Lib.hid (putAll_pos _ (by simp))
      have HLen_must : Hid (C.must.length ≤ 1048576 ∧ (putAll [clsT] (allN (d.take j))).length ≤ 30000000) := Lib.hid ⟨hlm, HSz.out⟩
      clear d0 d1 d2 d3 s1 s2 hbel0
      go_wp2
      go_loopw [3, 5] (fun v i wr => ∃ k : Nat, k ≤ C.must.length ∧ i = .int .i64 k ∧ wr.ownsRow w.heap.size 9 1 v (putAll (putAll [clsT] (allN (d.take j))) (C.must.take k)).length (ss (putAll (putAll [clsT] (allN (d.take j))) (C.must.take k))) ∧ Below w.heap.size w wr) (fun _ i _ => C.must.length - (intOf i).toNat)
      case atStart => exact ⟨0, Nat.zero_le _, rfl, O1.out, O1b.out⟩
      case round =>
        obtain ⟨k, hk, rfl, hown, hbel⟩ := hrel
        have HOw := Lib.hid hown; have hsz := hbel.size
        clear hown
        obtain ⟨c0, c1, c2, c3⟩ := HCell.out _ hbel
        by_cases hlk : k < C.must.length
        · obtain ⟨b', off', ho', hb', hd'⟩ := (HStr_must.out).at hlk
          have hx := (hbel.cell (p := ⟨b', off' + k, none⟩) hb').trans hd'
          subst ho'
          have g3 : (0 : Int) ≤ (k : Int) := by omega
          have g4 : (k : Int) < (C.must.length : Int) := by omega
          have HSn : Hid (putAll (putAll [clsT] (allN (d.take j))) (C.must.take (k + 1)) = putS (putAll (putAll [clsT] (allN (d.take j))) (C.must.take k)) C.must[k]) := Lib.hid (by rw [List.take_succ_eq_append_getElem hlk, putAll_snoc])
          have HLn : Hid (0 < (putAll (putAll [clsT] (allN (d.take j))) (C.must.take k)).length ∧ (putAll (putAll [clsT] (allN (d.take j))) (C.must.take k)).length ≤ 100000000) := Lib.hid ⟨putAll_pos _ HPos_must.out, by have := putAll_len (C.must.take k) (putAll [clsT] (allN (d.take j))); have := HLen_must.out; rw [List.length_take] at *; omega⟩
          clear hd' hb'
          generalize C.must[k] = x at *
          generalize putAll (putAll [clsT] (allN (d.take j))) (C.must.take k) = R at *
          go_wp2_with fail
          refine (HPut.out wr _ R x hbel HOw.out HLn.out.1 HLn.out.2).mono ?_
          rintro e w3 ⟨⟨v3, rfl, o3⟩, b3⟩
          have O3 := Lib.hid o3; clear o3
          go_wp2
          go_roundw
          case rel => exact ⟨k + 1, by omega, by go_num, by rw [HSn.out]; exact O3.out, b3⟩
          case measure => simp [intOf]; omega
        · have e : C.must.take k = C.must := List.take_of_length_le (by omega)
          rw [e] at HOw
          clear e O1 O1b
          have O2 := HOw; have O2b := Lib.hid hbel
          clear HOw
          have HPos_may : Hid (0 < (putAll (putAll [clsT] (allN (d.take j))) C.must).length) := Lib.hid (putAll_pos _ HPos_must.out)
          have HLen_may : Hid (C.may.length ≤ 1048576 ∧ (putAll (putAll [clsT] (allN (d.take j))) C.must).length ≤ 40000000) := Lib.hid ⟨hly, by have := putAll_len C.must (putAll [clsT] (allN (d.take j))); have := HSz.out; omega⟩
          go_wp2
          go_loopw [3, 6] (fun v i wr => ∃ k : Nat, k ≤ C.may.length ∧ i = .int .i64 k ∧ wr.ownsRow w.heap.size 9 1 v (putAll (putAll (putAll [clsT] (allN (d.take j))) C.must) (C.may.take k)).length (ss (putAll (putAll (putAll [clsT] (allN (d.take j))) C.must) (C.may.take k))) ∧ Below w.heap.size w wr) (fun _ i _ => C.may.length - (intOf i).toNat)
          case atStart => exact ⟨0, Nat.zero_le _, rfl, O2.out, O2b.out⟩
          case round =>
            clear c0 c1 c2 c3
            obtain ⟨k, hk, rfl, hown, hbel⟩ := hrel
            have HOw := Lib.hid hown; have hsz := hbel.size
            clear hown
            obtain ⟨c0, c1, c2, c3⟩ := HCell.out _ hbel
            by_cases hlk : k < C.may.length
            · obtain ⟨b', off', ho', hb', hd'⟩ := (HStr_may.out).at hlk
              have hx := (hbel.cell (p := ⟨b', off' + k, none⟩) hb').trans hd'
              subst ho'
              have g3 : (0 : Int) ≤ (k : Int) := by omega
              have g4 : (k : Int) < (C.may.length : Int) := by omega
              have HSn : Hid (putAll (putAll (putAll [clsT] (allN (d.take j))) C.must) (C.may.take (k + 1)) = putS (putAll (putAll (putAll [clsT] (allN (d.take j))) C.must) (C.may.take k)) C.may[k]) := Lib.hid (by rw [List.take_succ_eq_append_getElem hlk, putAll_snoc])
              have HLn : Hid (0 < (putAll (putAll (putAll [clsT] (allN (d.take j))) C.must) (C.may.take k)).length ∧ (putAll (putAll (putAll [clsT] (allN (d.take j))) C.must) (C.may.take k)).length ≤ 100000000) := Lib.hid ⟨putAll_pos _ HPos_may.out, by have := putAll_len (C.may.take k) (putAll (putAll [clsT] (allN (d.take j))) C.must); have := HLen_may.out; rw [List.length_take] at *; omega⟩
              clear hd' hb'
              generalize C.may[k] = x at *
              generalize putAll (putAll (putAll [clsT] (allN (d.take j))) C.must) (C.may.take k) = R at *
              go_wp2_with fail
              refine (HPut.out wr _ R x hbel HOw.out HLn.out.1 HLn.out.2).mono ?_
              rintro e w3 ⟨⟨v3, rfl, o3⟩, b3⟩
              have O3 := Lib.hid o3; clear o3
              go_wp2
              go_roundw
              case rel => exact ⟨k + 1, by omega, by go_num, by rw [HSn.out]; exact O3.out, b3⟩
              case measure => simp [intOf]; omega
            · have e : C.may.take k = C.may := List.take_of_length_le (by omega)
              rw [e, ← HSn0.out] at HOw
              clear e
              go_wp2
              go_roundw
              case rel => exact ⟨j + 1, by omega, by go_num, HOw.out, hbel⟩
              case measure => simp [intOf]; omega
    · obtain rfl : j = d.length := by omega
      have HO : Hid (wr.ownsRow w.heap.size 9 1 u3 (knownL d).length (ss (knownL d))) := Lib.hid (by have h := O1.out; rw [List.take_length] at h; exact h)
      clear O1
      go_wp2
      go_ret
      exact ⟨⟨_, rfl, HO.out⟩, O1b.out⟩
end Go.Proofs.Ytmimobniihekiaa
/- Known: what the program returns. -/
namespace Go.Proofs.Ytmimobniihekiaa
open Go.RowKit
attribute [local go_sem ↓] Go.wp_at_zero Go.wp_at_succ

theorem eqnilS (n c : Nat) (w : World) : (binOp .eql 29 (.slice none n c) (.slice none 0 0)).run Try.prog w = .ok (.bool true) w := by kernel_rfl
theorem eqsomeS (a : Addr) (n c : Nat) (w : World) : (binOp .eql 29 (.slice (some a) n c) (.slice none 0 0)).run Try.prog w = .ok (.bool false) w := by kernel_rfl
set_option maxRecDepth 100000 in
set_option maxHeartbeats 1000000 in
theorem cloneS_any (a : Addr) (V : List ByteArray) (vc : Nat) (w : World) (hv : StrsAt w (some a) V) (hl : V.length ≤ 100000000) :
    Calls Try.prog 58 #[.slice (some a) V.length vc] w (GivesV w V) := by
  have O1 := own_zeroS w (B := w.heap.size) rfl (Nat.le_refl _)
  have B1 := more (Below.refl w.heap.size w) (.cells #[] 9)
  have HV1 := hv.below B1
  have hlen : ([] : List ByteArray).length + V.length ≤ 1000000000 := by simp; omega
  have hs3 := B1.size
  have he := eqsomeS a V.length vc
  clear hv
  go_enter Try.func58, Try.ntmps58
  go_wp2_with (first
      | (at_builtin; refine append_strs w.heap.size rfl _ _ rfl _ [] rfl O1 (some a) V vc _ rfl rfl HV1 (fun e => by cases e) hlen hs3 B1 ?_; intro v4 w4 hown4 hbel4)
      | (fail "none"))
  go_ret
  exact ⟨⟨_, rfl, hown4⟩, hbel4⟩
/-- sorted texts in new memory -/
def GivesZ (w : World) (V : List ByteArray) (e : Ending) (w' : World) : Prop := (∃ (g cap : Nat) (zs : List (List UInt8)), e = .returned (.slice (some ⟨g, 0, none⟩) zs.length cap) ∧ zs.Perm (V.map bl) ∧ (∀ i j, i < j → j < zs.length → Op.bytesLess zs.toArray[j]! zs.toArray[i]! = false) ∧ w'.ownsRow w.heap.size 9 1 (.slice (some ⟨g, 0, none⟩) zs.length cap) zs.length (zs.map encStr)) ∧ Below w.heap.size w w'
set_option maxRecDepth 100000 in
set_option maxHeartbeats 1000000 in
theorem sorted_any (a : Addr) (V : List ByteArray) (vc : Nat) (w : World) (hv : StrsAt w (some a) V) (hl : V.length ≤ 100000000) (h0 : 0 < V.length) :
    Calls Try.prog 40 #[.slice (some a) V.length vc, .func (.func 41) #[] #[]] w (GivesZ w V) := by
  have HV := Lib.hid hv; clear hv
  go_enter Try.func40, Try.ntmps40
  go_wp2_with fail
  refine (cloneS_any a V vc w HV.out hl).mono ?_
  rintro e w1 ⟨⟨v, rfl, o1⟩, b1⟩
  obtain ⟨g, cp, hv, _, _⟩ := o1.form h0
  subst hv
  have O1 := Lib.hid o1; clear o1
  go_wp2_with fail
  refine (sortS_any w.heap.size g cp V w1 O1.out hl).mono ?_
  rintro e w2 ⟨rfl, ⟨zs, hp, hs, o2⟩, hg⟩
  have hzl : zs.length = V.length := by rw [hp.length_eq]; simp
  have B2 : Hid (Below w.heap.size w w2) := Lib.hid (b1.grown hg b1.size (fun k hk => by injection hk with hk; subst hk; exact (O1.out.lt g rfl).1))
  have HF : Hid (∃ zs : List (List UInt8), zs.length = V.length ∧ zs.Perm (V.map bl) ∧ (∀ i j, i < j → j < zs.length → Op.bytesLess zs.toArray[j]! zs.toArray[i]! = false) ∧ w2.ownsRow w.heap.size 9 1 (.slice (some ⟨g, 0, none⟩) zs.length cp) zs.length (zs.map encStr)) := Lib.hid ⟨zs, hzl, hp, hs, o2⟩
  clear hp hs o2 hg b1 O1 hzl
  go_wp2
  go_ret
  obtain ⟨zs, hzl, hp, hs, o2⟩ := HF.out
  exact ⟨⟨g, cp, zs, by rw [hzl]; rfl, hp, hs, o2⟩, B2.out⟩
theorem sb_bl (s : ByteArray) : sb (bl s) = s := rfl
/-- what is sorted, and each once: the names in order -/
theorem known_compact {l : List ClassV} {zs : List (List UInt8)} (hp : zs.Perm ((clsT :: allN l).map bl)) (hs : ∀ i j, i < j → j < zs.length → Op.bytesLess zs.toArray[j]! zs.toArray[i]! = false) : (Lib.compact zs).map sb = knownL l := by
  obtain ⟨h1, h2⟩ := compact_ok zs.toArray (by simpa using hs) zs.length (by simp)
  refine known_of ?_ ?_
  · unfold Inc
    rw [List.pairwise_map]
    refine h1.imp fun {a b} h => ?_
    unfold strLt sb
    rw [ByteArray.toList_eq, ByteArray.toList_eq]
    exact h
  · intro y
    have hm : ∀ z, z ∈ Lib.compact zs ↔ z ∈ zs := by
      intro z
      unfold Lib.compact
      rw [h2]
      constructor
      · rintro ⟨j, hj, rfl⟩
        have : zs.toArray[j]! = zs[j] := by simp [hj]
        rw [this]; exact List.getElem_mem hj
      · intro hz
        obtain ⟨i, hi, rfl⟩ := List.getElem_of_mem hz
        exact ⟨i, hi, by simp [hi]⟩
    rw [List.mem_map]
    constructor
    · rintro ⟨z, hz, rfl⟩
      have h3 := hp.mem_iff.1 ((hm z).1 hz)
      obtain ⟨s, hs', rfl⟩ := List.mem_map.1 h3
      rw [sb_bl]; exact hs'
    · intro hy
      refine ⟨bl y, (hm _).2 (hp.mem_iff.2 (List.mem_map_of_mem hy)), sb_bl y⟩
theorem knownL_fits {l : List ClassV} (h6 : l.length ≤ 6) (hs : schemaB l = true) : FitsV (knownL l) := by
  have h0 : Inc [clsT] := by unfold Inc; simp
  obtain ⟨_, h2⟩ := putAll_ok (allN l) [clsT] h0
  unfold schemaB at hs
  simp only [Bool.and_eq_true, List.all_eq_true, decide_eq_true_eq] at hs
  have hten : ∀ c ∈ l, c.must.length ≤ 10 ∧ c.may.length ≤ 10 ∧ (∀ s ∈ c.must ++ c.may, s.size ≤ 20) := by
    intro c hc
    have := hs.2.1 c hc
    unfold classB names10 namesB at this
    simp only [Bool.and_eq_true, decide_eq_true_eq, List.all_eq_true] at this
    refine ⟨this.2.1.1, this.2.2.1.1, fun s hs' => ?_⟩
    have hn : nmL s = true := by
      rcases List.mem_append.1 hs' with h | h
      · exact this.2.1.2.1 s h
      · exact this.2.2.1.2.1 s h
    unfold nmL at hn
    simp only [Bool.and_eq_true, decide_eq_true_eq] at hn
    exact hn.1.1.2
  have hlen : ∀ m : List ClassV, (∀ c ∈ m, c.must.length ≤ 10 ∧ c.may.length ≤ 10 ∧ (∀ s ∈ c.must ++ c.may, s.size ≤ 20)) → (allN m).length ≤ m.length * 20 := by
    intro m
    induction m with
    | nil => intro _; simp [allN]
    | cons c m ih =>
      intro h
      have h1 := ih (fun x hx => h x (List.mem_cons_of_mem _ hx))
      obtain ⟨h3, h4, _⟩ := h c (List.mem_cons_self ..)
      have e : allN (c :: m) = (c.must ++ c.may) ++ allN m := by unfold allN; simp
      rw [e, List.length_append, List.length_append, List.length_cons]; omega
  have hl := putAll_len (allN l) [clsT]
  have hl2 := hlen l hten
  refine ⟨by unfold knownL; simp at hl; omega, fun s hs' => ?_⟩
  unfold knownL at hs'
  rcases (h2 s).1 hs' with h | h
  · unfold allN at h
    obtain ⟨c, hc, hsc⟩ := List.mem_flatMap.1 h
    have := (hten c hc).2.2 s hsc
    omega
  · have e : s = clsT := by simpa using h
    subst e; decide
set_option maxRecDepth 100000 in
set_option maxHeartbeats 2000000 in
theorem Known_any (ao : Option Addr) (l : List ClassV) (cap : Nat) (w : World) (hd : ClassesAt w ao l) (hf : FitsC l) :
    Calls Try.prog 31 #[.slice ao l.length cap] w (GivesV w (knownR l)) := by
  have HD := Lib.hid hd; have HF := Lib.hid hf; clear hd hf
  go_enter Try.func31, Try.ntmps31
  go_wp2_with fail
  refine (SchemaRight_any ao l cap w HD.out HF.out).mono ?_
  rintro e w1 ⟨rfl, b1⟩
  cases hr : schemaB l
  · have HE : Hid (knownR l = []) := Lib.hid (by unfold knownR; rw [hr]; rfl)
    go_wp2
    go_ret
    rw [HE.out]
    exact ⟨⟨_, rfl, own_none _ _⟩, b1⟩
  have HE : Hid (knownR l = knownL l) := Lib.hid (by unfold knownR; rw [hr]; rfl)
  have h6 : l.length ≤ 6 := by
    apply Classical.byContradiction
    intro h
    rw [schemaB_six (by omega)] at hr; cases hr
  have FK := Lib.hid (knownL_fits h6 hr)
  have HLn : Hid (∀ k, (allN (l.take k)).length ≤ 20000000) := Lib.hid (fun k => allN_len h6 HF.out k)
  clear hr
  have O0 : Hid ((w1.alloc (.cells #[.string ⟨#[99, 108, 97, 115, 115]⟩] 9)).ownsRow w.heap.size 9 1 (.slice (some ⟨w1.heap.size, 0, none⟩) 1 1) (clsT :: allN (l.take 0)).length (ss (clsT :: allN (l.take 0)))) := Lib.hid ⟨by simp [ss, allN], .inr ⟨w1.heap.size, 1, #[.string ⟨#[99, 108, 97, 115, 115]⟩], rfl, b1.size, heap_alloc_new _ _, by simp [allN], by decide, rfl, rfl⟩⟩
  have B0 := Lib.hid (more b1 (.cells #[.string ⟨#[99, 108, 97, 115, 115]⟩] 9))
  clear b1
  go_wp2
  go_loopw [3, 12] (fun v i wr => ∃ k : Nat, k ≤ l.length ∧ i = .int .i64 k ∧ wr.ownsRow w.heap.size 9 1 v (clsT :: allN (l.take k)).length (ss (clsT :: allN (l.take k))) ∧ Below w.heap.size w wr) (fun _ i _ => l.length - (intOf i).toNat)
  case atStart => exact ⟨0, Nat.zero_le _, rfl, O0.out, B0.out⟩
  case round =>
    clear O0 B0
    obtain ⟨k, hk, rfl, hown, hbel⟩ := hrel
    have HOw := Lib.hid hown; have hsz := hbel.size
    clear hown
    by_cases hlt : k < l.length
    · obtain ⟨b, off, v1, v2, v3, rfl, hb0, hc⟩ := (HD.out.below hbel).at hlt
      obtain ⟨c0, c1, c2, c3, s1, s2, s3⟩ := hc
      have HSn : Hid (clsT :: allN (l.take (k + 1)) = clsT :: allN (l.take k) ++ (l[k].must ++ l[k].may)) := Lib.hid (by rw [allN_succ l k hlt]; rfl)
      have HZ := Lib.hid (HF.out.at hlt)
      have hlp := HLn.out k
      have HLp : Hid ((clsT :: allN (l.take k)).length ≤ 20000001) := Lib.hid (by simp; omega)
      have HCv : Hid (clsT :: allN (l.take k) ++ (l[k].must ++ l[k].may) = (clsT :: allN (l.take k)) ++ (l[k].must ++ l[k].may)) := Lib.hid rfl
      have g1 : (0 : Int) ≤ (k : Int) := by omega
      have g2 : (k : Int) < (l.length : Int) := by omega
      generalize l[k] = C at *
      generalize clsT :: allN (l.take k) = pre at *
      have CP : Hid (∀ W : World, Below wr.heap.size wr W → Calls Try.prog 54 #[.agg #[.string C.nm, v1, v2, v3]] W (GivesV W (C.must ++ C.may))) := Lib.hid (fun W h => permitted_any C v1 v2 v3 W (s1.below h) (s2.below h) s3.sl HZ.out.must HZ.out.may)
      have i1 := s1.sl; have i2 := s2.sl; have i3 := s3.sl
      obtain ⟨o1, n1, k1, rfl⟩ := i1
      obtain ⟨o2, n2, k2, rfl⟩ := i2
      obtain ⟨o3, n3, k3, rfl⟩ := i3
      have hmm : (C.must ++ C.may).length ≤ 2097152 := by have := HZ.out.must.1; have := HZ.out.may.1; rw [List.length_append]; omega
      clear s1 s2 s3
      have BA := more (Below.refl wr.heap.size wr) (.cells #[.string C.nm, .slice o1 n1 k1, .slice o2 n2 k2, .slice o3 n3 k3] 42)
      generalize C.must ++ C.may = D at *
      go_wp2_with fail
      refine (CP.out _ (by first | exact BA | exact Below.refl _ _)).mono ?_
      rintro e w3 ⟨⟨v3, rfl, o3⟩, b3⟩
      have b3' := BA.trans (b3.mono BA.size)
      have B3 := Lib.hid (hbel.trans (b3'.mono hsz)); have O3 := Lib.hid (own_below HOw.out b3'); have L3 := B3.out.size
      have hfo : ∃ ao cap, v3 = .slice ao D.length cap ∧ StrsAt w3 ao D ∧ (ao = none → cap = 0) := by
        obtain ⟨ao, cap, rfl, hs⟩ := own_slv o3
        refine ⟨ao, cap, rfl, hs, fun e => ?_⟩
        rcases o3.2 with ⟨e', _⟩ | ⟨_, _, _, e', _⟩
        · injection e'
        · injection e' with e' _ _; rw [e] at e'; cases e'
      obtain ⟨vo, vc, rfl, hs3, hn3⟩ := hfo
      have S3 := Lib.hid hs3
      have hpl := HLp.out
      clear o3 b3 b3' hs3 BA
      go_wp2_with (first
        | (at_builtin; refine append_strs w.heap.size rfl _ _ rfl _ pre rfl O3.out vo D vc _ rfl rfl S3.out hn3 (by omega) L3 B3.out ?_; intro v4 w4 hown4 hbel4)
        | (fail "none"))
      go_roundw
      case rel => exact ⟨k + 1, by omega, by go_num, by rw [HSn.out]; exact hown4, hbel4⟩
      case measure => simp [intOf]; omega
    · have e : l.take k = l := List.take_of_length_le (by omega)
      have hlp := HLn.out k
      rw [e] at HOw hlp
      have HKc : Hid (∀ zs : List (List UInt8), zs.Perm ((clsT :: allN l).map bl) → (∀ i j, i < j → j < zs.length → Op.bytesLess zs.toArray[j]! zs.toArray[i]! = false) → (Lib.compact zs).map sb = knownL l) := Lib.hid (fun zs h1 h2 => known_compact h1 h2)
      have hp0 : 0 < (clsT :: allN l).length := by simp
      have hp1 : (clsT :: allN l).length ≤ 100000000 := by simp; omega
      clear e
      generalize knownL l = K at *
      generalize clsT :: allN l = V at *
      obtain ⟨g, cp, rfl, _, _⟩ := HOw.out.form hp0
      have HSt := Lib.hid (own_strs HOw.out).1
      go_wp2_with fail
      refine (sorted_any ⟨g, 0, none⟩ V cp wr HSt.out hp1 hp0).mono ?_
      rintro e w3 ⟨⟨g3, cp3, zs, rfl, hp, hs, o3⟩, b3⟩
      have O3 := Lib.hid o3; have B3 := Lib.hid (hbel.trans (b3.mono hsz)); have HK := Lib.hid (HKc.out zs hp hs)
      have hg3 : wr.heap.size ≤ g3 := (o3.lt g3 rfl).1
      clear o3 b3 hp hs HKc
      go_wp2_with fail
      refine (compactS_any wr.heap.size g3 cp3 zs w3 O3.out).mono ?_
      rw [HK.out]
      rintro e w4 ⟨rfl, s4, g4⟩
      have S4 := Lib.hid s4; have B4 := Lib.hid (B3.out.grown g4 B3.out.size (fun j hj => by injection hj with hj; omega))
      clear s4 g4 HK O3
      go_wp2_with fail
      refine (copyTexts_any (some ⟨g3, 0, none⟩) K cp3 w4 S4.out FK.out).mono ?_
      rintro e w5 ⟨⟨v5, rfl, o5⟩, b5⟩
      have O5 := Lib.hid (own_mono o5 B4.out.size); have B5 := Lib.hid (B4.out.trans (b5.mono B4.out.size))
      clear o5 b5
      go_wp2
      go_ret
      rw [HE.out]
      exact ⟨⟨_, rfl, O5.out⟩, B5.out⟩
end Go.Proofs.Ytmimobniihekiaa
/- Known: what the specification returns for any schema. -/
namespace Go.Proofs.Ytmimobniihekiaa
open Go.RowKit
attribute [local go_sem ↓] Go.wp_at_zero Go.wp_at_succ
set_option maxRecDepth 100000 in
set_option maxHeartbeats 2000000 in
theorem SpecKnown_any (ao : Option Addr) (l : List ClassV) (cap : Nat) (w : World) (hd : ClassesAt w ao l) (hf : FitsC l) :
    Calls Try.prog 30 #[.slice ao l.length cap] w (GivesV w (knownR l)) := by
  have hl := hf.1
  have HD := Lib.hid hd; have HF := Lib.hid hf; clear hd hf
  have HZ : Hid (∀ V : World, Below w.heap.size w V → knownR l = [] → GivesV w (knownR l) (.returned (.slice (some ⟨V.heap.size, 0, none⟩) 0 0)) (V.alloc (.cells #[] 9))) := Lib.hid (fun V h e => by rw [e]; exact ⟨⟨_, rfl, own_zeroS V rfl h.size⟩, more h _⟩)
  by_cases h4 : 400 < l.length
  · have g4 : 400 < (l.length : Int) := by omega
    have HE : Hid (knownR l = []) := Lib.hid (by unfold knownR; rw [schemaB_six (by omega)]; rfl)
    go_enter Try.func30, Try.ntmps30
    go_wp2
    go_ret
    exact HZ.out w (Below.refl _ _) HE.out
  · have g4 : ¬ 400 < (l.length : Int) := by omega
    go_enter Try.func30, Try.ntmps30
    go_wp2_with fail
    refine (SpecSchemaRight_any ao l cap w HD.out HF.out).mono ?_
    rintro e w1 ⟨rfl, b1⟩
    cases hr : schemaB l
    · have HE : Hid (knownR l = []) := Lib.hid (by unfold knownR; rw [hr]; rfl)
      go_wp2
      go_ret
      exact HZ.out w1 b1 HE.out
    · have HE : Hid (knownR l = knownL l) := Lib.hid (by unfold knownR; rw [hr]; rfl)
      have h6 : l.length ≤ 6 := by
        apply Classical.byContradiction
        intro h
        rw [schemaB_six (by omega)] at hr; cases hr
      clear hr
      go_wp2_with fail
      refine (l05Known_any ao l cap w1 (HD.out.below b1) HF.out h6).mono ?_
      rintro e w2 ⟨⟨v, rfl, o⟩, b2⟩
      have O2 := Lib.hid (own_mono o b1.size); have B2 := Lib.hid (b1.trans (b2.mono b1.size))
      clear o b2
      go_wp2
      go_ret
      rw [HE.out]
      exact ⟨⟨_, rfl, O2.out⟩, B2.out⟩
end Go.Proofs.Ytmimobniihekiaa
/- The law FnExactKnown: its walk. -/
namespace Go.Proofs.Ytmimobniihekiaa
open Go.RowKit
attribute [local go_sem ↓] Go.wp_at_zero Go.wp_at_succ

theorem knownR_fits (l : List ClassV) : FitsV (knownR l) := by
  unfold knownR
  split
  · rename_i h
    refine knownL_fits ?_ h
    apply Classical.byContradiction
    intro h6
    rw [schemaB_six (by omega)] at h; cases h
  · exact FitsV.nil
theorem OwnV.of {w w' : World} {V : List ByteArray} {v : Value} (h : w'.ownsRow w.heap.size 9 1 v V.length (ss V)) : OwnV w' w.heap.size w'.heap.size v V := ⟨h, fun g hg => (h.lt g hg).2⟩
set_option maxRecDepth 100000 in
set_option maxHeartbeats 2000000 in
theorem Known_walk (ao : Option Addr) (d : List ClassV) (ca : Nat) (w : World) (hd : ClassesAt w ao d) (hf : LongC d) :
    Calls Try.prog 7 #[.slice ao d.length ca] w fun e w' => e = .returned (.bool true) ∧ Below w.heap.size w w' := by
  have HD := Lib.hid hd; have LD := Lib.hid hf
  have hl := hf.1
  clear hd hf
  go_enter Try.func7, Try.ntmps7
  go_wp2_with fail
  refine (szClassS_any ao d ca 1048576 w HD.out LD.out (by omega) (by omega)).mono ?_
  rintro e w1 ⟨rfl, b1⟩
  by_cases hfit : ((d.length + sizeCs d : Nat) : Int) ≤ 1048576
  rotate_left
  · rw [leftR_neg hfit]
    clear hfit
    go_wp2
    go_ret
    exact ⟨rfl, b1⟩
  rw [leftR_pos hfit]
  have FD := Lib.hid (fitsC_of (l := d) (by omega))
  have HSz : Hid (d.length + sizeCs d ≤ 1048576) := Lib.hid (by omega)
  have h0 : ¬ (1048576 : Int) - ((d.length + sizeCs d : Nat) : Int) < 0 := by omega
  generalize ((d.length + sizeCs d : Nat) : Int) = t at *
  go_wp2_with fail
  refine (toClassS_any ao d ca w1 (HD.out.below b1) FD.out).mono ?_
  rintro e w2 ⟨v2, rfl, g2, rfl, _, r2, b2⟩
  have B2 := Lib.hid (b1.trans (b2.mono b1.size)); have R2 := Lib.hid r2
  clear b2 r2 b1
  go_wp2_with fail
  refine (SpecKnown_any (some ⟨g2, 0, none⟩) d d.length w2 R2.out.classes FD.out).mono ?_
  have FK := Lib.hid (knownR_fits d)
  have HKn : Hid (∀ (xo : Option Addr) (cx : Nat) (Y : World), ClassesAt Y xo d → Calls Try.prog 31 #[.slice xo d.length cx] Y (GivesV Y (knownR d))) := Lib.hid (fun xo cx Y h => Known_any xo d cx Y h FD.out)
  have HTo : Hid (∀ Y : World, Below w.heap.size w Y → Calls Try.prog 21 #[.slice ao d.length ca] Y fun e w' => ∃ v, e = .returned v ∧ CopyDs Y d v w') := Lib.hid (fun Y h => toClassS_row ao d ca Y (HD.out.below h) FD.out)
  have hlv := FK.out.1
  generalize knownR d = V at *
  rintro e w3 ⟨⟨u3, rfl, o3⟩, b3⟩
  have V3 := Lib.hid (OwnV.of o3); have B3 := Lib.hid (B2.out.trans (b3.mono B2.out.size)); have L23 := b3.size
  clear b3 o3 R2
  obtain ⟨q0, q1, q2, rfl⟩ := own_slice3 V3.out.1
  go_wp2_with fail
  refine (HTo.out w3 B3.out).mono ?_
  rintro e w4 ⟨v4, rfl, gx, rfl, hgx, rx, b4⟩
  have B4 := Lib.hid (B3.out.trans (b4.mono B3.out.size)); have V4 := Lib.hid (V3.out.below b4); have X4 := Lib.hid rx; have S4 := Lib.hid (rx.sh hgx); have L34 := b4.size; have hx4 := rx.lt
  clear b4 rx V3 B3
  go_wp2_with fail
  refine (HKn.out (some ⟨gx, 0, none⟩) d.length w4 X4.out.classes).mono ?_
  rintro e w5 ⟨⟨v5, rfl, o5⟩, b5⟩
  obtain ⟨r0, r1, r2, rfl⟩ := own_slice3 o5
  have B5 := Lib.hid (B4.out.trans (b5.mono B4.out.size)); have V5 := Lib.hid (V4.out.below b5); have X5 := Lib.hid (X4.out.below b5); have S5 := Lib.hid (S4.out.below b5); have G5 := Lib.hid (OwnV.of o5); have L45 := b5.size
  clear b5 o5 B4 V4 X4 S4
  have hwl : w.heap.size ≤ w3.heap.size := Nat.le_trans B2.out.size L23
  have HEq : Hid (∀ (Y : World) (a : Value), SlV Y a V → OwnV Y w2.heap.size w3.heap.size (.slice q0 q1 q2) V → Calls Try.prog 15 #[a, .slice q0 q1 q2] Y fun e w' => e = .returned (.bool true) ∧ Below Y.heap.size Y w') := Lib.hid (fun Y a h1 h2 => by
    obtain ⟨vo, vc, rfl, hs⟩ := h1
    obtain ⟨uo, uc, e, hu⟩ := h2.slv
    injection e with e1 e2 e3
    subst e1 e2 e3
    exact eqStringS_same vo q0 V vc q2 Y hs.1 hu.1 hlv)
  go_wp2_with fail
  refine (HEq.out w5 _ G5.out.slv V5.out).mono ?_
  rintro e w6 ⟨rfl, b6⟩
  have B6 := Lib.hid (B5.out.trans (b6.mono B5.out.size)); have V6 := Lib.hid (V5.out.below b6); have X6 := Lib.hid (X5.out.below b6); have S6 := Lib.hid (S5.out.below b6); have G6 := Lib.hid (G5.out.below b6)
  clear b6 B5 V5 X5 S5 G5
  go_wp2_with fail
  refine (HTo.out w6 B6.out).mono ?_
  rintro e w7 ⟨v7, rfl, g7, rfl, _, r7, b7⟩
  have B7 := Lib.hid (B6.out.trans (b7.mono B6.out.size)); have V7 := Lib.hid (V6.out.below b7); have X7 := Lib.hid (X6.out.below b7); have S7 := Lib.hid (S6.out.below b7); have G7 := Lib.hid (G6.out.below b7); have R7 := Lib.hid r7
  clear b7 r7 B6 V6 X6 S6 G6
  go_wp2_with fail
  refine (eqClassS_same (some ⟨gx, 0, none⟩) (some ⟨g7, 0, none⟩) d d.length d.length w7 X7.out.classes R7.out.classes FD.out).mono ?_
  rintro e w8 ⟨rfl, b8⟩
  have B8 := Lib.hid (B7.out.trans (b8.mono B7.out.size)); have V8 := Lib.hid (V7.out.below b8); have S8 := Lib.hid (S7.out.below b8); have G8 := Lib.hid (G7.out.below b8)
  clear b8 B7 V7 X7 S7 G7 R7
  go_wp2_with fail
  refine (markClassS_any gx w3.heap.size w4.heap.size d w8 S8.out hgx hx4 HSz.out).mono ?_
  rintro e w9 ⟨⟨n9, hn9, rfl⟩, m9⟩
  have B9 := Lib.hid (m9.below B8.out hwl); have V9 := Lib.hid (V8.out.mid m9 (.inl (Nat.le_refl _))); have G9 := Lib.hid (G8.out.mid m9 (.inr (Nat.le_refl _)))
  clear m9 B8 V8 S8 G8
  have hp9 : ¬ (n9 : Int) < 0 := by omega
  go_wp2_with fail
  refine (HEq.out w9 _ G9.out.slv V9.out).mono ?_
  rintro e w10 ⟨rfl, b10⟩
  have B10 := Lib.hid (B9.out.trans (b10.mono B9.out.size)); have V10 := Lib.hid (V9.out.below b10); have G10 := Lib.hid (G9.out.below b10)
  clear b10 B9 V9 G9
  go_wp2_with fail
  refine (markStringS_any _ V w4.heap.size 1 w10 G10.out.1 hlv (by omega) (by omega)).mono ?_
  rintro e w11 ⟨rfl, o11, g11⟩
  have m11 := mid_of_mark G10.out g11
  have B11 := Lib.hid (m11.below B10.out (by omega)); have V11 := Lib.hid (V10.out.mid m11 (.inl L34))
  have G11 : Hid (OwnV w11 w4.heap.size w5.heap.size (.slice r0 r1 r2) (marksS 1 V.length)) := Lib.hid ⟨o11, G10.out.2⟩
  clear m11 o11 g11 B10 V10 G10
  have H37 : Hid (∀ Y, OwnV Y w4.heap.size w5.heap.size (.slice r0 r1 r2) (marksS 1 V.length) → Calls Try.prog 18 #[.slice r0 r1 r2, .int .i64 ((1 : Nat) : Int)] Y fun e w' => e = .returned (.int .i64 ((1 + V.length : Nat) : Int)) ∧ Below Y.heap.size Y w') :=
    Lib.hid (fun Y h => by
      obtain ⟨vo, vc, e, hs⟩ := h.slv
      injection e with e1 e2 e3
      subst e1 e3
      rw [marksS_len] at e2
      subst e2
      exact heldStringS_any r0 V.length r2 1 Y hs.1 hlv (by omega) (by omega))
  have hq1 : ¬ ((1 + V.length : Nat) : Int) < 0 := by omega
  generalize ((1 + V.length : Nat) : Int) = Q at *
  have hq2 : (Q != Q) = false := by simp
  go_wp2_with fail
  refine (H37.out w11 G11.out).mono ?_
  rintro e w12 ⟨rfl, b12⟩
  have B12 := Lib.hid (B11.out.trans (b12.mono B11.out.size)); have V12 := Lib.hid (V11.out.below b12); have G12 := Lib.hid (G11.out.below b12)
  clear b12 B11 V11 G11
  go_wp2_with fail
  refine (HTo.out w12 B12.out).mono ?_
  rintro e w13 ⟨v13, rfl, g13, rfl, _, r13, b13⟩
  have B13 := Lib.hid (B12.out.trans (b13.mono B12.out.size)); have V13 := Lib.hid (V12.out.below b13); have G13 := Lib.hid (G12.out.below b13); have R13 := Lib.hid r13
  clear b13 r13 B12 V12 G12
  go_wp2_with fail
  refine (HKn.out (some ⟨g13, 0, none⟩) d.length w13 R13.out.classes).mono ?_
  rintro e w14 ⟨⟨v14, rfl, o14⟩, b14⟩
  obtain ⟨s0, s1, s2, rfl⟩ := own_slice3 o14
  have B14 := Lib.hid (B13.out.trans (b14.mono B13.out.size)); have V14 := Lib.hid (V13.out.below b14); have G14 := Lib.hid (G13.out.below b14); have O14 := Lib.hid (OwnV.of o14)
  clear b14 o14 B13 V13 G13 R13
  go_wp2_with fail
  refine (HEq.out w14 _ O14.out.slv V14.out).mono ?_
  rintro e w15 ⟨rfl, b15⟩
  have B15 := Lib.hid (B14.out.trans (b15.mono B14.out.size)); have G15 := Lib.hid (G14.out.below b15)
  clear b15 B14 V14 G14 O14
  go_wp2_with fail
  refine (H37.out w15 G15.out).mono ?_
  rintro e w16 ⟨rfl, b16⟩
  have B16 := Lib.hid (B15.out.trans (b16.mono B15.out.size))
  clear b16
  go_wp2
  go_ret
  exact ⟨rfl, B16.out⟩
end Go.Proofs.Ytmimobniihekiaa
