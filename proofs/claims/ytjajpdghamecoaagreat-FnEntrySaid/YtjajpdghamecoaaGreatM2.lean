/- Merged texts: Key2, Key3, Under, Join, JoinR, Src, Src3, Draw1, Draw2, RowIs, ScanMath, Scan, Scan2, Scan3. -/
import Derived.Test.YtjajpdghamecoaaGreatM1
import Derived.Lib.BufferWrite
import Derived.Deep.OwnRows
import Derived.Deep.QuietTactic
import Derived.BigQuiet
import Derived.BigRegion
import Derived.Deep.RegionWith
import Derived.IntWalk
import Derived.OpenShut
/- Sameness and keys of names: what the texts return. -/
namespace Go.Proofs.YtjajpdghamecoaaGreat
open Go.RowKit
attribute [local go_sem ↓] Go.wp_at_zero Go.wp_at_succ

theorem normRdn_from (w0 : World) (a v : ByteArray) (w : World) (hv : v.size ≤ maxLen) (hB : Below w0.heap.size w0 w) :
    Calls Tryz.prog 133 #[.agg #[.string a, .string v]] w fun e w' => e = .returned (.agg #[.string a, .string (normS v)]) ∧ Below w0.heap.size w0 w' :=
  (normRdn_any a v w hv).mono fun _ _ ⟨he, hb⟩ => ⟨he, hB.trans (hb.mono hB.size)⟩
theorem map_take_succ {α β : Type} (f : α → β) (l : List α) (k : Nat) (h : k < l.length) : (l.take (k + 1)).map f = (l.take k).map f ++ [f l[k]] := by
  rw [List.take_succ_eq_append_getElem h, List.map_append]; rfl
theorem same_len {a b : RdnL} (h : a.length ≠ b.length) : sameB a b = false := by
  unfold sameB
  rw [decide_eq_false_iff_not]
  intro e
  have := congrArg List.length e
  simp at this; exact h this
theorem same_bad {a b : RdnL} {k : Nat} (ha : k < a.length) (hb : k < b.length) (h : nrm a[k] ≠ nrm b[k]) : sameB a b = false := by
  unfold sameB
  rw [decide_eq_false_iff_not]
  intro e
  apply h
  have : (a.map nrm)[k]? = (b.map nrm)[k]? := by rw [e]
  rw [List.getElem?_map, List.getElem?_map, List.getElem?_eq_getElem ha, List.getElem?_eq_getElem hb] at this
  simpa using this

set_option maxRecDepth 100000 in
set_option maxHeartbeats 1000000 in
theorem sameRdns_any (ao bo : Option Addr) (a b : RdnL) (ca cb : Nat) (w : World) (hda : DnAt w ao a) (hdb : DnAt w bo b) (hfa : Fits a) (hfb : Fits b) :
    Calls Tryz.prog 112 #[.slice ao a.length ca, .slice bo b.length cb] w fun e w' => e = .returned (.bool (sameB a b)) ∧ Below w.heap.size w w' := by
  have hla := hfa.1
  have hlb := hfb.1
  have HA := Lib.hid hda; have HB := Lib.hid hdb; have FA := Lib.hid hfa; have FB := Lib.hid hfb; clear hda hdb hfa hfb
  by_cases hl : a.length = b.length
  · have Hl := Lib.hid hl
    have hne : ((a.length : Int) != (b.length : Int)) = false := by rw [hl]; simp
    go_enter Tryz.func112, Tryz.ntmps112
    clear hl
    go_wp2
    go_loopw [13] (fun i wr => ∃ k : Nat, k ≤ a.length ∧ i = .int .i64 k ∧ (a.take k).map nrm = (b.take k).map nrm ∧ Below w.heap.size w wr) (fun i _ => a.length - (intOf i).toNat)
    case atStart => exact ⟨0, Nat.zero_le _, rfl, rfl, Below.refl _ _⟩
    case round =>
      obtain ⟨k, hk, rfl, hs, hbel⟩ := hrel
      have HS := Lib.hid hs; clear hs
      have hsz := hbel.size
      by_cases hlt : k < a.length
      · have hltb : k < b.length := by have := Hl.out; omega
        obtain ⟨p, off, rfl, hp0, hd1, hd2⟩ := HA.out.at hlt
        obtain ⟨q, off', rfl, hq0, he1, he2⟩ := HB.out.at hltb
        have hz1 := (FA.out.at hlt).2
        have hz2 := (FB.out.at hltb).2
        have hnq := neqNorm a[k].1 a[k].2 b[k].1 b[k].2
        have HBd := Lib.hid (fun h => same_bad (a := a) (b := b) hlt hltb h)
        have HT : Hid (nrm a[k] = nrm b[k] → (a.take (k + 1)).map nrm = (b.take (k + 1)).map nrm) := Lib.hid (fun h => by rw [map_take_succ nrm a k hlt, map_take_succ nrm b k hltb, HS.out, h])
        have HD : Hid (nrm (a[k].1, a[k].2) = nrm a[k] ∧ nrm (b[k].1, b[k].2) = nrm b[k]) := Lib.hid ⟨rfl, rfl⟩
        generalize a[k].1 = A at *
        generalize a[k].2 = V at *
        generalize b[k].1 = A' at *
        generalize b[k].2 = V' at *
        have SK : Hid (∀ W : World, Below w.heap.size w W → (Below w.heap.size w W ∧ W.cell? ⟨p, off + k * 2, none⟩ = some (.string A) ∧ W.cell? ⟨p, off + k * 2 + 1, none⟩ = some (.string V) ∧ W.cell? ⟨q, off' + k * 2, none⟩ = some (.string A') ∧ W.cell? ⟨q, off' + k * 2 + 1, none⟩ = some (.string V'))) :=
          Lib.hid (fun W h => ⟨h, (h.cell (p := ⟨p, _, none⟩) hp0).trans hd1, (h.cell (p := ⟨p, _, none⟩) hp0).trans hd2, (h.cell (p := ⟨q, _, none⟩) hq0).trans he1, (h.cell (p := ⟨q, _, none⟩) hq0).trans he2⟩)
        have hbd := hbel.drew
        clear hd1 hd2 he1 he2
        have g1 : (0 : Int) ≤ (k : Int) := by omega
        have g2 : (k : Int) < (a.length : Int) := by omega
        have g3 : (k : Int) < (b.length : Int) := by omega
        cases hdec : decide (nrm (A, V) = nrm (A', V'))
        · have HX := Lib.hid (HBd.out (by rw [← HD.out.1, ← HD.out.2]; exact of_decide_eq_false hdec))
          rw [hdec] at hnq
          go_wp2_with fail
          go_region_held3 (fun W => Below w.heap.size w W ∧ W.cell? ⟨p, off + k * 2, none⟩ = some (.string A) ∧ W.cell? ⟨p, off + k * 2 + 1, none⟩ = some (.string V) ∧ W.cell? ⟨q, off' + k * 2, none⟩ = some (.string A') ∧ W.cell? ⟨q, off' + k * 2 + 1, none⟩ = some (.string V'))
            (exact SK.out _ (by assumption))
            (first | (go_at_call 133; refine (normRdn_from w _ _ _ (by assumption) (by assumption)).mono ?_; rintro e w2 ⟨rfl, hb2⟩))
          all_goals
            go_wp2
            go_ret
            exact ⟨ret_bool HX.out.symm, hb2⟩
        · have HX := Lib.hid (HT.out (by rw [← HD.out.1, ← HD.out.2]; exact of_decide_eq_true hdec))
          rw [hdec] at hnq
          go_wp2_with fail
          go_region_held3 (fun W => Below w.heap.size w W ∧ W.cell? ⟨p, off + k * 2, none⟩ = some (.string A) ∧ W.cell? ⟨p, off + k * 2 + 1, none⟩ = some (.string V) ∧ W.cell? ⟨q, off' + k * 2, none⟩ = some (.string A') ∧ W.cell? ⟨q, off' + k * 2 + 1, none⟩ = some (.string V'))
            (exact SK.out _ (by assumption))
            (first | (go_at_call 133; refine (normRdn_from w _ _ _ (by assumption) (by assumption)).mono ?_; rintro e w2 ⟨rfl, hb2⟩))
          all_goals
            go_wp2
            go_roundw
            case rel => exact ⟨k + 1, by omega, by go_num, HX.out, hb2⟩
            case measure => simp [intOf]; omega
      · have HE : Hid (sameB a b = true) := Lib.hid (by
          have h := HS.out
          have := Hl.out
          rw [List.take_of_length_le (by omega), List.take_of_length_le (by omega)] at h
          unfold sameB; exact decide_eq_true h)
        go_wp2
        go_ret
        exact ⟨ret_bool HE.out.symm, hbel⟩
  · have hne : ((a.length : Int) != (b.length : Int)) = true := by rw [bne_iff_ne]; omega
    have HE := Lib.hid (same_len hl)
    clear hl
    go_enter Tryz.func112, Tryz.ntmps112
    go_wp2
    go_ret
    exact ⟨ret_bool HE.out.symm, Below.refl _ _⟩

def dnSameB (a b : RdnL) : Bool := dnB a && dnB b && sameB a b
set_option maxHeartbeats 400000 in
theorem DnSame_any (ao bo : Option Addr) (a b : RdnL) (ca cb : Nat) (w : World) (hda : DnAt w ao a) (hdb : DnAt w bo b) (hfa : Fits a) (hfb : Fits b) :
    Calls Tryz.prog 70 #[.slice ao a.length ca, .slice bo b.length cb] w fun e w' => e = .returned (.bool (dnSameB a b)) ∧ Below w.heap.size w w' := by
  have HV : Hid (dnSameB a b = (dnB a && dnB b && sameB a b)) := Lib.hid rfl
  cases h1 : dnB a
  · go_enter Tryz.func70, Tryz.ntmps70
    go_wp2_with (first | (go_at_call 60; refine (DnRight_any _ _ _ _ hda hfa).mono ?_; rintro e w1 ⟨rfl, hb1⟩; rw [h1]))
    go_ret
    exact ⟨ret_bool (by rw [HV.out, h1]; rfl), hb1⟩
  · cases h2 : dnB b
    · go_enter Tryz.func70, Tryz.ntmps70
      go_wp2_with fail
      refine (DnRight_any _ _ _ _ hda hfa).mono ?_
      rintro e w1 ⟨rfl, hb1⟩
      rw [h1]
      go_wp2_with fail
      refine (DnRight_any _ _ _ _ (hdb.below hb1) hfb).mono ?_
      rintro e w2 ⟨rfl, hb2⟩
      rw [h2]
      go_wp2
      go_ret
      exact ⟨ret_bool (by rw [HV.out, h1, h2]; rfl), hb1.trans (hb2.mono hb1.size)⟩
    · go_enter Tryz.func70, Tryz.ntmps70
      go_wp2_with fail
      refine (DnRight_any _ _ _ _ hda hfa).mono ?_
      rintro e w1 ⟨rfl, hb1⟩
      rw [h1]
      go_wp2_with fail
      refine (DnRight_any _ _ _ _ (hdb.below hb1) hfb).mono ?_
      rintro e w2 ⟨rfl, hb2⟩
      rw [h2]
      have hb12 := hb1.trans (hb2.mono hb1.size)
      go_wp2_with fail
      refine (sameRdns_any _ _ _ _ _ _ _ (hda.below hb12) (hdb.below hb12) hfa hfb).mono ?_
      rintro e w3 ⟨rfl, hb3⟩
      go_wp2
      go_ret
      exact ⟨ret_bool (by rw [HV.out, h1, h2]; rfl), hb12.trans (hb3.mono hb12.size)⟩
end Go.Proofs.YtjajpdghamecoaaGreat
/- Keys of names, and what is under what: what the texts return. -/
namespace Go.Proofs.YtjajpdghamecoaaGreat
open Go.RowKit
attribute [local go_sem ↓] Go.wp_at_zero Go.wp_at_succ

theorem SpecNorm_from (w0 : World) (v : ByteArray) (w : World) (hv : v.size ≤ maxLen) (hB : Below w0.heap.size w0 w) :
    Calls Tryz.prog 99 #[.string v] w fun e w' => e = .returned (.string (normS v)) ∧ Below w0.heap.size w0 w' :=
  (SpecNorm_any v w hv).mono fun _ _ ⟨he, hb⟩ => ⟨he, hB.trans (hb.mono hB.size)⟩
theorem keyS_drop (d : RdnL) (k : Nat) (h : k < d.length) : keyS (d.drop k) = keyS (d.drop (k + 1)) ++ ⟨#[1]⟩ ++ d[k].1 ++ ⟨#[61]⟩ ++ normS d[k].2 := by
  unfold keyS
  rw [keyL_drop d k h]
  apply ByteArray.ext
  simp [rkL, normS]
theorem keyS_take (d : RdnL) (k : Nat) (h : k < d.length) : keyS (d.take (k + 1)) = ⟨#[1]⟩ ++ d[k].1 ++ ⟨#[61]⟩ ++ normS d[k].2 ++ keyS (d.take k) := by
  unfold keyS
  rw [keyL_take d k h]
  apply ByteArray.ext
  simp [rkL, normS]

set_option maxRecDepth 100000 in
set_option maxHeartbeats 1000000 in
theorem l02Key_any (ao : Option Addr) (d : RdnL) (cap : Nat) (w : World) (hd : DnAt w ao d) (hf : Fits d) (h6 : d.length ≤ 6) :
    Calls Tryz.prog 114 #[.slice ao d.length cap] w fun e w' => e = .returned (.string (keyS d)) ∧ Below w.heap.size w w' := by
  have HD := Lib.hid hd; have HF := Lib.hid hf; clear hd hf
  go_enter Tryz.func114, Tryz.ntmps114
  go_wp2
  go_loopw [3, 4] (fun t i wr => ∃ k : Nat, k ≤ d.length ∧ i = .int .i64 ((k : Int) - 1) ∧ t = .string (keyS (d.drop k)) ∧ Below w.heap.size w wr) (fun _ i _ => (intOf i + 1).toNat)
  case atStart => exact ⟨d.length, Nat.le_refl _, rfl, by rw [List.drop_length]; rfl, Below.refl _ _⟩
  case round =>
    obtain ⟨k1, hk, rfl, rfl, hbel⟩ := hrel
    have hsz := hbel.size
    have hts := keyS_small (d.drop k1) (HF.out.drop k1) (by rw [List.length_drop]; omega)
    by_cases h0 : k1 = 0
    · subst h0
      rw [show ((0 : Nat) : Int) - 1 = -1 by rfl, List.drop_zero]
      go_wp2
      go_ret
      exact ⟨rfl, hbel⟩
    · obtain ⟨k, rfl⟩ : ∃ k, k1 = k + 1 := ⟨k1 - 1, by omega⟩
      clear h0
      have hlt : k < d.length := by omega
      rw [show ((k + 1 : Nat) : Int) - 1 = (k : Int) by omega]
      obtain ⟨b, off, rfl, hb0, hd1, hd2⟩ := HD.out.at hlt
      have hz := HF.out.small hlt
      have hzM := (HF.out.at hlt).2
      have HN := Lib.hid (keyS_drop d k hlt)
      have hns := normS_size d[k].2
      have g1 : (0 : Int) ≤ (k : Int) := by omega
      have g2 : (k : Int) < (d.length : Int) := by omega
      generalize keyS (d.drop (k + 1)) = T at *
      generalize d[k].1 = A at *
      generalize d[k].2 = V at *
      have SK : Hid (∀ W : World, Below w.heap.size w W → (Below w.heap.size w W ∧ W.cell? ⟨b, off + k * 2, none⟩ = some (.string A) ∧ W.cell? ⟨b, off + k * 2 + 1, none⟩ = some (.string V))) :=
        Lib.hid (fun W h => ⟨h, (h.cell (p := ⟨b, _, none⟩) hb0).trans hd1, (h.cell (p := ⟨b, _, none⟩) hb0).trans hd2⟩)
      have hbd := hbel.drew
      clear hd1 hd2
      have ha := cat T ⟨#[1]⟩ (by rw [sz1]; omega)
      have ha0 := cat (T ++ ⟨#[1]⟩) A (by rw [ByteArray.size_append, sz1]; omega)
      have ha1 := cat (T ++ ⟨#[1]⟩ ++ A) ⟨#[61]⟩ (by rw [ByteArray.size_append, ByteArray.size_append, sz1, sz1]; omega)
      have ha2 := cat (T ++ ⟨#[1]⟩ ++ A ++ ⟨#[61]⟩) (normS V) (by rw [ByteArray.size_append, ByteArray.size_append, ByteArray.size_append, sz1, sz1]; omega)
      go_wp2_with fail
      go_region_held3 (fun W => Below w.heap.size w W ∧ W.cell? ⟨b, off + k * 2, none⟩ = some (.string A) ∧ W.cell? ⟨b, off + k * 2 + 1, none⟩ = some (.string V))
        (exact SK.out _ (by assumption))
        (first | (go_at_call 99; refine (SpecNorm_from w _ _ (by assumption) (by assumption)).mono ?_; rintro e w2 ⟨rfl, hb2⟩))
      all_goals
        go_wp2
        go_roundw
        case rel => exact ⟨k, by omega, by go_num, by rw [HN.out], hb2⟩
        case measure => simp [intOf]
def dnKeyS (d : RdnL) : ByteArray := if dnB d = true then keyS d else ByteArray.empty
theorem dnKey_yes {d : RdnL} (h : dnB d = true) : dnKeyS d = keyS d := by unfold dnKeyS; rw [if_pos h]
theorem dnKey_no {d : RdnL} (h : dnB d = false) : dnKeyS d = ByteArray.empty := by unfold dnKeyS; rw [h]; rfl

end Go.Proofs.YtjajpdghamecoaaGreat
/- What is the same, and what is under what: what the texts return. -/
namespace Go.Proofs.YtjajpdghamecoaaGreat
open Go.RowKit

theorem dnB_all_of {d : RdnL} (h : dnB d = true) : d.all rdnB = true := by unfold dnB at h; simp only [Bool.and_eq_true] at h; exact h.2
theorem same_no {a b : RdnL} (h : dnB a = false ∨ dnB b = false) : dnSameB a b = false := by
  unfold dnSameB; rcases h with h | h <;> rw [h] <;> simp
theorem same_yes {a b : RdnL} (h1 : dnB a = true) (h2 : dnB b = true) : dnSameB a b = ((keyS a).toList == (keyS b).toList) := by
  unfold dnSameB; rw [h1, h2, key_same (dnB_all_of h1) (dnB_all_of h2)]; simp
theorem Tryz.elem23 : Tryz.prog.elem 23 = 97 := by kernel_rfl
theorem Tryz.size97 (w : World) : (sizeOf 97).run Tryz.prog w = .ok 2 w := by kernel_rfl
/-- dn[k:] -/
theorem cut27 (w : World) (ao : Option Addr) (d : RdnL) (k cap : Nat) (hk : k ≤ d.length) (hc : d.length ≤ cap) (hd : DnAt w ao d) :
    ∃ ao', (∀ W : World, (Instr.slice 23 (.slice ao d.length cap) (some (.int .i64 (k : Int))) none none).run Tryz.prog W = .ok (.slice ao' (d.length - k) (cap - k)) W) ∧ DnAt w ao' (d.drop k) := by
  refine ⟨if cap = k then ao else ao.map (·.add (k * 2)), fun W => ?_, ?_⟩
  · rw [run_slice_l W 23 ao d.length cap (by rw [Tryz.elem23]; exact Tryz.underlying23) .i64 (k : Int) (by omega) (by omega), Tryz.elem23, Tryz.size97]
    simp [Result.andThen, sliced]
  · by_cases h0 : d.length = k
    · exact .inl (List.drop_eq_nil_of_le (by omega))
    · rw [if_neg (by omega)]
      obtain ⟨b, off, rfl, hb, _⟩ := hd.at (k := 0) (by omega)
      refine .inr ⟨b, off + k * 2, ?_, hb, fun i hi => ?_⟩
      · simp [Addr.add]
      · rw [List.length_drop] at hi
        rw [List.getElem_drop]
        obtain ⟨b', off', e, _, c1, c2⟩ := hd.at (k := k + i) (by omega)
        cases e
        rw [show off + k * 2 + i * 2 = off + (k + i) * 2 by omega]
        exact ⟨c1, c2⟩

def underB (d b : RdnL) : Bool := dnB d && dnB b && decide (b.length ≤ d.length) && sameB (d.drop (d.length - b.length)) b
theorem under_no {d b : RdnL} (h : dnB d = false ∨ dnB b = false ∨ d.length < b.length) : underB d b = false := by
  unfold underB; rcases h with h | h | h
  · rw [h]; simp
  · rw [h]; simp
  · have : decide (b.length ≤ d.length) = false := decide_eq_false (by omega)
    rw [this]; simp
theorem under_yes {d b : RdnL} (h1 : dnB d = true) (h2 : dnB b = true) (h3 : b.length ≤ d.length) : underB d b = sameB (d.drop (d.length - b.length)) b := by
  unfold underB; rw [h1, h2]; simp [h3]
theorem dnB_drop {d : RdnL} (h : dnB d = true) (k : Nat) : dnB (d.drop k) = true := by
  have h1 := dnB_six h
  have h2 := dnB_all_of h
  unfold dnB
  rw [Bool.and_eq_true]
  refine ⟨decide_eq_true (by rw [List.length_drop]; omega), ?_⟩
  rw [List.all_eq_true] at h2 ⊢
  exact fun x hx => h2 x (List.mem_of_mem_drop hx)
end Go.Proofs.YtjajpdghamecoaaGreat
/- concat: what the program's text returns. -/
namespace Go.Proofs.YtjajpdghamecoaaGreat
open Go.RowKit

def joinL (ss : List ByteArray) : List UInt8 := ss.flatMap (fun s => s.data.toList)
def joinS (ss : List ByteArray) : ByteArray := ⟨(joinL ss).toArray⟩
theorem joinL_snoc (ss : List ByteArray) (s : ByteArray) : joinL (ss ++ [s]) = joinL ss ++ s.data.toList := by simp [joinL]
theorem joinL_split (ss : List ByteArray) (k : Nat) : joinL ss = joinL (ss.take k) ++ joinL (ss.drop k) := by
  have h := List.take_append_drop k ss
  unfold joinL
  rw [← List.flatMap_append, h]
theorem joinL_take_le (ss : List ByteArray) (k : Nat) : (joinL (ss.take k)).length ≤ (joinL ss).length := by
  rw [joinL_split ss k]; simp
theorem joinL_take_succ (ss : List ByteArray) (k : Nat) (h : k < ss.length) : joinL (ss.take (k + 1)) = joinL (ss.take k) ++ (ss[k]).data.toList := by
  rw [List.take_succ_eq_append_getElem h, joinL_snoc]
theorem modify_push {α : Type} (A : Array α) (x : α) (f : α → α) : (A.push x).modify A.size f = A.push (f x) := by
  apply Array.ext_getElem?
  intro i
  rw [Array.getElem?_modify, Array.getElem?_push, Array.getElem?_push]
  by_cases h : A.size = i
  · subst h; simp
  · rw [if_neg h, if_neg (fun e => h e.symm), if_neg (fun e => h e.symm)]
theorem setRow_alloc (w : World) (C X : Array Value) : (w.alloc (.cells C 5)).setRow w.heap.size X = w.alloc (.cells X 5) := by
  unfold World.setRow World.alloc
  simp only [modify_push]
theorem info5size : (Tryz.prog.info? 5).map (·.size) = some 1 := by kernel_rfl

/-- out[at:] and the copy of s into it -/
theorem cut_copy (w : World) (C : Array Value) (n k : Nat) (s : ByteArray) (hC : C.size = n) (hk : k + s.size ≤ n) :
    ∃ A : Addr, (∀ W : World, (Instr.slice 22 (.slice (some ⟨w.heap.size, 0, none⟩) n n) (some (.int .i64 (k : Int))) none none).run Tryz.prog W = .ok (.slice (some A) (n - k) (n - k)) W) ∧
      (Builtin.copy_ #[22, 9] 3 #[.slice (some A) (n - k) (n - k), .string s]).run Tryz.prog (w.alloc (.cells C 5)) =
        .ok (.int .i64 (s.size : Int)) (w.alloc (.cells (C.toList.take k ++ bs s.data.toList ++ C.toList.drop (k + s.size)).toArray 5)) := by
  refine ⟨if n = k then ⟨w.heap.size, 0, none⟩ else ⟨w.heap.size, k, none⟩, fun W => ?_, ?_⟩
  · rw [run_slice_l W 22 (some ⟨w.heap.size, 0, none⟩) n n (by rw [Tryz.elem22]; exact Tryz.underlying22) .i64 (k : Int) (by omega) (by omega), Tryz.elem22, Tryz.size5]
    simp [Result.andThen, sliced]
    split <;> simp [add_plain]
  · by_cases e : n = k
    · have hs0 : s.size = 0 := by omega
      rw [if_pos e, Lib.run_copy_empty_string _ 22 9 3 5 _ _ _ s Tryz.underlying22 (by rw [info5size]; rfl) hs0]
      have hl : s.data.toList = [] := List.eq_nil_of_length_eq_zero (by rw [size_len]; exact hs0)
      rw [hl, hs0]
      have hL : C.toList.length = n := by simpa using hC
      simp [bs, goInt]
    · rw [if_neg e, Lib.run_copy_row_string _ 22 9 3 5 w.heap.size k (n - k) (n - k) s C 5 Tryz.underlying22 info5size (heap_alloc_new w _) (by omega) (by omega), setRow_alloc]
      rfl

/-- what the copied row holds -/
theorem copied (C : Array Value) (n k : Nat) (l m : List UInt8) (hC : C.size = n) (hl : l.length = k) (hk : k + m.length ≤ n) (hp : C.toList.take k = bs l) :
    (C.toList.take k ++ bs m ++ C.toList.drop (k + m.length)).toArray.size = n ∧
      (C.toList.take k ++ bs m ++ C.toList.drop (k + m.length)).toArray.toList.take (k + m.length) = bs (l ++ m) := by
  have hL : C.toList.length = n := by simpa using hC
  refine ⟨by simp [bs_length]; omega, ?_⟩
  rw [hp]
  have : bs (l ++ m) = bs l ++ bs m := by simp [bs]
  have hlen : (bs l ++ bs m).length = k + m.length := by simp [bs_length, hl]
  rw [this, ← hlen]
  exact List.take_left

theorem cut_copied (w : World) (C : Array Value) (n : Nat) (l : List UInt8) (s : ByteArray) (hC : C.size = n) (hk : l.length + s.size ≤ n) (hp : C.toList.take l.length = bs l) :
    ∃ (A : Addr) (X : Array Value), (X.size = n ∧ X.toList.take (l.length + s.size) = bs (l ++ s.data.toList)) ∧
      (∀ W : World, (Instr.slice 22 (.slice (some ⟨w.heap.size, 0, none⟩) n n) (some (.int .i64 (l.length : Int))) none none).run Tryz.prog W = .ok (.slice (some A) (n - l.length) (n - l.length)) W) ∧
      (Builtin.copy_ #[22, 9] 3 #[.slice (some A) (n - l.length) (n - l.length), .string s]).run Tryz.prog (w.alloc (.cells C 5)) = .ok (.int .i64 (s.size : Int)) (w.alloc (.cells X 5)) := by
  obtain ⟨A, h1, h2⟩ := cut_copy w C n l.length s hC hk
  have h3 := copied C n l.length l s.data.toList hC rfl (by rw [size_len]; exact hk) hp
  rw [size_len] at h3
  exact ⟨A, _, h3, h1, h2⟩

set_option maxRecDepth 100000 in
set_option maxHeartbeats 400000 in
theorem concat_any (b off cap : Nat) (ss : List ByteArray) (w : World) (hm : ss.length ≤ 1000000) (hb : b < w.heap.size) (hlen : (joinL ss).length ≤ 1000000000)
    (hcell : ∀ i (hi : i < ss.length), w.cell? ⟨b, off + i, none⟩ = some (.string ss[i])) :
    Calls Tryz.prog 115 #[.slice (some ⟨b, off, none⟩) ss.length cap] w fun e w' => e = .returned (.string (joinS ss)) ∧ Below w.heap.size w w' := by
  have Hc := Lib.hid hcell; clear hcell
  have hmk := fun (n : Nat) (h : n ≤ 1000000000) => run_make_row' (P := Tryz.prog) 22 5 (.int .u8 0) 1 Tryz.underlying22 Tryz.info5 rfl .i64 .i64 n (by omega) (by omega)
  have Hmk := Lib.hid hmk; clear hmk
  go_enter Tryz.func115, Tryz.ntmps115
  go_wp2
  go_loop [3, 12] (fun t i => ∃ k : Nat, k ≤ ss.length ∧ i = .int .i64 k ∧ t = .int .i64 ((joinL (ss.take k)).length : Nat)) (fun _ i => ss.length - (intOf i).toNat)
  case atStart => exact ⟨0, Nat.zero_le _, rfl, rfl⟩
  case round =>
    obtain ⟨k, hk, rfl, rfl⟩ := hrel
    have hle := joinL_take_le ss k
    by_cases hlt : k < ss.length
    · have hck := Hc.out k hlt
      have hs2 := joinL_take_le ss (k + 1)
      have HS := Lib.hid (joinL_take_succ ss k hlt)
      rw [HS.out, List.length_append, size_len] at hs2
      generalize hq : (joinL (ss.take k)).length = q at *
      have Hq := Lib.hid hq; clear hq
      go_wp2
      go_round
      case rel => exact ⟨k + 1, by omega, by go_num, by rw [HS.out, List.length_append, Hq.out, size_len]; go_num⟩
      case measure => simp [intOf]; omega
    · have e : ss.take k = ss := List.take_of_length_le (by omega)
      rw [e]
      clear e hle
      have hM := Hmk.out _ hlen w
      generalize hn : (joinL ss).length = n at *
      have Hn := Lib.hid hn; clear hn
      have hMz : (madeCells #[Value.int IntKind.u8 0] n).size = n := size_madeCells _ _
      generalize madeCells #[Value.int IntKind.u8 0] n = M at *
      have HM := Lib.hid hMz; clear hMz
      go_wp2
      go_loopw [7, 25] (fun t i wr => ∃ (j : Nat) (C : Array Value), j ≤ ss.length ∧ i = .int .i64 j ∧ t = .int .i64 ((joinL (ss.take j)).length : Nat) ∧ C.size = n ∧ C.toList.take (joinL (ss.take j)).length = bs (joinL (ss.take j)) ∧ wr = w.alloc (.cells C 5)) (fun _ i _ => ss.length - (intOf i).toNat)
      case atStart => exact ⟨0, M, Nat.zero_le _, rfl, rfl, HM.out, by simp [joinL, bs], rfl⟩
      case round =>
        clear hM HM
        obtain ⟨j, C, hj, rfl, rfl, hC, hp, rfl⟩ := hrel
        have HC := Lib.hid hC; clear hC
        have Hp := Lib.hid hp; clear hp
        by_cases hjlt : j < ss.length
        · have hck : (w.alloc (.cells C 5)).cell? ⟨b, off + j, none⟩ = some (.string ss[j]) := by
            rw [(Below.refl w.heap.size w |>.alloc (Nat.le_refl _) (.cells C 5)).cell hb]; exact Hc.out j hjlt
          have hs2 := joinL_take_le ss (j + 1)
          have HS := Lib.hid (joinL_take_succ ss j hjlt)
          rw [HS.out, List.length_append, size_len, Hn.out] at hs2
          obtain ⟨A, X, hX, hsl, hcp⟩ := cut_copied w C n (joinL (ss.take j)) ss[j] HC.out hs2 Hp.out
          have HX := Lib.hid hX; clear hX
          generalize hq : (joinL (ss.take j)).length = q at *
          have Hq := Lib.hid hq; clear hq
          go_wp2
          go_roundw
          case rel =>
            refine ⟨j + 1, X, by omega, by go_num, ?_, HX.out.1, ?_, rfl⟩
            · rw [HS.out, List.length_append, Hq.out, size_len]; go_num
            · rw [HS.out, List.length_append, Hq.out, size_len]; exact HX.out.2
          case measure => simp [intOf]; omega
        · have e : ss.take j = ss := List.take_of_length_le (by omega)
          have h1 := Hp.out
          rw [e, Hn.out] at h1
          rw [e, Hn.out]
          have hstr := str22 (w.alloc (.cells C 5)) ⟨w.heap.size, 0, none⟩ n (joinL ss) n Hn.out (fun i hi => by
            rw [add_plain, World.cell?_alloc_mark]
            have h2 : C.toList[i]? = (bs (joinL ss))[i]? := by rw [← h1, List.getElem?_take_of_lt (by rw [← Hn.out]; exact hi)]
            rw [← Array.getElem?_toList, h2]
            simp [bs, List.getElem?_eq_getElem hi])
          clear e h1
          go_wp2
          go_ret
          exact ⟨rfl, (Below.refl _ _).alloc (Nat.le_refl _) _⟩
theorem joinS_one (a : ByteArray) : joinS [a] = a := by
  apply ByteArray.ext
  simp [joinS, joinL]
theorem joinS_two (a b : ByteArray) : joinS [a, b] = a ++ b := by
  apply ByteArray.ext
  simp [joinS, joinL]
theorem concat_one (a : ByteArray) (w : World) (h : a.size ≤ 1000000) :
    Calls Tryz.prog 115 #[.slice (some ⟨w.heap.size, 0, none⟩) 1 1] (w.alloc (.cells #[.string a] 9)) fun e w' => e = .returned (.string a) ∧ Below w.heap.size w w' := by
  have := concat_any w.heap.size 0 1 [a] (w.alloc (.cells #[.string a] 9)) (by simp) (by simp) (by simp [joinL]; omega) (fun i hi => by
    match i, hi with
    | 0, _ => simp)
  rw [joinS_one] at this
  exact this.mono fun e w' ⟨he, hb⟩ => ⟨he, ((Below.refl _ _).alloc (Nat.le_refl _) _).trans (hb.mono (by simp))⟩
end Go.Proofs.YtjajpdghamecoaaGreat
/- joinRdns: what the program's text returns. -/
namespace Go.Proofs.YtjajpdghamecoaaGreat
open Go.RowKit
attribute [local go_sem ↓] Go.wp_at_zero Go.wp_at_succ

theorem more {w0 W : World} (h : Below w0.heap.size w0 W) (o : Obj) : Below w0.heap.size w0 (W.alloc o) := h.alloc h.size o
/-- a copy of a string -/
theorem concat_at (w0 : World) (B : Nat) (a : ByteArray) (w : World) (ha : a.size ≤ 1048576) (hB : B < w.heap.size) (hc : w.cell? ⟨B, 0, none⟩ = some (.string a)) (hb : Below w0.heap.size w0 w) :
    Calls Tryz.prog 115 #[.slice (some ⟨B, 0, none⟩) 1 1] w fun e w' => e = .returned (.string a) ∧ Below w0.heap.size w0 w' ∧ Below w.heap.size w w' := by
  have := concat_any B 0 1 [a] w (by simp) hB (by simp [joinL]; omega) (fun i hi => by
    match i, hi with
    | 0, _ => exact hc)
  rw [joinS_one] at this
  exact this.mono fun e w' ⟨he, h⟩ => ⟨he, hb.trans (h.mono hb.size), h⟩
theorem wp_world {P : Program} {c : Code} {Q : Exit → Act → World → Prop} {a : Act} {w : World} (R : World → Prop) (h : R w) (k : ∀ W, R W → c.wp P Q a W) : c.wp P Q a w := k w h
theorem keep_two {W w2 : World} {R : Nat} {A V : Value} (hb : Below W.heap.size W w2) (h : W.cell? ⟨R, 0, none⟩ = some A ∧ W.cell? ⟨R, 1, none⟩ = some V) : w2.cell? ⟨R, 0, none⟩ = some A ∧ w2.cell? ⟨R, 1, none⟩ = some V :=
  ⟨(hb.cell (p := ⟨R, 0, none⟩) (World.block_lt_of_cell? _ _ h.1)).trans h.1, (hb.cell (p := ⟨R, 1, none⟩) (World.block_lt_of_cell? _ _ h.2)).trans h.2⟩
theorem keep_far {W w2 : World} {R : Nat} {A V : Value} {row : Option Nat} (hg : W.grownBy w2 row) (hne : row ≠ some R) (h : W.cell? ⟨R, 0, none⟩ = some A ∧ W.cell? ⟨R, 1, none⟩ = some V) : w2.cell? ⟨R, 0, none⟩ = some A ∧ w2.cell? ⟨R, 1, none⟩ = some V :=
  ⟨(hg.cell_far ⟨R, 0, none⟩ (World.block_lt_of_cell? _ _ h.1) (Ne.symm hne)).trans h.1, (hg.cell_far ⟨R, 1, none⟩ (World.block_lt_of_cell? _ _ h.2) (Ne.symm hne)).trans h.2⟩
section
variable {ops : Array Oper} {o : Oper} {a : Act} {Q : Exit → Act → World → Prop} {K : Act → World → Prop} {E : Prop} {w0 wr : World}
theorem step_rdn2 (B : Nat) (hgd : o.guard = none) (s x : Operand)
    (ho : o.op = .call { callee := .builtin .append, args := #[s, x], argTypes := #[23, 23] }) (v : Value) (pre : RdnL) (hs : a.eval s = v) (hown : wr.ownsRow B 97 2 v pre.length (rs pre))
    (A V : ByteArray) (hx : a.eval x = .slice (some ⟨wr.heap.size, 0, none⟩) 1 1) (hlen : pre.length ≤ 1000000000) (hB : B ≤ wr.heap.size) (hbel : Below B w0 wr)
    (h : ∀ g cap w', w'.ownsRow B 97 2 (.slice (some ⟨g, 0, none⟩) (pre.length + 1) cap) (pre ++ [(A, V)]).length (rs (pre ++ [(A, V)])) → Below B w0 w' → (wr.alloc (.cells #[.string A, .string V] 97)).grownBy w' v.ownBlock → K (a.put o.dst (.slice (some ⟨g, 0, none⟩) (pre.length + 1) cap)) w') :
    if Region.wanted o (yielded ops a.tmps) = true then Oper.wp Tryz.prog o a (wr.alloc (.cells #[.string A, .string V] 97)) K Q else E := by
  obtain ⟨i0, hi, hz0, hz1, hz2⟩ := info_parts Tryz.info97
  refine step_append_lies _ hgd s x 23 ho B 97 i0 _ 2 32 Tryz.underlying23 hi hz0 hz1 hz2 rfl (by decide) v pre.length (rs pre) hs (hown.alloc _) ⟨wr.heap.size, 0, none⟩ 1 1 [.string A, .string V] hx rfl (World.news_of_block (cs := #[.string A, .string V]) (t := 97) (fr := (0, 0)) (heap_alloc_new wr _)) ?_ (by omega) ?_ ?_ ?_ (wr.heap.size + 1) (by simp) ?_
  · intro u hu; simp at hu; rcases hu with rfl | rfl <;> rfl
  · unfold maxLen; omega
  · omega
  · simp; omega
  · intro g cap w' h1 h2 h3 h4
    have hb' : Below B w0 w' := (hbel.alloc hB _).grown h2 (by simp; omega) (fun k hk => (hown.lt k hk).1)
    refine h g cap w' ?_ hb' h2
    rw [rs_snoc]; simpa using h1
end
/-- lists of names, as slices -/
def PartsAt (w : World) (pb po : Nat) (ps : List (Option Addr × Nat × RdnL)) : Prop :=
  pb < w.heap.size ∧ ∀ i (h : i < ps.length), w.cell? ⟨pb, po + i, none⟩ = some (.slice ps[i].1 ps[i].2.2.length ps[i].2.1) ∧ DnAt w ps[i].1 ps[i].2.2 ∧ Fits ps[i].2.2
theorem PartsAt.below {w w' : World} {pb po : Nat} {ps : List (Option Addr × Nat × RdnL)} (h : PartsAt w pb po ps) (hb : Below w.heap.size w w') : PartsAt w' pb po ps :=
  ⟨Nat.lt_of_lt_of_le h.1 hb.size, fun i hi => ⟨(hb.cell (p := ⟨pb, _, none⟩) h.1).trans (h.2 i hi).1, (h.2 i hi).2.1.below hb, (h.2 i hi).2.2⟩⟩
def flat (ps : List (Option Addr × Nat × RdnL)) : RdnL := ps.flatMap (·.2.2)
theorem flat_succ (ps : List (Option Addr × Nat × RdnL)) (k : Nat) (h : k < ps.length) : flat (ps.take (k + 1)) = flat (ps.take k) ++ ps[k].2.2 := by
  unfold flat; rw [List.take_succ_eq_append_getElem h, List.flatMap_append]; simp

theorem flat_len (ps : List (Option Addr × Nat × RdnL)) (h : ∀ p ∈ ps, p.2.2.length ≤ 1048576) : (flat ps).length ≤ ps.length * 1048576 := by
  induction ps with
  | nil => simp [flat]
  | cons p ps ih =>
    have h1 := ih (fun x hx => h x (List.mem_cons_of_mem _ hx))
    have h2 := h p (List.mem_cons_self ..)
    have e : flat (p :: ps) = p.2.2 ++ flat ps := by unfold flat; simp
    rw [e, List.length_append, List.length_cons, Nat.add_mul]; omega
theorem PartsAt.len {w : World} {pb po : Nat} {ps : List (Option Addr × Nat × RdnL)} (h : PartsAt w pb po ps) (hm : ps.length ≤ 10) (k : Nat) : (flat (ps.take k)).length ≤ 100000000 := by
  have := flat_len (ps.take k) (fun p hp => by
    obtain ⟨i, hi, rfl⟩ := List.getElem_of_mem (List.mem_of_mem_take hp)
    exact (h.2 i hi).2.2.1)
  have h2 : (ps.take k).length ≤ 10 := by rw [List.length_take]; omega
  omega
set_option maxRecDepth 100000 in
set_option maxHeartbeats 2000000 in
theorem joinRdns_any (pb po pc : Nat) (ps : List (Option Addr × Nat × RdnL)) (w : World) (hp : PartsAt w pb po ps) (hm : ps.length ≤ 10) :
    Calls Tryz.prog 95 #[.slice (some ⟨pb, po, none⟩) ps.length pc] w fun e w' => (∃ v, e = .returned v ∧ w'.ownsRow w.heap.size 97 2 v (flat ps).length (rs (flat ps))) ∧ Below w.heap.size w w' := by
  have HP := Lib.hid hp; clear hp
  go_enter Tryz.func95, Tryz.ntmps95
  go_wp2
  go_loopw [3, 9] (fun v i wr => ∃ k : Nat, k ≤ ps.length ∧ i = .int .i64 k ∧ wr.ownsRow w.heap.size 97 2 v (flat (ps.take k)).length (rs (flat (ps.take k))) ∧ Below w.heap.size w wr) (fun _ i _ => ps.length - (intOf i).toNat)
  case atStart => exact ⟨0, Nat.zero_le _, rfl, ⟨rfl, .inl ⟨rfl, rfl⟩⟩, Below.refl _ _⟩
  case round =>
    obtain ⟨k, hk, rfl, hown, hbel⟩ := hrel
    by_cases hlt : k < ps.length
    · obtain ⟨hc0, hd, hf⟩ := HP.out.2 k hlt
      have hc := (hbel.cell (p := ⟨pb, po + k, none⟩) HP.out.1).trans hc0
      have hl := hf.1
      have HF := Lib.hid (flat_succ ps k hlt)
      have hown0 : wr.ownsRow w.heap.size 97 2 u3 (flat (ps.take k) ++ ps[k].2.2.take 0).length (rs (flat (ps.take k) ++ ps[k].2.2.take 0)) := by rw [List.take_zero, List.append_nil]; exact hown
      have HO := Lib.hid hown0; have HD := Lib.hid hd; have HFi := Lib.hid hf; have HC0 := Lib.hid hc0
      clear hown hown0 hd hf hc0
      have hpl := HP.out.len hm k
      generalize flat (ps.take k) = pre at *
      generalize ps[k].1 = ao at *
      generalize ps[k].2.1 = cp at *
      generalize ps[k].2.2 = d at *
      go_wp2_with fail
      go_loopw [3, 17] (fun v i wr => ∃ j : Nat, j ≤ d.length ∧ i = .int .i64 j ∧ wr.ownsRow w.heap.size 97 2 v (pre ++ d.take j).length (rs (pre ++ d.take j)) ∧ Below w.heap.size w wr) (fun _ i _ => d.length - (intOf i).toNat)
      case atStart => exact ⟨0, Nat.zero_le _, rfl, HO.out, hbel⟩
      case round =>
        clear hc HO hbel
        obtain ⟨j, hj, rfl, hown, hbel⟩ := hrel
        have hc := (hbel.cell (p := ⟨pb, po + k, none⟩) HP.out.1).trans HC0.out
        by_cases hjlt : j < d.length
        · obtain ⟨b, off, rfl, hb0, hd1, hd2⟩ := HD.out.at hjlt
          have hc1 := (hbel.cell (p := ⟨b, off + j * 2, none⟩) hb0).trans hd1
          have hc2 := (hbel.cell (p := ⟨b, off + j * 2 + 1, none⟩) hb0).trans hd2
          have hz := HFi.out.small hjlt
          have HN : Hid (d.take (j + 1) = d.take j ++ [d[j]]) := Lib.hid (List.take_succ_eq_append_getElem hjlt)
          clear hd1 hd2
          have HR : Hid (u3.ownBlock ≠ some wr.heap.size) := Lib.hid (fun e => by have := (hown.lt _ e).2; omega)
          have HO := Lib.hid hown
          have hpl2 : Hid ((pre ++ d.take j).length ≤ 1000000000) := Lib.hid (by rw [List.length_append, List.length_take]; omega)
          have HD2 : Hid (d[j] = (d[j].1, d[j].2)) := Lib.hid rfl
          generalize d[j].1 = A at *
          generalize d[j].2 = V at *
          go_wp2_with fail
          refine wp_world (fun W => (W.cell? ⟨wr.heap.size, 0, none⟩ = some (.string A) ∧ W.cell? ⟨wr.heap.size, 1, none⟩ = some (.string V)) ∧ W.ownsRow w.heap.size 97 2 u3 (pre ++ d.take j).length (rs (pre ++ d.take j)) ∧ Below w.heap.size w W)
            ⟨⟨by simp, by simp⟩, HO.out.alloc _, more hbel _⟩ ?_
          rintro W0 ⟨hW1, hW2, hW3⟩
          have HO2 := Lib.hid hW2
          generalize wr.heap.size = R at *
          clear hown HO hW2 hc hc1 hc2 hbel
          have hW4 : Below W0.heap.size W0 W0.drew := (Below.refl _ _).drew
          obtain ⟨hz1, hz2⟩ := hz
          go_region_held3 (fun W => W.cell? ⟨R, 0, none⟩ = some (.string A) ∧ W.cell? ⟨R, 1, none⟩ = some (.string V))
            (first | go_keep | exact keep_far hg5 HR.out (by assumption) | exact keep_two hb2 (by assumption))
            (first
              | (go_at_call 115; refine (concat_at W0 _ A _ hz1 ?_ ?_ ?_).mono ?_; (focus (first | (simp; done) | (simp; omega) | (exact Nat.lt_of_lt_of_le (by first | (simp; done) | (simp; omega)) hb2.size))); (focus (first | (simp; done) | (rw [bc _ _ (by first | (simp; done) | (simp; omega))]; simp; done))); (focus (first | assumption | exact more (by assumption) _ | exact (more (Below.refl _ _) _).drew | exact (more (more (Below.refl _ _) _) _).drew)); rintro e w2 ⟨rfl, hq2, hb2⟩; obtain ⟨bc, bf⟩ := bcell hb2)
              | (go_at_call 115; refine (concat_at W0 _ V _ hz2 ?_ ?_ ?_).mono ?_; (focus (first | (simp; done) | (simp; omega) | (exact Nat.lt_of_lt_of_le (by first | (simp; done) | (simp; omega)) hb2.size))); (focus (first | (simp; done) | (rw [bc _ _ (by first | (simp; done) | (simp; omega))]; simp; done))); (focus (first | assumption | exact more (by assumption) _ | exact (more (Below.refl _ _) _).drew | exact (more (more (Below.refl _ _) _) _).drew)); rintro e w2 ⟨rfl, hq2, hb2⟩; obtain ⟨bc, bf⟩ := bcell hb2)
              | (refine step_rdn2 w.heap.size (by rfl) _ _ (by rfl) _ (pre ++ d.take j) (by rfl) (own_below HO2.out hq2) _ _ (by rfl) hpl2.out (Nat.le_trans hW3.size hq2.size) (hW3.trans (hq2.mono hW3.size)) ?_; intro g cp5 w5 hown5 hbel5 hg5)
              | (fail "none"))
          all_goals
            rw [show (pre ++ d.take j).length + 1 = pre.length + j + 1 by rw [List.length_append, List.length_take]; omega] at hown5
            have HO5 := Lib.hid hown5
            clear hown5 bc bf
            go_wp2
            go_roundw
            case rel => exact ⟨j + 1, by omega, by go_num, by rw [HN.out, HD2.out, ← List.append_assoc]; exact HO5.out, hbel5⟩
            case measure => simp [intOf]; omega
        · have e : d.take j = d := List.take_of_length_le (by omega)
          rw [e] at hown
          have HO := Lib.hid hown
          clear hown e
          go_wp2
          go_roundw
          case rel => exact ⟨k + 1, by omega, by go_num, by rw [HF.out]; exact HO.out, hbel⟩
          case measure => simp [intOf]; omega
    · have e : ps.take k = ps := List.take_of_length_le (by omega)
      rw [e] at hown
      have HO := Lib.hid hown
      clear hown e
      go_wp2
      go_ret
      exact ⟨⟨_, rfl, HO.out⟩, hbel⟩
end Go.Proofs.YtjajpdghamecoaaGreat
/- The source of the draws: one drawn number. -/
namespace Go.Proofs.YtjajpdghamecoaaGreat
open Go.RowKit

/-- a source lies in block q: its bytes, its place, its mixed number -/
def Src (w : World) (q : Nat) (ao : Option Addr) (len cap : Nat) (k m z : Int) : Prop :=
  w.heap[q]? = some (.cells #[.slice ao len cap, .int .i64 k, .int .u64 m, .int .i64 z] 95 (0, 0))
theorem src_cells {w : World} {q : Nat} {ao : Option Addr} {len cap : Nat} {k m z : Int} (h : Src w q ao len cap k m z) :
    (w.cell? ⟨q, 0, none⟩ = some (.slice ao len cap) ∧ w.cell? ⟨q, 1, none⟩ = some (.int .i64 k) ∧ w.cell? ⟨q, 2, none⟩ = some (.int .u64 m) ∧ w.cell? ⟨q, 3, none⟩ = some (.int .i64 z)) ∧
    (w.frozen? ⟨q, 0, none⟩ = false ∧ w.frozen? ⟨q, 1, none⟩ = false ∧ w.frozen? ⟨q, 2, none⟩ = false ∧ w.frozen? ⟨q, 3, none⟩ = false) := by
  refine ⟨⟨?_, ?_, ?_, ?_⟩, ⟨?_, ?_, ?_, ?_⟩⟩
  all_goals first | (unfold World.cell?; rw [h]; rfl) | (unfold World.frozen?; rw [h]; rfl)
theorem heap_setS {w : World} {q j : Nat} {C : Array Value} {T : TypeId} {fr : Nat × Nat} (v : Value) (h : w.heap[q]? = some (.cells C T fr)) : (w.setCell ⟨q, j, none⟩ v).heap[q]? = some (.cells (C.setIfInBounds j v) T fr) := by
  unfold World.setCell
  simp [Array.getElem?_modify, h]
theorem src_mix {w : World} {q : Nat} {ao : Option Addr} {len cap : Nat} {k m z : Int} (h : Src w q ao len cap k m z) (m' : Int) : Src (w.setCell ⟨q, 2, none⟩ (.int .u64 m')) q ao len cap k m' z := by
  unfold Src; rw [heap_setS _ h]; rfl
theorem src_at {w : World} {q : Nat} {ao : Option Addr} {len cap : Nat} {k m z : Int} (h : Src w q ao len cap k m z) (k' : Int) : Src (w.setCell ⟨q, 1, none⟩ (.int .i64 k')) q ao len cap k' m z := by
  unfold Src; rw [heap_setS _ h]; rfl
theorem grown_setS (w : World) (q j : Nat) (v : Value) : w.grownBy (w.setCell ⟨q, j, none⟩ v) (some q) :=
  ⟨rfl, rfl, rfl, by simp [World.setCell], fun k _ hk => Below.heap_setCell _ _ _ _ (fun e => hk (by simp [e]))⟩
theorem grown_refl (w : World) (r : Option Nat) : w.grownBy w r := ⟨rfl, rfl, rfl, Nat.le_refl _, fun _ _ _ => rfl⟩
theorem grown_trans {a b c : World} {r : Option Nat} (h : a.grownBy b r) (g : b.grownBy c r) : a.grownBy c r :=
  ⟨g.os.trans h.os, g.tape.trans h.tape, g.output.trans h.output, Nat.le_trans h.size g.size, fun k hk hne => (g.block k (Nat.lt_of_lt_of_le hk h.size) hne).trans (h.block k hk hne)⟩
theorem grown_drew {a b : World} {r : Option Nat} (h : a.grownBy b r) : a.grownBy b.drew r := ⟨h.os, h.tape, h.output, h.size, h.block⟩


/-- what a call leaves: a source, and all else as it was -/
def Draws (q : Nat) (ao : Option Addr) (len cap : Nat) (z : Int) (w w' : World) : Prop := ∃ k m, 0 ≤ k ∧ Src w' q ao len cap k m z ∧ w.grownBy w' (some q)

set_option maxRecDepth 100000 in
set_option maxHeartbeats 1000000 in
theorem n_one (q : Nat) (x : Int) (w : World) (hx : x ≤ 1) :
    Calls Tryz.prog 64 #[.pointer (some ⟨q, 0, none⟩), .int .i64 x] w fun e w' => e = .returned (.int .i64 0) ∧ w = w' := by
  go_enter Tryz.func64, Tryz.ntmps64
  go_wp2
  go_ret
  exact ⟨rfl, rfl⟩

def InRange (x : Int) (e : Ending) : Prop := ∃ v : Int, e = .returned (.int .i64 v) ∧ 0 ≤ v ∧ v < x

theorem src_drewN {w : World} {q : Nat} {ao : Option Addr} {len cap : Nat} {k m z : Int} (h : Src w q ao len cap k m z) (n : Nat) : Src (w.drewN n) q ao len cap k m z := h
theorem rem_range (t x : Int) (hx : 1 < x) (hx2 : x ≤ 4611686018427387904) : 0 ≤ wrap64 ((IntKind.u64.wrap t).tmod x) ∧ wrap64 ((IntKind.u64.wrap t).tmod x) < x := by
  have h0 : 0 ≤ IntKind.u64.wrap t := by rw [IntKind.wrap_u64]; omega
  rw [Int.tmod_eq_emod_of_nonneg h0]
  have h1 := Int.emod_nonneg (IntKind.u64.wrap t) (show x ≠ 0 by omega)
  have h2 := Int.emod_lt_of_pos (IntKind.u64.wrap t) (show 0 < x by omega)
  generalize IntKind.u64.wrap t % x = y at *
  unfold wrap64
  omega
theorem grown_drewN (w : World) (n : Nat) (r : Option Nat) : w.grownBy (w.drewN n) r := ⟨rfl, rfl, rfl, Nat.le_refl _, fun _ _ _ => rfl⟩

set_option maxRecDepth 100000 in
set_option maxHeartbeats 1000000 in
theorem n_end (q : Nat) (ao : Option Addr) (len cap : Nat) (k m z x : Int) (w : World) (hx : 1 < x) (hx2 : x ≤ 4611686018427387904) (hS : Src w q ao len cap k m z) (hk0 : 0 ≤ k) (hk : (len : Int) ≤ k) (hl : len ≤ 140737488351232) :
    Calls Tryz.prog 64 #[.pointer (some ⟨q, 0, none⟩), .int .i64 x] w fun e w' => InRange x e ∧ Draws q ao len cap z w w' := by
  obtain ⟨⟨c0, c1, c2, c3⟩, ⟨f0, f1, f2, f3⟩⟩ := src_cells hS
  have HS := Lib.hid hS; clear hS
  go_enter Tryz.func64, Tryz.ntmps64
  go_wp2
  go_quiet (fail)
  go_wp2
  refine wp_world (fun W => Src W q ao len cap k m z ∧ w.grownBy W (some q)) ⟨HS.out, grown_drewN w _ _⟩ ?_
  clear c0 c1 c2 c3 f0 f1 f2 f3 HS 
  rintro W1 ⟨hS1, hg1⟩
  obtain ⟨⟨c0, c1, c2, c3⟩, ⟨f0, f1, f2, f3⟩⟩ := src_cells hS1
  have HS := Lib.hid hS1; have HG := Lib.hid hg1; clear hS1 hg1
  go_region
  go_wp2
  refine wp_world (fun W => ∃ m', Src W q ao len cap k m' z ∧ w.grownBy W (some q)) ⟨_, src_mix HS.out _, grown_drew (grown_trans HG.out (grown_setS _ _ _ _))⟩ ?_
  clear c0 c1 c2 c3 f0 f1 f2 f3 HS HG
  rintro W2 ⟨m2, hS1, hg1⟩
  obtain ⟨⟨c0, c1, c2, c3⟩, ⟨f0, f1, f2, f3⟩⟩ := src_cells hS1
  have HS := Lib.hid hS1; have HG := Lib.hid hg1; clear hS1 hg1
  go_region
  go_wp2
  refine wp_world (fun W => ∃ m', Src W q ao len cap k m' z ∧ w.grownBy W (some q)) ⟨_, src_mix HS.out _, grown_drew (grown_trans HG.out (grown_setS _ _ _ _))⟩ ?_
  clear c0 c1 c2 c3 f0 f1 f2 f3 HS HG
  rintro W3 ⟨m3, hS1, hg1⟩
  obtain ⟨⟨c0, c1, c2, c3⟩, ⟨f0, f1, f2, f3⟩⟩ := src_cells hS1
  have HS := Lib.hid hS1; have HG := Lib.hid hg1; clear hS1 hg1
  go_region
  go_wp2
  go_ret
  exact ⟨⟨_, rfl, rem_range _ x hx hx2⟩, k, _, hk0, src_mix HS.out _, grown_drew (grown_trans HG.out (grown_setS _ _ _ _))⟩

set_option maxRecDepth 100000 in
set_option maxHeartbeats 1000000 in
theorem n_mid (q b off len cap k : Nat) (m z x v : Int) (w : World) (hx : 1 < x) (hx2 : x ≤ 4611686018427387904) (hS : Src w q (some ⟨b, off, none⟩) len cap k m z) (hk : k < len) (hl : len ≤ 140737488351232)
    (hc : w.cell? ⟨b, off + k, none⟩ = some (.int .u8 v)) (hv0 : 0 ≤ v) (hv1 : v ≤ 255) :
    Calls Tryz.prog 64 #[.pointer (some ⟨q, 0, none⟩), .int .i64 x] w fun e w' => InRange x e ∧ Draws q (some ⟨b, off, none⟩) len cap z w w' := by
  obtain ⟨⟨c0, c1, c2, c3⟩, ⟨f0, f1, f2, f3⟩⟩ := src_cells hS
  have HS := Lib.hid hS; clear hS
  go_enter Tryz.func64, Tryz.ntmps64
  go_wp2
  go_quiet (fail)
  go_wp2
  refine wp_world (fun W => Src W q (some ⟨b, off, none⟩) len cap k m z ∧ w.grownBy W (some q) ∧ W.cell? ⟨b, off + k, none⟩ = some (.int .u8 v)) ⟨HS.out, grown_drewN w _ _, hc⟩ ?_
  clear c0 c1 c2 c3 f0 f1 f2 f3 HS hc
  rintro W0 ⟨hS1, hg1, hc⟩
  obtain ⟨⟨c0, c1, c2, c3⟩, ⟨f0, f1, f2, f3⟩⟩ := src_cells hS1
  have HS := Lib.hid hS1; have HG := Lib.hid hg1; clear hS1 hg1
  go_quiet (fail)
  go_wp2
  refine wp_world (fun W => Src W q (some ⟨b, off, none⟩) len cap ((k : Int) + 1) m z ∧ w.grownBy W (some q)) ⟨src_at (src_drewN HS.out _) _, grown_trans (grown_trans HG.out (grown_drewN _ _ _)) (grown_setS _ _ _ _)⟩ ?_
  clear c0 c1 c2 c3 f0 f1 f2 f3 HS HG hc
  rintro W1 ⟨hS1, hg1⟩
  obtain ⟨⟨c0, c1, c2, c3⟩, ⟨f0, f1, f2, f3⟩⟩ := src_cells hS1
  have HS := Lib.hid hS1; have HG := Lib.hid hg1; clear hS1 hg1
  go_region
  go_wp2
  refine wp_world (fun W => ∃ m', Src W q (some ⟨b, off, none⟩) len cap ((k : Int) + 1) m' z ∧ w.grownBy W (some q)) ⟨_, src_mix HS.out _, grown_drew (grown_trans HG.out (grown_setS _ _ _ _))⟩ ?_
  clear c0 c1 c2 c3 f0 f1 f2 f3 HS HG
  rintro W2 ⟨m2, hS1, hg1⟩
  obtain ⟨⟨c0, c1, c2, c3⟩, ⟨f0, f1, f2, f3⟩⟩ := src_cells hS1
  have HS := Lib.hid hS1; have HG := Lib.hid hg1; clear hS1 hg1
  go_region
  go_wp2
  refine wp_world (fun W => ∃ m', Src W q (some ⟨b, off, none⟩) len cap ((k : Int) + 1) m' z ∧ w.grownBy W (some q)) ⟨_, src_mix HS.out _, grown_drew (grown_trans HG.out (grown_setS _ _ _ _))⟩ ?_
  clear c0 c1 c2 c3 f0 f1 f2 f3 HS HG
  rintro W3 ⟨m3, hS1, hg1⟩
  obtain ⟨⟨c0, c1, c2, c3⟩, ⟨f0, f1, f2, f3⟩⟩ := src_cells hS1
  have HS := Lib.hid hS1; have HG := Lib.hid hg1; clear hS1 hg1
  go_region
  go_wp2
  go_ret
  exact ⟨⟨_, rfl, rem_range _ x hx hx2⟩, (k : Int) + 1, _, by omega, src_mix HS.out _, grown_drew (grown_trans HG.out (grown_setS _ _ _ _))⟩

/-- the bytes that a source reads: none, or a row of bytes in an earlier block -/
def Row (w : World) (q : Nat) (ao : Option Addr) (len : Nat) : Prop :=
  len = 0 ∨ ∃ b off, ao = some ⟨b, off, none⟩ ∧ b < q ∧ ∀ j, j < len → ∃ v : Int, w.cell? ⟨b, off + j, none⟩ = some (.int .u8 v) ∧ 0 ≤ v ∧ v ≤ 255
theorem Row.same {w w' : World} {q : Nat} {ao : Option Addr} {len : Nat} (h : Row w q ao len) (hg : ∀ k, k < q → w'.heap[k]? = w.heap[k]?) : Row w' q ao len := by
  rcases h with h | ⟨b, off, h1, h2, h4⟩
  · exact .inl h
  · refine .inr ⟨b, off, h1, h2, fun j hj => ?_⟩
    obtain ⟨v, hv, hv1⟩ := h4 j hj
    exact ⟨v, (World.cell?_of_block (a := ⟨b, off + j, none⟩) (hg b h2)).trans hv, hv1⟩
theorem src_lt {w : World} {q : Nat} {ao : Option Addr} {len cap : Nat} {k m z : Int} (h : Src w q ao len cap k m z) : q < w.heap.size := (Array.getElem?_eq_some_iff.1 h).1
/-- a source that can be drawn from -/
def Good (w : World) (q : Nat) : Prop := ∃ ao len cap k m z, 0 ≤ k ∧ len ≤ 140737488351232 ∧ Src w q ao len cap k m z ∧ Row w q ao len
theorem Good.lt {w : World} {q : Nat} (h : Good w q) : q < w.heap.size := by obtain ⟨ao, len, cap, k, m, z, _, _, hS, _⟩ := h; exact src_lt hS
theorem Good.same {w w' : World} {q : Nat} (h : Good w q) (hg : ∀ k, k ≤ q → w'.heap[k]? = w.heap[k]?) : Good w' q := by
  obtain ⟨ao, len, cap, k, m, z, hk, hl, hS, hR⟩ := h
  exact ⟨ao, len, cap, k, m, z, hk, hl, (hg q (Nat.le_refl _)).trans hS, hR.same fun j hj => hg j (Nat.le_of_lt hj)⟩
/-- it is still one, and all else is as it was -/
def Still (q : Nat) (w w' : World) : Prop := Good w' q ∧ w.grownBy w' (some q)
theorem Still.refl {q : Nat} {w : World} (h : Good w q) : Still q w w := ⟨h, grown_refl _ _⟩
/-- writes to later blocks change no source -/
theorem Still.later {q : Nat} {w wr w' : World} {g : Option Nat} (h : Still q w wr) (hg : wr.grownBy w' g) (hqw : q < w.heap.size) (hq : ∀ k, g = some k → w.heap.size ≤ k) : Still q w w' := by
  have hs := h.2.size
  refine ⟨h.1.same fun k hk => hg.block k (Nat.lt_of_le_of_lt hk h.1.lt) fun e => ?_, ⟨hg.os.trans h.2.os, hg.tape.trans h.2.tape, hg.output.trans h.2.output, Nat.le_trans hs hg.size, fun k hk hne => ?_⟩⟩
  · have := hq k e.symm; omega
  · rw [hg.block k (Nat.lt_of_lt_of_le hk hs) fun e => by have := hq k e.symm; omega]; exact h.2.block k hk hne
theorem Still.trans {q : Nat} {a b c : World} (h : Still q a b) (g : Still q b c) : Still q a c := ⟨g.1, grown_trans h.2 g.2⟩

theorem n_any (q : Nat) (x : Int) (w : World) (hg : Good w q) (hx : 1 < x) (hx2 : x ≤ 4611686018427387904) :
    Calls Tryz.prog 64 #[.pointer (some ⟨q, 0, none⟩), .int .i64 x] w fun e w' => InRange x e ∧ Still q w w' := by
  obtain ⟨ao, len, cap, k, m, z, hk0, hl, hS, hR⟩ := hg
  have fin : ∀ e w', (InRange x e ∧ Draws q ao len cap z w w') → InRange x e ∧ Still q w w' := by
    rintro e w' ⟨h1, k', m', hk', hS', hG'⟩
    exact ⟨h1, ⟨ao, len, cap, k', m', z, hk', hl, hS', hR.same fun j hj => hG'.block j (Nat.lt_trans hj (src_lt hS)) (fun e => by have := Option.some.inj e; omega)⟩, hG'⟩
  by_cases h : (len : Int) ≤ k
  · exact (n_end q ao len cap k m z x w hx hx2 hS hk0 h hl).mono fin
  · rcases hR with h0 | ⟨b, off, rfl, hb, hc⟩
    · omega
    · obtain ⟨j, rfl⟩ := Int.eq_ofNat_of_zero_le hk0
      obtain ⟨v, hv, hv0, hv1⟩ := hc j (by omega)
      exact (n_mid q b off len cap j m z x v w hx hx2 hS (by omega) hl hv hv0 hv1).mono fin

def SomeBool (e : Ending) : Prop := ∃ b : Bool, e = .returned (.bool b)
set_option maxHeartbeats 400000 in
theorem one_any (q : Nat) (x : Int) (w : World) (hg : Good w q) (hx : 1 < x) (hx2 : x ≤ 4611686018427387904) :
    Calls Tryz.prog 43 #[.pointer (some ⟨q, 0, none⟩), .int .i64 x] w fun e w' => SomeBool e ∧ Still q w w' := by
  have HG := Lib.hid hg; clear hg
  go_enter Tryz.func43, Tryz.ntmps43
  go_wp2_with (first | (go_at_call 64; refine (n_any _ _ _ HG.out hx hx2).mono ?_; rintro e w1 ⟨⟨v, rfl, hv0, hv1⟩, hs1⟩; have HS1 := Lib.hid hs1; clear hs1))
  go_ret
  exact ⟨⟨_, rfl⟩, HS1.out⟩
end Go.Proofs.YtjajpdghamecoaaGreat
/- The source of the draws: a new source. -/
namespace Go.Proofs.YtjajpdghamecoaaGreat
open Go.RowKit

theorem src_size {w : World} {q : Nat} {ao : Option Addr} {len cap : Nat} {k m z : Int} (h : Src w q ao len cap k m z) (z' : Int) : Src (w.setCell ⟨q, 3, none⟩ (.int .i64 z')) q ao len cap k m z' := by
  unfold Src; rw [heap_setS _ h]; rfl
theorem grown_new {w wr : World} (h : w.grownBy wr none) {q j : Nat} (hq : w.heap.size ≤ q) (v : Value) : w.grownBy (wr.setCell ⟨q, j, none⟩ v) none :=
  ⟨h.os, h.tape, h.output, by have := h.size; simpa [World.setCell] using this, fun k hk hne => by rw [Below.heap_setCell _ _ _ _ (show k ≠ q by omega)]; exact h.block k hk hne⟩
theorem good_new {w w' : World} {ao : Option Addr} {len cap : Nat} {m z : Int} (hS : Src w' w.heap.size ao len cap 0 m z) (hl : len ≤ 1048576) (hR : Row w w.heap.size ao len) (hg : w.grownBy w' none) : Good w' w.heap.size :=
  ⟨ao, len, cap, 0, m, z, by omega, by omega, hS, hR.same fun k hk => hg.block k hk (by simp)⟩

set_option maxRecDepth 100000 in
set_option maxHeartbeats 1000000 in
theorem l01Source_nil (ao : Option Addr) (cap : Nat) (w : World) :
    Calls Tryz.prog 41 #[.slice ao 0 cap] w fun e w' => e = .returned (.pointer (some ⟨w.heap.size, 0, none⟩)) ∧ Good w' w.heap.size ∧ w.grownBy w' none := by
  go_enter Tryz.func41, Tryz.ntmps41
  go_wp2
  go_loopw [4] (fun i wr => ∃ (k : Nat) (m : Int), i = .int .i64 k ∧ k ≤ 64 ∧ Src wr w.heap.size ao 0 cap 0 m 0 ∧ w.grownBy wr none) (fun i _ => 64 - (intOf i).toNat)
  case atStart => exact ⟨0, _, rfl, by omega, heap_alloc_new w _, World.grownBy_alloc _ _ _⟩
  case round =>
    obtain ⟨k, m, rfl, hk, hS, hG⟩ := hrel
    obtain ⟨⟨c0, c1, c2, c3⟩, ⟨f0, f1, f2, f3⟩⟩ := src_cells hS
    have HS := Lib.hid hS; have HG := Lib.hid hG; clear hS hG
    go_wp2
    go_ret
    have hg := grown_new (j := 3) HG.out (Nat.le_refl _) (.int .i64 0)
    exact ⟨rfl, good_new (src_size HS.out _) (by omega) (.inl rfl) hg, hg⟩

set_option maxRecDepth 100000 in
set_option maxHeartbeats 1000000 in
theorem l01Source_row (b off len cap : Nat) (w : World) (hR : Row w w.heap.size (some ⟨b, off, none⟩) len) (hb : b < w.heap.size) (hl : len ≤ 1048576) (hc : ∀ j, j < len → ∃ v : Int, w.cell? ⟨b, off + j, none⟩ = some (.int .u8 v) ∧ 0 ≤ v ∧ v ≤ 255) :
    Calls Tryz.prog 41 #[.slice (some ⟨b, off, none⟩) len cap] w fun e w' => e = .returned (.pointer (some ⟨w.heap.size, 0, none⟩)) ∧ Good w' w.heap.size ∧ w.grownBy w' none := by
  have HR := Lib.hid hR; clear hR
  have HC := Lib.hid hc; clear hc
  go_enter Tryz.func41, Tryz.ntmps41
  go_wp2
  go_loopw [4] (fun i wr => ∃ (k : Nat) (m : Int), i = .int .i64 k ∧ k ≤ 64 ∧ Src wr w.heap.size (some ⟨b, off, none⟩) len cap 0 m 0 ∧ w.grownBy wr none) (fun i _ => 64 - (intOf i).toNat)
  case atStart => exact ⟨0, _, rfl, by omega, heap_alloc_new w _, World.grownBy_alloc _ _ _⟩
  case round =>
    obtain ⟨k, m, rfl, hk, hS, hG⟩ := hrel
    obtain ⟨⟨c0, c1, c2, c3⟩, ⟨f0, f1, f2, f3⟩⟩ := src_cells hS
    have HS := Lib.hid hS; have HG := Lib.hid hG; clear hS hG
    by_cases h : k < len ∧ k < 64
    · obtain ⟨h1, h2⟩ := h
      obtain ⟨v, hv, hv0, hv1⟩ := HC.out k h1
      have hcv : wr.cell? ⟨b, off + k, none⟩ = some (.int .u8 v) := HG.out.cell hv (by simp)
      clear hv
      go_wp2
      go_region
      go_wp2
      go_roundw
      case rel => exact ⟨k + 1, _, by go_num, by omega, src_mix HS.out _, grown_drew (grown_new HG.out (Nat.le_refl _) _)⟩
      case measure => simp [intOf]; omega
    · have fin1 : ∀ Z : Int, w.grownBy (wr.setCell ⟨w.heap.size, 3, none⟩ (.int .i64 Z)) none ∧ Good (wr.setCell ⟨w.heap.size, 3, none⟩ (.int .i64 Z)) w.heap.size := fun Z =>
        ⟨grown_new HG.out (Nat.le_refl _) _, good_new (src_size HS.out _) hl HR.out (grown_new HG.out (Nat.le_refl _) _)⟩
      have fin2 : ∀ Z : Int, w.grownBy ((wr.setCell ⟨w.heap.size, 3, none⟩ (.int .i64 Z)).setCell ⟨w.heap.size, 3, none⟩ (.int .i64 12)) none ∧ Good ((wr.setCell ⟨w.heap.size, 3, none⟩ (.int .i64 Z)).setCell ⟨w.heap.size, 3, none⟩ (.int .i64 12)) w.heap.size := fun Z =>
        ⟨grown_new (grown_new HG.out (Nat.le_refl _) _) (Nat.le_refl _) _, good_new (src_size (src_size HS.out _) _) hl HR.out (grown_new (grown_new HG.out (Nat.le_refl _) _) (Nat.le_refl _) _)⟩
      have F1 := Lib.hid fin1; have F2 := Lib.hid fin2
      clear fin1 fin2 HS HG
      by_cases h1 : k < len
      · have h64 : ¬ k < 64 := fun g => h ⟨h1, g⟩
        clear h
        go_wp2
        all_goals
          go_ret
          first | exact ⟨rfl, (F1.out _).2, (F1.out _).1⟩ | exact ⟨rfl, (F2.out _).2, (F2.out _).1⟩
      · clear h
        go_wp2
        all_goals
          go_ret
          first | exact ⟨rfl, (F1.out _).2, (F1.out _).1⟩ | exact ⟨rfl, (F2.out _).2, (F2.out _).1⟩
theorem l01Source_any (ao : Option Addr) (len cap : Nat) (w : World) (hR : Row w w.heap.size ao len) (hl : len ≤ 1048576) :
    Calls Tryz.prog 41 #[.slice ao len cap] w fun e w' => e = .returned (.pointer (some ⟨w.heap.size, 0, none⟩)) ∧ Good w' w.heap.size ∧ w.grownBy w' none := by
  have hR' := hR
  rcases hR with rfl | ⟨b, off, rfl, hb, hc⟩
  · exact l01Source_nil ao cap w
  · exact l01Source_row b off len cap w hR' hb hl hc
end Go.Proofs.YtjajpdghamecoaaGreat
/- The draws of names: one of some texts. -/
namespace Go.Proofs.YtjajpdghamecoaaGreat
open Go.RowKit

theorem text_cell {w : World} {b : Nat} {C : Array Value} {T : TypeId} {fr : Nat × Nat} {l : List ByteArray} (hh : w.heap[b]? = some (.cells C T fr)) (hC : C = (l.map Value.string).toArray) (j : Nat) (hj : j < l.length) : w.cell? ⟨b, j, none⟩ = some (.string l[j]) := by
  unfold World.cell?
  rw [hh, hC]
  simp [hj]

/-- one of some texts -/
def OneOf (l : List ByteArray) (e : Ending) : Prop := ∃ t, t ∈ l ∧ e = .returned (.string t)

set_option maxRecDepth 100000 in
set_option maxHeartbeats 1000000 in
theorem pick_any (q b n : Nat) (l : List ByteArray) (C : Array Value) (T : TypeId) (fr : Nat × Nat) (w : World) (hg : Good w q) (hb : b ≠ q) (hh : w.heap[b]? = some (.cells C T fr)) (hC : C = (l.map Value.string).toArray) (hl : l.length = n) (hn : 1 < n) (hn2 : n ≤ 100) :
    Calls Tryz.prog 44 #[.pointer (some ⟨q, 0, none⟩), .slice (some ⟨b, 0, none⟩) n n] w fun e w' => OneOf l e ∧ Still q w w' := by
  have HG := Lib.hid hg; clear hg
  have HH := Lib.hid hh; clear hh
  have HC := Lib.hid hC; clear hC
  have HL := Lib.hid hl; clear hl
  go_enter Tryz.func44, Tryz.ntmps44
  go_wp2_with fail
  refine (n_any q n _ HG.out (by omega) (by omega)).mono ?_
  rintro e w1 ⟨⟨v, rfl, hv0, hv1⟩, hs1⟩
  obtain ⟨j, rfl⟩ := Int.eq_ofNat_of_zero_le hv0
  have hj : j < l.length := by have := HL.out; omega
  have hb' : b < w.heap.size := (Array.getElem?_eq_some_iff.1 HH.out).1
  have hc : w1.cell? ⟨b, j, none⟩ = some (.string l[j]) := text_cell ((hs1.2.block b hb' (fun e => hb (Option.some.inj e))).trans HH.out) HC.out j hj
  have HM := Lib.hid (List.getElem_mem hj)
  have HS1 := Lib.hid hs1
  clear hs1 hb'
  generalize l[j] = t at *
  go_wp2
  go_ret
  exact ⟨⟨_, HM.out, rfl⟩, HS1.out⟩
end Go.Proofs.YtjajpdghamecoaaGreat
/- The draw of a text to be normalized; a number out of a code. -/
namespace Go.Proofs.YtjajpdghamecoaaGreat
open Go.RowKit

theorem grown_fresh {w w1 w2 : World} {q : Nat} (h : w.grownBy w1 none) (g : w1.grownBy w2 (some q)) (hq : w.heap.size ≤ q) : w.grownBy w2 none :=
  ⟨g.os.trans h.os, g.tape.trans h.tape, g.output.trans h.output, Nat.le_trans h.size g.size, fun k hk _ => (g.block k (Nat.lt_of_lt_of_le hk h.size) (fun e => by have := Option.some.inj e; omega)).trans (h.block k hk (by simp))⟩
theorem grown_of_below {w w' : World} (h : Below w.heap.size w w') : w.grownBy w' none := ⟨h.os, h.tape, h.output, h.size, fun k hk _ => h.block k hk⟩
theorem below_of_grown {w w' : World} (h : w.grownBy w' none) : Below w.heap.size w w' := ⟨h.os, h.tape, h.output, h.size, fun k hk => h.block k hk (by simp)⟩
theorem Row.on {w w' : World} {ao : Option Addr} {len : Nat} (h : Row w w.heap.size ao len) (hg : w.grownBy w' none) : Row w' w'.heap.size ao len := by
  rcases h with h | ⟨b, off, h1, h2, h4⟩
  · exact .inl h
  · exact .inr ⟨b, off, h1, Nat.lt_of_lt_of_le h2 hg.size, fun j hj => by
      obtain ⟨v, hv, hv1⟩ := h4 j hj
      exact ⟨v, hg.cell hv (by simp), hv1⟩⟩
theorem Still.alloc {q : Nat} {w wr : World} (h : Still q w wr) (hq : q < w.heap.size) (C : Array Value) (T : TypeId) : Still q w (wr.alloc (.cells C T)) := h.later (g := none) (World.grownBy_alloc _ _ _) hq (fun k e => by cases e)

theorem zero_make (n : Nat) (hj : n ≤ 1000000) (W : World) :
    (Instr.makeSlice 22 (.int .i64 (n : Int)) (.int .i64 (n : Int))).run Tryz.prog W = .ok (.slice (some ⟨W.heap.size, 0, none⟩) n n) (W.alloc (.cells (madeCells #[.int .u8 0] n) 5)) :=
  run_make_row' (P := Tryz.prog) 22 5 (.int .u8 0) 1 Tryz.underlying22 Tryz.info5 rfl .i64 .i64 n (by omega) (by omega) W
theorem zero_at {W : World} {g n : Nat} (hh : W.heap[g]? = some (.cells (madeCells #[.int .u8 0] n) 5)) :
    (convert 22 9 (.slice (some ⟨g, 0, none⟩) n n)).run Tryz.prog W = .ok (.string ⟨(List.replicate n (0 : UInt8)).toArray⟩) W := by
  refine str22 _ ⟨g, 0, none⟩ n (List.replicate n 0) n (by simp) fun j hj => ?_
  rw [add_plain]
  unfold World.cell?
  rw [hh]
  simp at hj
  simp [madeCells, hj]
  rw [Nat.mod_one]; rfl
theorem zero_conv (n : Nat) (W : World) :
    (convert 22 9 (.slice (some ⟨W.heap.size, 0, none⟩) n n)).run Tryz.prog (W.alloc (.cells (madeCells #[.int .u8 0] n) 5)) = .ok (.string ⟨(List.replicate n (0 : UInt8)).toArray⟩) (W.alloc (.cells (madeCells #[.int .u8 0] n) 5)) := zero_at (heap_alloc_new W _)
theorem zero_conv_d (n : Nat) (W : World) :
    (convert 22 9 (.slice (some ⟨W.heap.size, 0, none⟩) n n)).run Tryz.prog (W.alloc (.cells (madeCells #[.int .u8 0] n) 5)).drew = .ok (.string ⟨(List.replicate n (0 : UInt8)).toArray⟩) (W.alloc (.cells (madeCells #[.int .u8 0] n) 5)).drew := by
  refine str22 _ ⟨W.heap.size, 0, none⟩ n (List.replicate n 0) n (by simp) fun j hj => ?_
  rw [add_plain]
  show (W.alloc (.cells (madeCells #[.int .u8 0] n) 5)).cell? _ = _
  rw [World.cell?_alloc_mark]
  simp at hj
  simp [madeCells, hj]
  rw [Nat.mod_one]; rfl
theorem zero_conv_o (n : Nat) (W : World) (C : Array Value) :
    (convert 22 9 (.slice (some ⟨W.heap.size, 0, none⟩) n n)).run Tryz.prog ((W.alloc (.cells (madeCells #[.int .u8 0] n) 5)).alloc (.cells C 9)) = .ok (.string ⟨(List.replicate n (0 : UInt8)).toArray⟩) ((W.alloc (.cells (madeCells #[.int .u8 0] n) 5)).alloc (.cells C 9)) := zero_at ((heap_alloc_old _ _ (r := W.heap.size) (by simp)).trans (heap_alloc_new W _))
theorem zero_conv_od (n : Nat) (W : World) (C : Array Value) :
    (convert 22 9 (.slice (some ⟨W.heap.size, 0, none⟩) n n)).run Tryz.prog ((W.alloc (.cells (madeCells #[.int .u8 0] n) 5)).alloc (.cells C 9)).drew = .ok (.string ⟨(List.replicate n (0 : UInt8)).toArray⟩) ((W.alloc (.cells (madeCells #[.int .u8 0] n) 5)).alloc (.cells C 9)).drew := zero_at (W := ((W.alloc (.cells (madeCells #[.int .u8 0] n) 5)).alloc (.cells C 9)).drew) ((heap_alloc_old _ _ (r := W.heap.size) (by simp)).trans (heap_alloc_new W _))
/-- behind a draw the zeros are as they were -/
theorem zero_after {q g n : Nat} {W W' : World} (hs : Still q W W') (hg : g ≠ q) (hh : W.heap[g]? = some (.cells (madeCells #[.int .u8 0] n) 5)) :
    (convert 22 9 (.slice (some ⟨g, 0, none⟩) n n)).run Tryz.prog W' = .ok (.string ⟨(List.replicate n (0 : UInt8)).toArray⟩) W' ∧ (convert 22 9 (.slice (some ⟨g, 0, none⟩) n n)).run Tryz.prog W'.drew = .ok (.string ⟨(List.replicate n (0 : UInt8)).toArray⟩) W'.drew :=
  have h : W'.heap[g]? = some (.cells (madeCells #[.int .u8 0] n) 5) := (hs.2.block g (Array.getElem?_eq_some_iff.1 hh).1 (fun e => hg (Option.some.inj e))).trans hh
  ⟨zero_at h, zero_at (W := W'.drew) h⟩
theorem Still.drew {q : Nat} {w wr : World} (h : Still q w wr) : Still q w wr.drew := ⟨h.1.same fun _ _ => rfl, grown_drew h.2⟩
theorem pick_from (q b n : Nat) (l : List ByteArray) (C : Array Value) (T : TypeId) (fr : Nat × Nat) (w0 W : World) (hs : Still q w0 W) (hb : b ≠ q) (hh : W.heap[b]? = some (.cells C T fr)) (hC : C = (l.map Value.string).toArray) (hl : l.length = n) (hn : 1 < n) (hn2 : n ≤ 100) :
    Calls Tryz.prog 44 #[.pointer (some ⟨q, 0, none⟩), .slice (some ⟨b, 0, none⟩) n n] W fun e w' => OneOf l e ∧ Still q w0 w' :=
  (pick_any q b n l C T fr W hs.1 hb hh hC hl hn hn2).mono fun _ _ h => ⟨h.1, hs.trans h.2⟩
theorem pick_both (q b n : Nat) (l : List ByteArray) (C : Array Value) (T : TypeId) (fr : Nat × Nat) (w0 W : World) (hs : Still q w0 W) (hb : b ≠ q) (hh : W.heap[b]? = some (.cells C T fr)) (hC : C = (l.map Value.string).toArray) (hl : l.length = n) (hn : 1 < n) (hn2 : n ≤ 100) :
    Calls Tryz.prog 44 #[.pointer (some ⟨q, 0, none⟩), .slice (some ⟨b, 0, none⟩) n n] W fun e w' => OneOf l e ∧ Still q w0 w' ∧ Still q W w' :=
  (pick_any q b n l C T fr W hs.1 hb hh hC hl hn hn2).mono fun _ _ h => ⟨h.1, hs.trans h.2, h.2⟩
theorem size_up (W : World) (o : Obj) : (W.alloc o).heap.size = W.heap.size + 1 := Array.size_push ..
theorem look_new (W : World) (o : Obj) (b : Nat) (hb : b = W.heap.size) : (W.alloc o).heap[b]? = some o := by subst hb; exact heap_alloc_new W o
theorem look_old (W : World) (o : Obj) (b : Nat) (x : Obj) (h : W.heap[b]? = some x) : (W.alloc o).heap[b]? = some x := (heap_alloc_old W o (r := b) (Array.getElem?_eq_some_iff.1 h).1).trans h
theorem zero_next {q g n : Nat} {W W' : World} (hs : Still q W W') (hg : g ≠ q) (hh : W.heap[g]? = some (.cells (madeCells #[.int .u8 0] n) 5)) :
    (convert 22 9 (.slice (some ⟨g, 0, none⟩) n n)).run Tryz.prog W' = .ok (.string ⟨(List.replicate n (0 : UInt8)).toArray⟩) W' := (zero_after hs hg hh).1
theorem drew_heap (W : World) : W.drew.heap = W.heap := rfl
theorem look_z1 (W : World) (o : Obj) : (W.alloc o).heap[W.heap.size]? = some o := heap_alloc_new W o
theorem look_z2 (W : World) (o x : Obj) : ((W.alloc o).alloc x).heap[W.heap.size]? = some o := look_old _ x _ o (heap_alloc_new W o)
theorem look_z3 (W : World) (o x : Obj) : ((W.alloc x).alloc o).heap[W.heap.size + 1]? = some o := look_new _ o _ (size_up W x).symm
/-- some string of at most n bytes -/
def TextTo (n : Nat) (e : Ending) : Prop := ∃ t : ByteArray, e = .returned (.string t) ∧ t.size ≤ n


end Go.Proofs.YtjajpdghamecoaaGreat
/- A slice of bytes, as a law's argument is opened. -/
namespace Go.Proofs.YtjajpdghamecoaaGreat
open Go.RowKit
def IsRow (k : IntKind) (w : World) (a : Option Addr) (len cap : Nat) (zs : List Int) : Prop :=
  (a = none ∧ len = 0 ∧ cap = 0 ∧ zs = []) ∨
  ∃ x, a = some x ∧ len ≤ cap ∧ cap ≤ maxLen ∧ zs.length = cap ∧ (∀ i, i < zs.length → w.cell? (x.add i) = some (.int k (zs.getD i 0))) ∧ ∀ n ∈ zs, (Lit.int k n).wf = true
theorem IsRow.row {w : World} {a : Option Addr} {len cap : Nat} {zs : List Int} (h : IsRow .u8 w a len cap zs) : Row w w.heap.size a len := by
  rcases h with ⟨_, h, _, _⟩ | ⟨x, rfl, hl, hm, hz, hc, hw⟩
  · exact .inl h
  · by_cases h0 : len = 0
    · exact .inl h0
    · obtain ⟨b, off, rfl, hcell⟩ := ints_at hc (by omega)
      refine .inr ⟨b, off, rfl, ?_, fun j hj => ⟨_, hcell j (by omega), ?_⟩⟩
      · have h1 := hcell 0 (by omega)
        rcases Nat.lt_or_ge b w.heap.size with h | h
        · exact h
        · simp [World.cell?, Array.getElem?_eq_none h] at h1
      · have := bounds_u8 (hw (zs.getD j 0) (by
          rw [List.getD_eq_getElem?_getD, List.getElem?_eq_getElem (by omega)]
          exact List.getElem_mem _))
        exact this
theorem IsRow.bound {w : World} {a : Option Addr} {len cap : Nat} {zs : List Int} (h : IsRow .u8 w a len cap zs) : len ≤ 9223372036854775807 := by
  rcases h with ⟨_, h, _, _⟩ | ⟨x, _, hl, hm, _⟩
  · omega
  · unfold maxLen at hm; omega
end Go.Proofs.YtjajpdghamecoaaGreat
/- Reading names: the plain mathematics. -/
namespace Go.Proofs.YtjajpdghamecoaaGreat
open Go.RowKit

/-- where a pair ends -/
def endF : Bool → List UInt8 → Nat
  | _, [] => 0
  | b, c :: l => if c = 44 ∧ b = false then 0 else 1 + endF ((c == 92) && !b) l
/-- a value without its backslashes -/
def unescF : Bool → List UInt8 → List UInt8
  | _, [] => []
  | b, c :: l => if ((c == 92) && !b) = true then unescF true l else c :: unescF false l
theorem endF_le (b : Bool) (l : List UInt8) : endF b l ≤ l.length := by
  induction l generalizing b with
  | nil => simp [endF]
  | cons c l ih =>
    unfold endF
    split
    · simp
    · have := ih ((c == 92) && !b)
      rw [List.length_cons]; omega
def toS (l : List UInt8) : ByteArray := ⟨l.toArray⟩
theorem toS_list (l : List UInt8) : (toS l).data.toList = l := by simp [toS]
theorem toS_self (s : ByteArray) : toS s.data.toList = s := by simp [toS]
/-- a pair out of its text -/
def rdn1 (l : List UInt8) : ByteArray × ByteArray := (toS (l.takeWhile (· != 61)), toS (unescF false ((l.dropWhile (· != 61)).drop 1)))
def scanN : Nat → List UInt8 → RdnL
  | 0, _ => []
  | _ + 1, [] => []
  | n + 1, c :: l => rdn1 ((c :: l).take (endF false (c :: l))) :: scanN n ((c :: l).drop (endF false (c :: l) + 1))
def scanL (l : List UInt8) : RdnL := scanN l.length l
theorem scanN_more (n m : Nat) (l : List UInt8) (hn : l.length ≤ n) (hm : l.length ≤ m) : scanN n l = scanN m l := by
  induction n generalizing m l with
  | zero =>
    have : l = [] := List.eq_nil_of_length_eq_zero (by omega)
    subst this
    cases m <;> rfl
  | succ n ih =>
    cases l with
    | nil => cases m <;> rfl
    | cons c l =>
      cases m with
      | zero => simp at hm
      | succ m =>
        unfold scanN
        rw [ih m _ (by rw [List.length_drop, List.length_cons] at *; omega) (by rw [List.length_drop, List.length_cons] at *; omega)]
theorem scanL_nil : scanL [] = [] := rfl
theorem scanL_cons {l : List UInt8} (h : l ≠ []) : scanL l = rdn1 (l.take (endF false l)) :: scanL (l.drop (endF false l + 1)) := by
  cases l with
  | nil => exact absurd rfl h
  | cons c l =>
    show scanN (l.length + 1) (c :: l) = _
    unfold scanN scanL
    rw [scanN_more l.length _ _ (by rw [List.length_drop, List.length_cons]; omega) (Nat.le_refl _)]
theorem scanL_len (l : List UInt8) : (scanL l).length ≤ l.length := by
  have : ∀ n (l : List UInt8), (scanN n l).length ≤ n := by
    intro n
    induction n with
    | zero => intro l; simp [scanN]
    | succ n ih =>
      intro l
      cases l with
      | nil => simp [scanN]
      | cons c l => simp only [scanN, List.length_cons]; have := ih ((c :: l).drop (endF false (c :: l) + 1)); omega
  exact this _ _

/-- the parts of a text -/
def cutF : List UInt8 → List UInt8 → List (List UInt8)
  | b, [] => [b]
  | b, [c] => if c = 44 then [b, []] else [b ++ [c]]
  | b, c :: d :: l => if c = 92 then cutF (b ++ [c, d]) l else if c = 44 then b :: cutF [] (d :: l) else cutF (b ++ [c]) (d :: l)
theorem cutF_nil (b : List UInt8) : cutF b [] = [b] := by rw [cutF]
theorem cutF_one (b : List UInt8) (c : UInt8) : cutF b [c] = if c = 44 then [b, []] else [b ++ [c]] := by rw [cutF]
theorem cutF_two (b : List UInt8) (c d : UInt8) (l : List UInt8) : cutF b (c :: d :: l) = if c = 92 then cutF (b ++ [c, d]) l else if c = 44 then b :: cutF [] (d :: l) else cutF (b ++ [c]) (d :: l) := by rw [cutF]
def unesc2 : List UInt8 → List UInt8
  | [] => []
  | [c] => [c]
  | c :: d :: l => if c = 92 then d :: unesc2 l else c :: unesc2 (d :: l)
def rdn2 (l : List UInt8) : ByteArray × ByteArray := if 61 ∈ l then (toS (l.takeWhile (· != 61)), toS (unesc2 ((l.dropWhile (· != 61)).drop 1))) else (toS [], toS [])

/-- bytes, each with a backslash or not -/
def encI (x : List (Bool × UInt8)) : List UInt8 := x.flatMap fun p => if p.1 = true then [92, p.2] else [p.2]
def OkI (x : List (Bool × UInt8)) : Prop := ∀ p ∈ x, p.1 = false → p.2 ≠ 92 ∧ p.2 ≠ 44
theorem encI_cons (p : Bool × UInt8) (x : List (Bool × UInt8)) : encI (p :: x) = (if p.1 = true then [92, p.2] else [p.2]) ++ encI x := by unfold encI; simp
theorem encI_append (x y : List (Bool × UInt8)) : encI (x ++ y) = encI x ++ encI y := by unfold encI; simp
theorem OkI.tail {p : Bool × UInt8} {x : List (Bool × UInt8)} (h : OkI (p :: x)) : OkI x := fun q hq => h q (List.mem_cons_of_mem _ hq)
theorem endF_enc (x : List (Bool × UInt8)) (h : OkI x) (t : List UInt8) : endF false (encI x ++ t) = (encI x).length + endF false t := by
  induction x with
  | nil => simp [encI]
  | cons p x ih =>
    obtain ⟨b, c⟩ := p
    have ih := ih h.tail
    rw [encI_cons]
    cases b
    · have hp := h (false, c) (List.mem_cons_self ..) rfl
      simp only [Bool.false_eq_true, if_false, List.cons_append, List.nil_append, List.append_assoc]
      have e1 : endF false (c :: (encI x ++ t)) = 1 + endF ((c == 92) && !false) (encI x ++ t) := by rw [endF, if_neg (fun hh => hp.2 hh.1)]
      have : ((c == 92) && !false) = false := by simp [hp.1]
      rw [e1, this, ih, List.length_cons]; omega
    · simp only [if_true, List.cons_append, List.nil_append, List.append_assoc]
      have e1 : endF false (92 :: c :: (encI x ++ t)) = 1 + endF true (c :: (encI x ++ t)) := by
        rw [endF, if_neg (by simp)]; rfl
      have e2 : endF true (c :: (encI x ++ t)) = 1 + endF false (encI x ++ t) := by
        rw [endF, if_neg (by simp)]; simp
      rw [e1, e2, ih, List.length_cons, List.length_cons]; omega
theorem unescF_enc (x : List (Bool × UInt8)) (h : OkI x) (t : List UInt8) : unescF false (encI x ++ t) = x.map (·.2) ++ unescF false t := by
  induction x with
  | nil => simp [encI]
  | cons p x ih =>
    obtain ⟨b, c⟩ := p
    have ih := ih h.tail
    rw [encI_cons]
    cases b
    · have hp := h (false, c) (List.mem_cons_self ..) rfl
      simp only [Bool.false_eq_true, if_false, List.cons_append, List.nil_append, List.append_assoc, List.map_cons]
      rw [unescF, if_neg (by simp [hp.1]), ih]
    · simp only [if_true, List.cons_append, List.nil_append, List.append_assoc, List.map_cons]
      rw [unescF, if_pos (by simp), unescF, if_neg (by simp), ih]
theorem unesc2_enc (x : List (Bool × UInt8)) (h : OkI x) : unesc2 (encI x) = x.map (·.2) := by
  induction x with
  | nil => simp [encI, unesc2]
  | cons p x ih =>
    obtain ⟨b, c⟩ := p
    have ih := ih h.tail
    rw [encI_cons]
    cases b
    · have hp := h (false, c) (List.mem_cons_self ..) rfl
      simp only [Bool.false_eq_true, if_false, List.cons_append, List.nil_append, List.map_cons]
      rcases he : encI x with _ | ⟨d, l⟩
      · rw [he] at ih; simp only [unesc2] at ih ⊢; rw [← ih]
      · rw [unesc2, if_neg hp.1, ← he, ih]
    · simp only [if_true, List.cons_append, List.nil_append, List.map_cons]
      rw [unesc2, if_pos rfl, ih]
theorem cutF_enc (x : List (Bool × UInt8)) (h : OkI x) (b t : List UInt8) : cutF b (encI x ++ t) = cutF (b ++ encI x) t := by
  induction x generalizing b with
  | nil => simp [encI]
  | cons p x ih =>
    obtain ⟨q, c⟩ := p
    have ih := ih h.tail
    rw [encI_cons]
    cases q
    · have hp := h (false, c) (List.mem_cons_self ..) rfl
      simp only [Bool.false_eq_true, if_false, List.cons_append, List.nil_append, List.append_assoc]
      have e : cutF b (c :: (encI x ++ t)) = cutF (b ++ [c]) (encI x ++ t) := by
        rcases he : encI x ++ t with _ | ⟨d, l⟩
        · rw [cutF_one, if_neg hp.2, cutF_nil]
        · rw [cutF_two, if_neg hp.1, if_neg hp.2]
      rw [e, ih]; simp
    · simp only [if_true, List.cons_append, List.nil_append, List.append_assoc]
      rw [cutF_two, if_pos rfl, ih]; simp

/-- the bytes of a value, with its backslashes -/
def valI (l : List UInt8) : List (Bool × UInt8) := (List.range l.length).map fun i => (oddI ((l.getD i 0).toNat : Int) i l.length, l.getD i 0)
theorem valI_enc (l : List UInt8) : encI (valI l) = escL l := by
  unfold encI valI escL escTo
  rw [List.flatMap_map]
theorem valI_snd (l : List UInt8) : (valI l).map (·.2) = l := by
  unfold valI
  rw [List.map_map]
  apply List.ext_getElem?
  intro i
  rw [List.getElem?_map]
  rcases Nat.lt_or_ge i l.length with h | h
  · rw [List.getElem?_range h, List.getElem?_eq_getElem h]; simp [h]
  · rw [List.getElem?_eq_none (by simpa using h), List.getElem?_eq_none h]; rfl
theorem odd_no {c : UInt8} {i n : Nat} (h : oddI (c.toNat : Int) i n = false) : c ≠ 92 ∧ c ≠ 44 := by
  unfold oddI at h
  simp only [Bool.or_eq_false_iff] at h
  obtain ⟨⟨⟨⟨⟨⟨⟨⟨⟨h44, h43⟩, h34⟩, h92⟩, h60⟩, h62⟩, h59⟩, h61⟩, h35⟩, h32⟩ := h
  constructor
  · intro e; subst e; revert h92; decide
  · intro e; subst e; revert h44; decide
theorem valI_ok (l : List UInt8) : OkI (valI l) := by
  intro p hp h
  unfold valI at hp
  obtain ⟨i, _, rfl⟩ := List.mem_map.1 hp
  exact odd_no h
/-- the bytes of a pair -/
def rdnI (r : ByteArray × ByteArray) : List (Bool × UInt8) := (r.1.data.toList ++ [61]).map (fun c => (false, c)) ++ valI r.2.data.toList
theorem encI_plain (l : List UInt8) : encI (l.map (fun c => (false, c))) = l := by
  induction l with
  | nil => rfl
  | cons c l ih => rw [List.map_cons, encI_cons, ih]; rfl
theorem rdnI_enc (r : ByteArray × ByteArray) : encI (rdnI r) = (rdnS r).data.toList := by
  unfold rdnI rdnS
  rw [encI_append, encI_plain, valI_enc]
  simp [escS]
theorem name_bytes {s : ByteArray} (h : nmL s = true) : ∀ c ∈ s.data.toList, c ≠ 92 ∧ c ≠ 44 ∧ c ≠ 61 := by
  have h1 : allB s.data.toList = true := by unfold nmL at h; simp at h; exact h.2
  unfold allB at h1
  rw [List.all_eq_true] at h1
  intro c hc
  have := h1 c hc
  refine ⟨?_, ?_, ?_⟩ <;> (intro e; subst e; revert this; decide)
theorem rdnI_ok {r : ByteArray × ByteArray} (h : rdnB r = true) : OkI (rdnI r) := by
  unfold rdnB at h
  simp only [Bool.and_eq_true] at h
  intro p hp hf
  unfold rdnI at hp
  rw [List.mem_append] at hp
  rcases hp with hp | hp
  · obtain ⟨c, hc, rfl⟩ := List.mem_map.1 hp
    rw [List.mem_append] at hc
    rcases hc with hc | hc
    · have := name_bytes h.1 c hc; exact ⟨this.1, this.2.1⟩
    · simp at hc; subst hc; decide
  · exact valI_ok _ p hp hf
theorem takeWhile_name {l t : List UInt8} (h : ∀ c ∈ l, c ≠ 61) : (l ++ 61 :: t).takeWhile (· != 61) = l ∧ (l ++ 61 :: t).dropWhile (· != 61) = 61 :: t := by
  induction l with
  | nil => simp
  | cons c l ih =>
    have hc := h c (List.mem_cons_self ..)
    have ih := ih (fun x hx => h x (List.mem_cons_of_mem _ hx))
    have hb : (c != 61) = true := by simpa using hc
    rw [List.cons_append, List.takeWhile_cons, List.dropWhile_cons, hb]
    exact ⟨by rw [if_pos rfl, ih.1], by rw [if_pos rfl, ih.2]⟩
theorem rdn_list (r : ByteArray × ByteArray) : (rdnS r).data.toList = r.1.data.toList ++ 61 :: escL r.2.data.toList := by unfold rdnS; simp [escS]
theorem rdn1_text {r : ByteArray × ByteArray} (h : rdnB r = true) : rdn1 (rdnS r).data.toList = r := by
  have hn : nmL r.1 = true := by unfold rdnB at h; simp only [Bool.and_eq_true] at h; exact h.1
  obtain ⟨h1, h2⟩ := takeWhile_name (l := r.1.data.toList) (t := escL r.2.data.toList) (fun c hc => (name_bytes hn c hc).2.2)
  unfold rdn1
  rw [rdn_list, h1, h2, List.drop_succ_cons, List.drop_zero, ← valI_enc]
  have := unescF_enc (valI r.2.data.toList) (valI_ok _) []
  rw [List.append_nil, valI_snd] at this
  rw [this]
  simp [unescF, toS_self]
theorem rdn2_text {r : ByteArray × ByteArray} (h : rdnB r = true) : rdn2 (rdnS r).data.toList = r := by
  have hn : nmL r.1 = true := by unfold rdnB at h; simp only [Bool.and_eq_true] at h; exact h.1
  obtain ⟨h1, h2⟩ := takeWhile_name (l := r.1.data.toList) (t := escL r.2.data.toList) (fun c hc => (name_bytes hn c hc).2.2)
  unfold rdn2
  rw [rdn_list, if_pos (by simp), h1, h2, List.drop_succ_cons, List.drop_zero, ← valI_enc, unesc2_enc _ (valI_ok _), valI_snd, toS_self, toS_self]
theorem text_cons (r : ByteArray × ByteArray) (d : RdnL) : textL (r :: d) = (rdnS r).data.toList ++ (if d = [] then [] else 44 :: textL d) := by
  unfold textL
  rw [List.map_cons, Lib.join_cons]
  cases d with
  | nil => simp [Lib.joinTail]
  | cons s d => rw [if_neg (by simp), List.map_cons, Lib.join_cons]; simp [Lib.joinTail]
theorem rdn_ne (r : ByteArray × ByteArray) : (rdnS r).data.toList ≠ [] := by rw [rdn_list]; simp
/-- a name is got back from its text -/
theorem scan_text (d : RdnL) (h : d.all rdnB = true) : scanL (textL d) = d := by
  induction d with
  | nil => rfl
  | cons r d ih =>
    rw [List.all_cons, Bool.and_eq_true] at h
    have ih := ih h.2
    have hne : textL (r :: d) ≠ [] := by rw [text_cons]; intro e; exact rdn_ne r (List.append_eq_nil_iff.1 e).1
    have he : endF false (textL (r :: d)) = (rdnS r).data.toList.length := by
      rw [text_cons, ← rdnI_enc, endF_enc _ (rdnI_ok h.1)]
      split
      · simp [endF]
      · simp [endF]
    rw [scanL_cons hne, he, text_cons, List.take_left, rdn1_text h.1]
    by_cases hd : d = []
    · subst hd
      rw [if_pos rfl, List.append_nil, List.drop_eq_nil_of_le (by omega), scanL_nil]
    · rw [if_neg hd, List.drop_append, List.drop_eq_nil_of_le (by omega), List.nil_append, show (rdnS r).data.toList.length + 1 - (rdnS r).data.toList.length = 1 by omega, List.drop_succ_cons, List.drop_zero, ih]
theorem cut_text (d : RdnL) (h : d.all rdnB = true) (hne : d ≠ []) : (cutF [] (textL d)).map rdn2 = d := by
  induction d with
  | nil => exact absurd rfl hne
  | cons r d ih =>
    rw [List.all_cons, Bool.and_eq_true] at h
    rw [text_cons, ← rdnI_enc, cutF_enc _ (rdnI_ok h.1), List.nil_append]
    by_cases hd : d = []
    · subst hd
      rw [if_pos rfl, cutF_nil, List.map_singleton, rdnI_enc, rdn2_text h.1]
    · rw [if_neg hd]
      have ih := ih h.2 hd
      have e : cutF (encI (rdnI r)) (44 :: textL d) = encI (rdnI r) :: cutF [] (textL d) := by
        rcases ht : textL d with _ | ⟨c, l⟩
        · rw [cutF_one, if_pos rfl, cutF_nil]
        · rw [cutF_two, if_neg (by decide), if_pos rfl]
      rw [e, List.map_cons, ih, rdnI_enc, rdn2_text h.1]
end Go.Proofs.YtjajpdghamecoaaGreat
/- Reading names: what the small functions of the program return. -/
namespace Go.Proofs.YtjajpdghamecoaaGreat
open Go.RowKit

theorem drop_at (s : ByteArray) (k : Nat) (h : k < s.size) : s.data.toList.drop k = s[k] :: s.data.toList.drop (k + 1) := by
  rw [List.drop_eq_getElem_cons (by simpa using h)]; rfl
theorem ret_num {k : IntKind} {a b : Nat} (h : a = b) : Ending.returned (.int k (a : Int)) = .returned (.int k (b : Int)) := by rw [h]
theorem u8_ne {c : UInt8} {n : Nat} (h : ¬ (c.toNat : Int) = n) : c ≠ UInt8.ofNat n ∨ 256 ≤ n := by
  by_cases hn : 256 ≤ n
  · exact .inr hn
  · left; intro e; subst e; apply h; simp; omega
theorem endF_stop {c : UInt8} {l : List UInt8} (h : c = 44) : endF false (c :: l) = 0 := by rw [endF, if_pos ⟨h, rfl⟩]
theorem endF_go {b : Bool} {c : UInt8} {l : List UInt8} (h : ¬ (c = 44 ∧ b = false)) : endF b (c :: l) = 1 + endF ((c == 92) && !b) l := by rw [endF, if_neg h]
def EndAt (s : ByteArray) (b : Bool) (k : Nat) : Prop := endF false s.data.toList = k + endF b (s.data.toList.drop k)
theorem EndAt.step {s : ByteArray} {b : Bool} {k : Nat} (h : EndAt s b k) (hk : k < s.size) (hc : ¬ (s[k] = 44 ∧ b = false)) (b' : Bool) (hb : b' = ((s[k] == 92) && !b)) : EndAt s b' (k + 1) := by
  unfold EndAt at h ⊢
  rw [h, drop_at s k hk, endF_go hc, ← hb]; omega
theorem unescF_skip {c : UInt8} {l : List UInt8} (h : c = 92) : unescF false (c :: l) = unescF true l := by rw [unescF, if_pos (by simp [h])]
theorem unescF_add {b : Bool} {c : UInt8} {l : List UInt8} (h : ¬ (c = 92 ∧ b = false)) : unescF b (c :: l) = c :: unescF false l := by
  rw [unescF, if_neg]
  intro e; apply h; simpa using e
def UnAt (s : ByteArray) (pre : List UInt8) (b : Bool) (k : Nat) : Prop := unescF false s.data.toList = pre ++ unescF b (s.data.toList.drop k) ∧ pre.length ≤ k
theorem idx (l : List UInt8) : (Lib.indexByte l 61 = -1 ∧ l.takeWhile (· != 61) = l ∧ l.dropWhile (· != 61) = []) ∨
    ∃ k : Nat, k < l.length ∧ Lib.indexByte l 61 = (k : Int) ∧ l.take k = l.takeWhile (· != 61) ∧ l.drop k = l.dropWhile (· != 61) := by
  induction l with
  | nil => left; exact ⟨rfl, rfl, rfl⟩
  | cons c l ih =>
    by_cases hc : c = 61
    · right; subst hc; exact ⟨0, by simp, by simp [Lib.indexByte], by simp, by simp⟩
    · have hb : (c != 61) = true := by simpa using hc
      have hb' : (c == 61) = false := by simpa using hc
      rcases ih with ⟨h1, h2, h3⟩ | ⟨k, h1, h2, h3, h4⟩
      · left
        refine ⟨by rw [Lib.indexByte, hb', h1]; rfl, ?_, ?_⟩
        · rw [List.takeWhile_cons, hb, if_pos rfl, h2]
        · rw [List.dropWhile_cons, hb, if_pos rfl, h3]
      · right
        refine ⟨k + 1, by simp; omega, ?_, ?_, ?_⟩
        · rw [Lib.indexByte, hb', h2]
          have : ((k : Int) == -1) = false := by rw [beq_eq_false_iff_ne]; omega
          rw [this]; simp
        · rw [List.takeWhile_cons, hb, if_pos rfl, List.take_succ_cons, h3]
        · rw [List.dropWhile_cons, hb, if_pos rfl, List.drop_succ_cons, h4]
end Go.Proofs.YtjajpdghamecoaaGreat
/- Reading names: scanDn of the program. -/
namespace Go.Proofs.YtjajpdghamecoaaGreat
open Go.RowKit

def att (l : List UInt8) : List UInt8 := l.takeWhile (· != 61)
def vlu (l : List UInt8) : List UInt8 := (l.dropWhile (· != 61)).drop 1
def CutAt (s : ByteArray) (e : Ending) : Prop := ∃ b : Bool, e = .returned (.tuple #[.string (toS (att s.data.toList)), .string (toS (vlu s.data.toList)), .bool b])
theorem ext_take (s : ByteArray) (k : Nat) : s.extract 0 k = toS (s.data.toList.take k) := by
  apply ByteArray.ext; apply Array.toList_inj.1; rw [extract_list]; simp [toS]
theorem ext_drop (s : ByteArray) (k : Nat) : s.extract k s.size = toS (s.data.toList.drop k) := by
  apply ByteArray.ext; apply Array.toList_inj.1; rw [extract_list, List.take_of_length_le (by simp)]; simp [toS]
theorem below_drewN (w : World) (n : Nat) : Below w.heap.size w (w.drewN n) := ⟨rfl, rfl, rfl, Nat.le_refl _, fun _ _ => rfl⟩
end Go.Proofs.YtjajpdghamecoaaGreat
/- Reading names: scanDn of the program. -/
namespace Go.Proofs.YtjajpdghamecoaaGreat
open Go.RowKit

def strOf : Value → ByteArray
  | .string s => s
  | _ => ByteArray.empty
theorem takeWhile_len (l : List UInt8) : (att l).length ≤ l.length := by unfold att; exact (List.takeWhile_sublist _).length_le
theorem vlu_len (l : List UInt8) : (vlu l).length ≤ l.length := by
  unfold vlu
  rw [List.length_drop]
  have : (l.dropWhile (· != 61)).length ≤ l.length := (List.dropWhile_sublist _).length_le
  omega
theorem toS_size (l : List UInt8) : (toS l).size = l.length := by rw [← size_len, toS_list]
theorem scan_step (s : ByteArray) (h : 0 < s.size) : scanL s.data.toList = [rdn1 (s.data.toList.take (endF false s.data.toList))] ++ scanL (s.data.toList.drop (endF false s.data.toList + 1)) := by
  rw [scanL_cons (by intro e; have := size_len s; rw [e] at this; simp at this; omega)]; rfl
end Go.Proofs.YtjajpdghamecoaaGreat
