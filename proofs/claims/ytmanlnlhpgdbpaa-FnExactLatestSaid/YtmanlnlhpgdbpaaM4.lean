/- Merged texts: Key3, Under, Parent, Law1, Law2, EntMath, CcI, Br, Mark, Mark2, CpT, JoinRF, Own7, CpAttr, toString, toAttr. -/
import Derived.Test.YtmanlnlhpgdbpaaM3
import Derived.Laws.AppendOwnNone
import Derived.Test.YtmanlnlhpgdbpaaM1
import Derived.Laws.MakeOwn
import Derived.Test.YtmanlnlhpgdbpaaM2
/- Keys of names, and what is under what: what the texts return. -/
namespace Go.Proofs.Ytmanlnlhpgdbpaa
open Go.RowKit
attribute [local go_sem ↓] Go.wp_at_zero Go.wp_at_succ

theorem SpecNorm_from (w0 : World) (v : ByteArray) (w : World) (hv : v.size ≤ maxLen) (hB : Below w0.heap.size w0 w) :
    Calls Try.prog 95 #[.string v] w fun e w' => e = .returned (.string (normS v)) ∧ Below w0.heap.size w0 w' :=
  (SpecNorm_any v w hv).mono fun _ _ ⟨he, hb⟩ => ⟨he, hB.trans (hb.mono hB.size)⟩
theorem keyS_drop (d : RdnL) (k : Nat) (h : k < d.length) : keyS (d.drop k) = keyS (d.drop (k + 1)) ++ ⟨#[1]⟩ ++ d[k].1 ++ ⟨#[61]⟩ ++ normS d[k].2 := by
  unfold keyS
  rw [keyL_drop d k h]
  apply ByteArray.ext
  simp [rkL, normS]
theorem keyS_take (d : RdnL) (k : Nat) (h : k < d.length) : keyS (d.take (k + 1)) = ⟨#[1]⟩ ++ d[k].1 ++ ⟨#[61]⟩ ++ normS d[k].2 ++ keyS (d.take k) := by
  unfold keyS
  rw [keyL_take d k h]
  apply ByteArray.ext
  simp [rkL, normS]

set_option maxRecDepth 100000 in
set_option maxHeartbeats 1000000 in
theorem l02Key_any (ao : Option Addr) (d : RdnL) (cap : Nat) (w : World) (hd : DnAt w ao d) (hf : Fits d) (h6 : d.length ≤ 6) :
    Calls Try.prog 114 #[.slice ao d.length cap] w fun e w' => e = .returned (.string (keyS d)) ∧ Below w.heap.size w w' := by
  have HD := Lib.hid hd; have HF := Lib.hid hf; clear hd hf
  go_enter Try.func114, Try.ntmps114
  go_wp2
  go_loopw [3, 4] (fun t i wr => ∃ k : Nat, k ≤ d.length ∧ i = .int .i64 ((k : Int) - 1) ∧ t = .string (keyS (d.drop k)) ∧ Below w.heap.size w wr) (fun _ i _ => (intOf i + 1).toNat)
  case atStart => exact ⟨d.length, Nat.le_refl _, rfl, by rw [List.drop_length]; rfl, Below.refl _ _⟩
  case round =>
    obtain ⟨k1, hk, rfl, rfl, hbel⟩ := hrel
    have hsz := hbel.size
    have hts := keyS_small (d.drop k1) (HF.out.drop k1) (by rw [List.length_drop]; omega)
    by_cases h0 : k1 = 0
    · subst h0
      rw [show ((0 : Nat) : Int) - 1 = -1 by rfl, List.drop_zero]
      go_wp2
      go_ret
      exact ⟨rfl, hbel⟩
    · obtain ⟨k, rfl⟩ : ∃ k, k1 = k + 1 := ⟨k1 - 1, by omega⟩
      clear h0
      have hlt : k < d.length := by omega
      rw [show ((k + 1 : Nat) : Int) - 1 = (k : Int) by omega]
      obtain ⟨b, off, rfl, hb0, hd1, hd2⟩ := HD.out.at hlt
      have hz := HF.out.small hlt
      have hzM := (HF.out.at hlt).2
      have HN := Lib.hid (keyS_drop d k hlt)
      have hns := normS_size d[k].2
      have g1 : (0 : Int) ≤ (k : Int) := by omega
      have g2 : (k : Int) < (d.length : Int) := by omega
      generalize keyS (d.drop (k + 1)) = T at *
      generalize d[k].1 = A at *
      generalize d[k].2 = V at *
      have SK : Hid (∀ W : World, Below w.heap.size w W → (Below w.heap.size w W ∧ W.cell? ⟨b, off + k * 2, none⟩ = some (.string A) ∧ W.cell? ⟨b, off + k * 2 + 1, none⟩ = some (.string V))) :=
        Lib.hid (fun W h => ⟨h, (h.cell (p := ⟨b, _, none⟩) hb0).trans hd1, (h.cell (p := ⟨b, _, none⟩) hb0).trans hd2⟩)
      have hbd := hbel.drew
      clear hd1 hd2
      have ha := cat T ⟨#[1]⟩ (by rw [sz1]; omega)
      have ha0 := cat (T ++ ⟨#[1]⟩) A (by rw [ByteArray.size_append, sz1]; omega)
      have ha1 := cat (T ++ ⟨#[1]⟩ ++ A) ⟨#[61]⟩ (by rw [ByteArray.size_append, ByteArray.size_append, sz1, sz1]; omega)
      have ha2 := cat (T ++ ⟨#[1]⟩ ++ A ++ ⟨#[61]⟩) (normS V) (by rw [ByteArray.size_append, ByteArray.size_append, ByteArray.size_append, sz1, sz1]; omega)
      go_wp2_with fail
      go_region_held3 (fun W => Below w.heap.size w W ∧ W.cell? ⟨b, off + k * 2, none⟩ = some (.string A) ∧ W.cell? ⟨b, off + k * 2 + 1, none⟩ = some (.string V))
        (exact SK.out _ (by assumption))
        (first | (go_at_call 95; refine (SpecNorm_from w _ _ (by assumption) (by assumption)).mono ?_; rintro e w2 ⟨rfl, hb2⟩))
      all_goals
        go_wp2
        go_roundw
        case rel => exact ⟨k, by omega, by go_num, by rw [HN.out], hb2⟩
        case measure => simp [intOf]
def dnKeyS (d : RdnL) : ByteArray := if dnB d = true then keyS d else ByteArray.empty
theorem dnKey_yes {d : RdnL} (h : dnB d = true) : dnKeyS d = keyS d := by unfold dnKeyS; rw [if_pos h]
theorem dnKey_no {d : RdnL} (h : dnB d = false) : dnKeyS d = ByteArray.empty := by unfold dnKeyS; rw [h]; rfl

end Go.Proofs.Ytmanlnlhpgdbpaa
/- What is the same, and what is under what: what the texts return. -/
namespace Go.Proofs.Ytmanlnlhpgdbpaa
open Go.RowKit

theorem dnB_all_of {d : RdnL} (h : dnB d = true) : d.all rdnB = true := by unfold dnB at h; simp only [Bool.and_eq_true] at h; exact h.2
theorem same_no {a b : RdnL} (h : dnB a = false ∨ dnB b = false) : dnSameB a b = false := by
  unfold dnSameB; rcases h with h | h <;> rw [h] <;> simp
theorem same_yes {a b : RdnL} (h1 : dnB a = true) (h2 : dnB b = true) : dnSameB a b = ((keyS a).toList == (keyS b).toList) := by
  unfold dnSameB; rw [h1, h2, key_same (dnB_all_of h1) (dnB_all_of h2)]; simp
theorem Try.elem32 : Try.prog.elem 32 = 97 := by kernel_rfl
theorem Try.size97 (w : World) : (sizeOf 97).run Try.prog w = .ok 2 w := by kernel_rfl
/-- dn[k:] -/
theorem cut27 (w : World) (ao : Option Addr) (d : RdnL) (k cap : Nat) (hk : k ≤ d.length) (hc : d.length ≤ cap) (hd : DnAt w ao d) :
    ∃ ao', (∀ W : World, (Instr.slice 32 (.slice ao d.length cap) (some (.int .i64 (k : Int))) none none).run Try.prog W = .ok (.slice ao' (d.length - k) (cap - k)) W) ∧ DnAt w ao' (d.drop k) := by
  refine ⟨if cap = k then ao else ao.map (·.add (k * 2)), fun W => ?_, ?_⟩
  · rw [run_slice_l W 32 ao d.length cap (by rw [Try.elem32]; exact Try.underlying32) .i64 (k : Int) (by omega) (by omega), Try.elem32, Try.size97]
    simp [Result.andThen, sliced]
  · by_cases h0 : d.length = k
    · exact .inl (List.drop_eq_nil_of_le (by omega))
    · rw [if_neg (by omega)]
      obtain ⟨b, off, rfl, hb, _⟩ := hd.at (k := 0) (by omega)
      refine .inr ⟨b, off + k * 2, ?_, hb, fun i hi => ?_⟩
      · simp [Addr.add]
      · rw [List.length_drop] at hi
        rw [List.getElem_drop]
        obtain ⟨b', off', e, _, c1, c2⟩ := hd.at (k := k + i) (by omega)
        cases e
        rw [show off + k * 2 + i * 2 = off + (k + i) * 2 by omega]
        exact ⟨c1, c2⟩

def underB (d b : RdnL) : Bool := dnB d && dnB b && decide (b.length ≤ d.length) && sameB (d.drop (d.length - b.length)) b
theorem under_no {d b : RdnL} (h : dnB d = false ∨ dnB b = false ∨ d.length < b.length) : underB d b = false := by
  unfold underB; rcases h with h | h | h
  · rw [h]; simp
  · rw [h]; simp
  · have : decide (b.length ≤ d.length) = false := decide_eq_false (by omega)
    rw [this]; simp
theorem under_yes {d b : RdnL} (h1 : dnB d = true) (h2 : dnB b = true) (h3 : b.length ≤ d.length) : underB d b = sameB (d.drop (d.length - b.length)) b := by
  unfold underB; rw [h1, h2]; simp [h3]
set_option maxHeartbeats 1000000 in
theorem DnUnder_any (ao bo : Option Addr) (d b : RdnL) (ca cb : Nat) (w : World) (hc : d.length ≤ ca) (hda : DnAt w ao d) (hdb : DnAt w bo b) (hfa : Fits d) (hfb : Fits b) :
    Calls Try.prog 134 #[.slice ao d.length ca, .slice bo b.length cb] w fun e w' => e = .returned (.bool (underB d b)) ∧ Below w.heap.size w w' := by
  have hla := hfa.1
  have hlb := hfb.1
  cases h1 : dnB d
  · have HE := Lib.hid (under_no (d := d) (b := b) (.inl h1))
    go_enter Try.func134, Try.ntmps134
    go_wp2_with fail
    refine (DnRight_any _ _ _ _ hda hfa).mono ?_
    rintro e w1 ⟨rfl, hb1⟩
    rw [h1]
    go_wp2
    go_ret
    exact ⟨ret_bool HE.out.symm, hb1⟩
  cases h2 : dnB b
  · have HE := Lib.hid (under_no (d := d) (b := b) (.inr (.inl h2)))
    go_enter Try.func134, Try.ntmps134
    go_wp2_with fail
    refine (DnRight_any _ _ _ _ hda hfa).mono ?_
    rintro e w1 ⟨rfl, hb1⟩
    rw [h1]
    go_wp2_with fail
    refine (DnRight_any _ _ _ _ (hdb.below hb1) hfb).mono ?_
    rintro e w2 ⟨rfl, hb2⟩
    rw [h2]
    go_wp2
    go_ret
    exact ⟨ret_bool HE.out.symm, hb1.trans (hb2.mono hb1.size)⟩
  by_cases h3 : d.length < b.length
  · have HE := Lib.hid (under_no (d := d) (b := b) (.inr (.inr h3)))
    go_enter Try.func134, Try.ntmps134
    go_wp2_with fail
    refine (DnRight_any _ _ _ _ hda hfa).mono ?_
    rintro e w1 ⟨rfl, hb1⟩
    rw [h1]
    go_wp2_with fail
    refine (DnRight_any _ _ _ _ (hdb.below hb1) hfb).mono ?_
    rintro e w2 ⟨rfl, hb2⟩
    rw [h2]
    go_wp2
    go_ret
    exact ⟨ret_bool HE.out.symm, hb1.trans (hb2.mono hb1.size)⟩
  · have HE := Lib.hid (under_yes h1 h2 (by omega))
    go_enter Try.func134, Try.ntmps134
    go_wp2_with fail
    refine (DnRight_any _ _ _ _ hda hfa).mono ?_
    rintro e w1 ⟨rfl, hb1⟩
    rw [h1]
    go_wp2_with fail
    refine (DnRight_any _ _ _ _ (hdb.below hb1) hfb).mono ?_
    rintro e w2 ⟨rfl, hb2⟩
    rw [h2]
    have hb12 := hb1.trans (hb2.mono hb1.size)
    obtain ⟨ao', hcut, hdr⟩ := cut27 w2 ao d (d.length - b.length) ca (by omega) hc (hda.below hb12)
    rw [show ((d.length - b.length : Nat) : Int) = (d.length : Int) - (b.length : Int) by omega] at hcut
    have HL : Hid ((d.drop (d.length - b.length)).length = d.length - (d.length - b.length)) := Lib.hid (List.length_drop ..)
    have HS := Lib.hid (sameRdns_any ao' bo (d.drop (d.length - b.length)) b (ca - (d.length - b.length)) cb w2 hdr (hdb.below hb12) (hfa.drop _) hfb)
    rw [HL.out] at HS
    have HDR := Lib.hid hdr
    clear hdr
    go_wp2_with fail
    refine HS.out.mono ?_
    rintro e w3 ⟨rfl, hb3⟩
    go_wp2
    go_ret
    exact ⟨ret_bool HE.out.symm, hb12.trans (hb3.mono hb12.size)⟩
theorem dnB_drop {d : RdnL} (h : dnB d = true) (k : Nat) : dnB (d.drop k) = true := by
  have h1 := dnB_six h
  have h2 := dnB_all_of h
  unfold dnB
  rw [Bool.and_eq_true]
  refine ⟨decide_eq_true (by rw [List.length_drop]; omega), ?_⟩
  rw [List.all_eq_true] at h2 ⊢
  exact fun x hx => h2 x (List.mem_of_mem_drop hx)
set_option maxHeartbeats 1000000 in
theorem SpecDnUnder_any (ao bo : Option Addr) (d b : RdnL) (ca cb : Nat) (w : World) (hc : d.length ≤ ca) (hda : DnAt w ao d) (hdb : DnAt w bo b) (hfa : Fits d) (hfb : Fits b) :
    Calls Try.prog 87 #[.slice ao d.length ca, .slice bo b.length cb] w fun e w' => e = .returned (.bool (underB d b)) ∧ Below w.heap.size w w' := by
  have hla := hfa.1
  have hlb := hfb.1
  by_cases h4 : 400 < d.length
  · have HE := Lib.hid (under_no (d := d) (b := b) (.inl (dnB_long (by omega))))
    clear hda hdb hfa hfb
    go_enter Try.func87, Try.ntmps87
    go_wp2
    go_ret
    exact ⟨ret_bool HE.out.symm, Below.refl _ _⟩
  by_cases h5 : 400 < b.length
  · have HE := Lib.hid (under_no (d := d) (b := b) (.inr (.inl (dnB_long (by omega)))))
    clear hda hdb hfa hfb
    go_enter Try.func87, Try.ntmps87
    go_wp2
    go_ret
    exact ⟨ret_bool HE.out.symm, Below.refl _ _⟩
  cases h1 : dnB d
  · have HE := Lib.hid (under_no (d := d) (b := b) (.inl h1))
    go_enter Try.func87, Try.ntmps87
    go_wp2_with fail
    refine (SpecDnRight_any _ _ _ _ hda hfa).mono ?_
    rintro e w1 ⟨rfl, hb1⟩
    rw [h1]
    go_wp2
    go_ret
    exact ⟨ret_bool HE.out.symm, hb1⟩
  cases h2 : dnB b
  · have HE := Lib.hid (under_no (d := d) (b := b) (.inr (.inl h2)))
    go_enter Try.func87, Try.ntmps87
    go_wp2_with fail
    refine (SpecDnRight_any _ _ _ _ hda hfa).mono ?_
    rintro e w1 ⟨rfl, hb1⟩
    rw [h1]
    go_wp2_with fail
    refine (SpecDnRight_any _ _ _ _ (hdb.below hb1) hfb).mono ?_
    rintro e w2 ⟨rfl, hb2⟩
    rw [h2]
    go_wp2
    go_ret
    exact ⟨ret_bool HE.out.symm, hb1.trans (hb2.mono hb1.size)⟩
  by_cases h3 : d.length < b.length
  · have HE := Lib.hid (under_no (d := d) (b := b) (.inr (.inr h3)))
    go_enter Try.func87, Try.ntmps87
    go_wp2_with fail
    refine (SpecDnRight_any _ _ _ _ hda hfa).mono ?_
    rintro e w1 ⟨rfl, hb1⟩
    rw [h1]
    go_wp2_with fail
    refine (SpecDnRight_any _ _ _ _ (hdb.below hb1) hfb).mono ?_
    rintro e w2 ⟨rfl, hb2⟩
    rw [h2]
    go_wp2
    go_ret
    exact ⟨ret_bool HE.out.symm, hb1.trans (hb2.mono hb1.size)⟩
  · have HE : Hid (underB d b = ((keyS (d.drop (d.length - b.length))).toList == (keyS b).toList)) := Lib.hid (by
      rw [under_yes h1 h2 (by omega), key_same (dnB_all_of (dnB_drop h1 _)) (dnB_all_of h2)])
    have a6 := dnB_six (dnB_drop h1 (d.length - b.length))
    have b6 := dnB_six h2
    go_enter Try.func87, Try.ntmps87
    go_wp2_with fail
    refine (SpecDnRight_any _ _ _ _ hda hfa).mono ?_
    rintro e w1 ⟨rfl, hb1⟩
    rw [h1]
    go_wp2_with fail
    refine (SpecDnRight_any _ _ _ _ (hdb.below hb1) hfb).mono ?_
    rintro e w2 ⟨rfl, hb2⟩
    rw [h2]
    have hb12 := hb1.trans (hb2.mono hb1.size)
    obtain ⟨ao', hcut, hdr⟩ := cut27 w2 ao d (d.length - b.length) ca (by omega) hc (hda.below hb12)
    rw [show ((d.length - b.length : Nat) : Int) = (d.length : Int) - (b.length : Int) by omega] at hcut
    have HL : Hid ((d.drop (d.length - b.length)).length = d.length - (d.length - b.length)) := Lib.hid (List.length_drop ..)
    have HS := Lib.hid (l02Key_any ao' (d.drop (d.length - b.length)) (ca - (d.length - b.length)) w2 hdr (hfa.drop _) a6)
    rw [HL.out] at HS
    have HDR := Lib.hid hdr
    clear hdr a6
    go_wp2_with fail
    refine HS.out.mono ?_
    rintro e w3 ⟨rfl, hb3⟩
    have hb13 := hb12.trans (hb3.mono hb12.size)
    go_wp2_with fail
    refine (l02Key_any _ _ _ _ (hdb.below hb13) hfb b6).mono ?_
    rintro e w4 ⟨rfl, hb4⟩
    go_wp2
    go_ret
    exact ⟨ret_bool HE.out.symm, hb13.trans (hb4.mono hb13.size)⟩
end Go.Proofs.Ytmanlnlhpgdbpaa
/- DnParent and DnJoin: what the texts of the program and of the specification return. -/
namespace Go.Proofs.Ytmanlnlhpgdbpaa
open Go.RowKit
attribute [local go_sem ↓] Go.wp_at_zero Go.wp_at_succ

theorem own_mono {w : World} {B B' e z n : Nat} {v : Value} {xs : List Value} (h : w.ownsRow B e z v n xs) (hB : B' ≤ B) : w.ownsRow B' e z v n xs := by
  refine ⟨h.1, ?_⟩
  rcases h.2 with h | ⟨g, cap, cur, h1, h2, h3⟩
  · exact .inl h
  · exact .inr ⟨g, cap, cur, h1, Nat.le_trans hB h2, h3⟩
/-- a new name is returned -/
def GivesDn (w : World) (d : RdnL) (e : Ending) (w' : World) : Prop := (∃ v, e = .returned v ∧ w'.ownsRow w.heap.size 97 2 v d.length (rs d)) ∧ Below w.heap.size w w'
theorem own_nil (w : World) (B : Nat) : w.ownsRow B 97 2 (.slice none 0 0) 0 (rs []) := ⟨rfl, .inl ⟨rfl, rfl⟩⟩
theorem dn_cells {w : World} {b off : Nat} {d : RdnL} (h : DnAt w (some ⟨b, off, none⟩) d) : ∀ j u, (rs d)[j]? = some u → w.cell? ((⟨b, off, none⟩ : Addr).add j) = some u := by
  intro j u hu
  have hj : j < (rs d).length := by
    rcases Nat.lt_or_ge j (rs d).length with h | h
    · exact h
    · rw [List.getElem?_eq_none h] at hu; cases hu
  rw [rs_length] at hj
  obtain ⟨b', off', e, _, c1, c2⟩ := h.at (k := j / 2) (by omega)
  cases e
  have ea : (⟨b, off, none⟩ : Addr).add j = ⟨b, off + j, none⟩ := by unfold Addr.add; split <;> simp_all
  rw [ea]
  have hg := rs_get d (j / 2) (by omega)
  rcases Nat.mod_two_eq_zero_or_one j with hm | hm
  · have ej : j = j / 2 * 2 := by omega
    rw [ej] at hu ⊢
    rw [hg.1] at hu
    rw [← hu]; exact c1
  · have ej : j = j / 2 * 2 + 1 := by omega
    rw [ej] at hu ⊢
    rw [hg.2] at hu
    rw [← hu, ← Nat.add_assoc]; exact c2
theorem rs_one (d : RdnL) : ∀ u ∈ rs d, u.oneCell' = true := by
  intro u hu
  unfold rs at hu
  rw [List.mem_flatMap] at hu
  obtain ⟨r, _, hr⟩ := hu
  simp at hr
  rcases hr with rfl | rfl <;> rfl
theorem rs_append (a b : RdnL) : rs (a ++ b) = rs a ++ rs b := by unfold rs; rw [List.flatMap_append]
/-- append(v, dn...) onto a row that the call owns -/
theorem append_dn {ops : Array Oper} {rest : List Oper} {o : Oper} {a : Act} {Q : Exit → Act → World → Prop} {w0 wr : World} (B : Nat) (hgd : o.guard = none) (s x : Operand)
    (ho : o.op = .call { callee := .builtin .append, args := #[s, x], argTypes := #[32, 32] }) (v : Value) (pre : RdnL) (hs : a.eval s = v) (hown : wr.ownsRow B 97 2 v pre.length (rs pre))
    (ao : Option Addr) (d : RdnL) (c n : Nat) (hn : n = d.length) (hx : a.eval x = .slice ao n c) (hd : DnAt wr ao d) (hc : ao = none → c = 0) (hlen : pre.length + d.length ≤ 1000000000) (hB : B ≤ wr.heap.size) (hbel : Below B w0 wr)
    (h : ∀ v' w', w'.ownsRow B 97 2 v' (pre ++ d).length (rs (pre ++ d)) → Below B w0 w' → wpList Try.prog ops Q rest (a.put o.dst v') w') :
    wpList Try.prog ops Q (o :: rest) a wr := by
  obtain ⟨i0, hi, hz0, hz1, hz2⟩ := info_parts Try.info97
  subst hn
  rcases ao with _ | ad
  · have hd0 : d = [] := by
      rcases hd with h | ⟨b, off, e, _⟩
      · exact h
      · cases e
    subst hd0
    have := hc rfl
    subst this
    refine wpList_append_own_none hgd s x 32 ho B 97 i0 2 Try.underlying32 hi v pre.length (rs pre) hs hown hx (h v wr (by rw [List.append_nil]; exact hown) hbel)
  · have hnews : ∀ j u, (rs d)[j]? = some u → wr.cell? (ad.add j) = some u := by
      rcases hd with hd | ⟨b, off, e, h2, h3⟩
      · subst hd; intro j u hu; simp [rs] at hu
      · cases e; exact dn_cells (.inr ⟨b, off, rfl, h2, h3⟩)
    refine wpList_append_own _ hgd s x 32 ho B 97 i0 _ 2 32 Try.underlying32 hi hz0 hz1 hz2 rfl (by decide) v pre.length (rs pre) hs hown ad d.length c (rs d) hx (rs_length d) hnews (rs_one d) ?_ ?_ hB ?_
    · unfold maxLen; omega
    · omega
    · intro v' w' h1 h2 h3
      refine h v' w' ?_ (hbel.grown h2 hB (fun k hk => (hown.lt k hk).1))
      rw [rs_append, List.length_append]; exact h1

theorem cut27s (w : World) (ao : Option Addr) (d : RdnL) (k cap : Nat) (hk : k ≤ d.length) (h0 : d.length ≠ 0) (hc : d.length ≤ cap) (hd : DnAt w ao d) :
    ∃ ad, (∀ W : World, (Instr.slice 32 (.slice ao d.length cap) (some (.int .i64 (k : Int))) none none).run Try.prog W = .ok (.slice (some ad) (d.length - k) (cap - k)) W) ∧ DnAt w (some ad) (d.drop k) := by
  obtain ⟨ao', h1, h2⟩ := cut27 w ao d k cap hk hc hd
  obtain ⟨b, off, rfl, hb, _⟩ := hd.at (k := 0) (by omega)
  have h3 := h1 w
  rw [run_slice_l w 32 _ d.length cap (by rw [Try.elem32]; exact Try.underlying32) .i64 (k : Int) (by omega) (by omega), Try.elem32, Try.size97] at h3
  rcases ao' with _ | ad
  · simp [Result.andThen, sliced] at h3
    split at h3 <;> simp at h3
  · exact ⟨ad, h1, h2⟩
def parentL (d : RdnL) : RdnL := if dnB d = true then d.drop 1 else []
theorem parent_no {d : RdnL} (h : dnB d = false ∨ d.length = 0) : parentL d = [] := by
  unfold parentL
  rcases h with h | h
  · rw [h]; rfl
  · rw [List.length_eq_zero_iff.1 h]; simp
theorem parent_yes {d : RdnL} (h : dnB d = true) : parentL d = d.drop 1 := by unfold parentL; rw [if_pos h]
end Go.Proofs.Ytmanlnlhpgdbpaa
/- The helpers of the laws: sizes, copies, comparisons. -/
namespace Go.Proofs.Ytmanlnlhpgdbpaa
open Go.RowKit
attribute [local go_sem ↓] Go.wp_at_zero Go.wp_at_succ

/-- all its strings are strings of Go -/
def Long (d : RdnL) : Prop := d.length ≤ 9223372036854775807 ∧ ∀ r ∈ d, r.1.size ≤ maxLen ∧ r.2.size ≤ maxLen
def sizeR (r : ByteArray × ByteArray) : Nat := r.1.size + r.2.size
def sizeS (d : RdnL) : Nat := (d.map sizeR).sum
theorem sizeS_take (d : RdnL) (k : Nat) (h : k < d.length) : sizeS (d.take (k + 1)) = sizeS (d.take k) + sizeR d[k] := by
  unfold sizeS; rw [List.take_succ_eq_append_getElem h, List.map_append, List.sum_append]; simp
theorem sizeS_le (d : RdnL) (k : Nat) : sizeS (d.take k) ≤ sizeS d := by
  have h := List.take_append_drop k d
  have : sizeS d = sizeS (d.take k) + sizeS (d.drop k) := by
    unfold sizeS; rw [← List.sum_append, ← List.map_append, h]
  omega
theorem sizeS_mem {d : RdnL} {r : ByteArray × ByteArray} (h : r ∈ d) : sizeR r ≤ sizeS d := by
  induction d with
  | nil => simp at h
  | cons x d ih =>
    have e : sizeS (x :: d) = sizeR x + sizeS d := by unfold sizeS; simp
    rw [e]
    rw [List.mem_cons] at h
    rcases h with rfl | h
    · omega
    · have := ih h; omega
theorem fits_of {d : RdnL} (h : d.length + sizeS d ≤ 1048576) : Fits d :=
  ⟨by omega, fun r hr => by have := sizeS_mem hr; unfold sizeR at this; omega⟩
set_option maxHeartbeats 400000 in
theorem szRdn_any (A V : ByteArray) (left : Int) (w : World) (hA : A.size ≤ maxLen) (hV : V.size ≤ maxLen) (h0 : 0 ≤ left) (h1 : left ≤ 1048576) :
    Calls Try.prog 122 #[.agg #[.string A, .string V], .int .i64 left] w fun e w' => e = .returned (.int .i64 (leftR (sizeR (A, V)) left)) ∧ Below w.heap.size w w' := by
  unfold maxLen at hA hV
  have HE : Hid (sizeR (A, V) = A.size + V.size) := Lib.hid rfl
  by_cases g1 : (A.size : Int) ≤ left
  · by_cases g2 : (A.size : Int) + (V.size : Int) ≤ left
    · have HR : Hid (leftR (sizeR (A, V)) left = left - A.size - V.size) := Lib.hid (by unfold leftR; rw [HE.out, if_pos (by omega)]; omega)
      have c1 : ¬ left - (A.size : Int) < 0 := by omega
      have c2 : ¬ left - (A.size : Int) - (V.size : Int) < 0 := by omega
      go_enter Try.func122, Try.ntmps122
      go_wp2
      go_ret
      exact ⟨ret_int' (by rw [HR.out]), (Below.refl _ _).alloc (Nat.le_refl _) _⟩
    · have HR : Hid (leftR (sizeR (A, V)) left = -1) := Lib.hid (by unfold leftR; rw [HE.out, if_neg (by omega)])
      have c1 : ¬ left - (A.size : Int) < 0 := by omega
      have c2 : left - (A.size : Int) - (V.size : Int) < 0 := by omega
      go_enter Try.func122, Try.ntmps122
      go_wp2
      go_ret
      exact ⟨ret_int' (by rw [HR.out]), (Below.refl _ _).alloc (Nat.le_refl _) _⟩
  · have HR : Hid (leftR (sizeR (A, V)) left = -1) := Lib.hid (by unfold leftR; rw [HE.out, if_neg (by omega)])
    have c1 : left - (A.size : Int) < 0 := by omega
    go_enter Try.func122, Try.ntmps122
    go_wp2
    go_ret
    exact ⟨ret_int' (by rw [HR.out]), (Below.refl _ _).alloc (Nat.le_refl _) _⟩
set_option maxRecDepth 100000 in
set_option maxHeartbeats 1000000 in
theorem szRdnS_any (ao : Option Addr) (d : RdnL) (cap : Nat) (left : Int) (w : World) (hd : DnAt w ao d) (hf : Long d) (h0 : 0 ≤ left) (h1 : left ≤ 1048576) :
    Calls Try.prog 98 #[.slice ao d.length cap, .int .i64 left] w fun e w' => e = .returned (.int .i64 (leftR (d.length + sizeS d) left)) ∧ Below w.heap.size w w' := by
  have hl := hf.1
  have HD := Lib.hid hd; have HF := Lib.hid hf; clear hd hf
  by_cases g : (d.length : Int) ≤ left
  · have c1 : ¬ left - (d.length : Int) < 0 := by omega
    go_enter Try.func98, Try.ntmps98
    go_wp2
    go_loopw [1, 5] (fun t i wr => ∃ k : Nat, k ≤ d.length ∧ i = .int .i64 k ∧ ((d.length + sizeS (d.take k) : Nat) : Int) ≤ left ∧ t = .int .i64 (left - (d.length + sizeS (d.take k) : Nat)) ∧ Below w.heap.size w wr) (fun _ i _ => d.length - (intOf i).toNat)
    case atStart => exact ⟨0, Nat.zero_le _, rfl, by simp [sizeS]; omega, by simp [sizeS], Below.refl _ _⟩
    case round =>
      clear c1
      obtain ⟨k, hk, rfl, hle, rfl, hbel⟩ := hrel
      have hsz := hbel.size
      by_cases hlt : k < d.length
      · obtain ⟨b, off, rfl, hb0, hd1, hd2⟩ := HD.out.at hlt
        have hc1 := (hbel.cell (p := ⟨b, off + k * 2, none⟩) hb0).trans hd1
        have hc2 := (hbel.cell (p := ⟨b, off + k * 2 + 1, none⟩) hb0).trans hd2
        have hz := HF.out.2 _ (List.getElem_mem hlt)
        have HT := Lib.hid (sizeS_take d k hlt)
        have HTl := Lib.hid (sizeS_le d (k + 1))
        have HE : Hid (sizeR d[k] = sizeR (d[k].1, d[k].2)) := Lib.hid rfl
        clear hd1 hd2
        generalize d[k].1 = A at *
        generalize d[k].2 = V at *
        generalize hq : d.length + sizeS (d.take k) = q at *
        have Hq := Lib.hid hq; clear hq
        go_wp2_with fail
        refine (szRdn_any A V (left - (q : Int)) wr hz.1 hz.2 (by omega) (by omega)).mono ?_
        rintro e w2 ⟨rfl, hb2⟩
        have B2 := Lib.hid (hbel.trans (hb2.mono hsz)); clear hb2
        by_cases hfit : ((sizeR (A, V) : Nat) : Int) ≤ left - (q : Int)
        · rw [leftR_pos hfit]
          generalize hr : sizeR (A, V) = r at *
          have Hr := Lib.hid hr; clear hr
          have c2 : ¬ left - (q : Int) - (r : Int) < 0 := by omega
          go_wp2
          go_roundw
          case rel =>
            have e := HT.out
            have e2 := HE.out
            have e3 := Hq.out
            have e4 := Hr.out
            exact ⟨k + 1, by omega, by go_num, by omega, by rw [e]; congr 1; omega, B2.out⟩
          case measure => simp [intOf]; omega
        · rw [leftR_neg hfit]
          have HR : Hid (leftR (d.length + sizeS d) left = -1) := Lib.hid (leftR_neg (by
            have := HT.out; have := HTl.out; have := HE.out; have := Hq.out; omega))
          go_wp2
          go_ret
          exact ⟨ret_int' (by rw [HR.out]), B2.out⟩
      · have HR : Hid (leftR (d.length + sizeS d) left = left - (d.length + sizeS (d.take k) : Nat)) := Lib.hid (by
          rw [List.take_of_length_le (by omega)] at hle ⊢
          exact leftR_pos hle)
        go_wp2
        go_ret
        exact ⟨ret_int' (by rw [HR.out]), hbel⟩
  · have HR : Hid (leftR (d.length + sizeS d) left = -1) := Lib.hid (leftR_neg (by omega))
    have c1 : left - (d.length : Int) < 0 := by omega
    go_enter Try.func98, Try.ntmps98
    go_wp2
    go_ret
    exact ⟨ret_int' (by rw [HR.out]), Below.refl _ _⟩
end Go.Proofs.Ytmanlnlhpgdbpaa
/- The helpers of the laws: copies of names, comparisons. -/
namespace Go.Proofs.Ytmanlnlhpgdbpaa
open Go.RowKit
attribute [local go_sem ↓] Go.wp_at_zero Go.wp_at_succ

set_option maxHeartbeats 400000 in
theorem toRdn_any (A V : ByteArray) (w : World) :
    Calls Try.prog 124 #[.agg #[.string A, .string V]] w fun e w' => e = .returned (.agg #[.string A, .string V]) ∧ Below w.heap.size w w' := by
  go_enter Try.func124, Try.ntmps124
  go_wp2
  refine bodyPost_ret (v := .agg #[.string A, .string V]) (by simp [results, Try.results124, go_sem]) rfl ⟨rfl, ?_⟩
  exact more (more (more (Below.refl _ _) _) _) _
theorem make27 (n : Nat) (hn : n ≤ 1048576) (W : World) : ∃ C : Array Value, C.size = n * 2 ∧
    (Instr.makeSlice 32 (.int .i64 (n : Int)) (.int .i64 (n : Int))).run Try.prog W = .ok (.slice (some ⟨W.heap.size, 0, none⟩) n n) (W.alloc (.cells C 97)) := by
  obtain ⟨i0, hi, hz0, hz1, hz2⟩ := info_parts Try.info97
  have := run_make (P := Try.prog) W 32 97 i0 _ Try.underlying32 hi hz0 .i64 .i64 (n : Int) (n : Int) (by omega) (by omega) (by rw [hz2]; omega) (by omega)
  rw [hz1] at this
  refine ⟨madeCells (Value.agg #[.string ByteArray.empty, .string ByteArray.empty]).cells (n * 2), size_madeCells _ _, ?_⟩
  simpa using this
theorem take_set2 {C : Array Value} {k : Nat} {d : RdnL} {a b : Value} (hk : k * 2 + 1 < C.size) (hC : C.toList.take (k * 2) = rs d) (hl : d.length = k) :
    (((C.setIfInBounds (k * 2) a).setIfInBounds (k * 2 + 1) b).toList).take ((k + 1) * 2) = rs d ++ [a, b] := by
  have hL : (rs d).length = k * 2 := by rw [rs_length, hl]
  apply List.ext_getElem?
  intro i
  rw [List.getElem?_take]
  by_cases h1 : i < (k + 1) * 2
  · rw [if_pos h1, Array.getElem?_toList, Array.getElem?_setIfInBounds, Array.getElem?_setIfInBounds]
    by_cases h2 : i = k * 2 + 1
    · subst h2
      rw [if_pos rfl, if_pos (by simpa using hk), List.getElem?_append_right (by omega), hL]
      simp
    · rw [if_neg (fun e => h2 e.symm)]
      by_cases h3 : i = k * 2
      · subst h3
        rw [if_pos rfl, if_pos (by omega), List.getElem?_append_right (by omega), hL]
        simp
      · rw [if_neg (fun e => h3 e.symm), List.getElem?_append_left (by omega), ← hC, List.getElem?_take, if_pos (by omega), Array.getElem?_toList]
  · rw [if_neg h1, List.getElem?_eq_none (by simp; omega)]
/-- a block of pairs, the first k of them known -/
def RowTo (w : World) (g n : Nat) (d : RdnL) : Prop := ∃ C : Array Value, w.heap[g]? = some (.cells C 97 (0, 0)) ∧ C.size = n * 2 ∧ C.toList.take (d.length * 2) = rs d
theorem RowTo.at {w : World} {g n k : Nat} {d : RdnL} (h : RowTo w g n d) (hk : k < n) :
    (∃ x y, w.cell? ⟨g, k * 2, none⟩ = some x ∧ w.cell? ⟨g, k * 2 + 1, none⟩ = some y) ∧ w.frozen? ⟨g, k * 2, none⟩ = false ∧ w.frozen? ⟨g, k * 2 + 1, none⟩ = false := by
  obtain ⟨C, h1, h2, _⟩ := h
  refine ⟨⟨C[k * 2]'(by omega), C[k * 2 + 1]'(by omega), ?_, ?_⟩, ?_, ?_⟩
  · rw [cell_of_row w g _ C 97 (0, 0) h1]; exact Array.getElem?_eq_getElem (by omega)
  · rw [cell_of_row w g _ C 97 (0, 0) h1]; exact Array.getElem?_eq_getElem (by omega)
  · simp [World.frozen?, h1]
  · simp [World.frozen?, h1]
theorem RowTo.set {w : World} {g n k : Nat} {d : RdnL} (h : RowTo w g n d) (hl : d.length = k) (hk : k < n) (A V : ByteArray) :
    RowTo ((w.setCell ⟨g, k * 2, none⟩ (.string A)).setCell ⟨g, k * 2 + 1, none⟩ (.string V)) g n (d ++ [(A, V)]) := by
  obtain ⟨C, h1, h2, h3⟩ := h
  refine ⟨_, heap_set _ (heap_set _ h1), by simp [h2], ?_⟩
  rw [rs_append, List.length_append, hl]
  rw [hl] at h3
  exact take_set2 (by omega) h3 hl
theorem RowTo.below {w w' : World} {g n : Nat} {d : RdnL} (h : RowTo w g n d) (hb : Below w.heap.size w w') : RowTo w' g n d := by
  obtain ⟨C, h1, h2⟩ := h
  exact ⟨C, (hb.block g (Array.getElem?_eq_some_iff.1 h1).1).trans h1, h2⟩
theorem RowTo.own {w : World} {g B : Nat} {d : RdnL} (h : RowTo w g d.length d) (hB : B ≤ g) (hm : d.length ≤ 1048576) : w.ownsRow B 97 2 (.slice (some ⟨g, 0, none⟩) d.length d.length) d.length (rs d) := by
  obtain ⟨C, h1, h2, h3⟩ := h
  exact ⟨rs_length d, .inr ⟨g, d.length, C, rfl, hB, h1, Nat.le_refl _, by unfold maxLen; omega, h2, h3⟩⟩
/-- a copy of a name -/
def CopyDn (w : World) (d : RdnL) (e : Ending) (w' : World) : Prop := e = .returned (.slice (some ⟨w.heap.size, 0, none⟩) d.length d.length) ∧ w'.ownsRow w.heap.size 97 2 (.slice (some ⟨w.heap.size, 0, none⟩) d.length d.length) d.length (rs d) ∧ Below w.heap.size w w'
set_option maxRecDepth 100000 in
set_option maxHeartbeats 1000000 in
theorem toRdnS_any (ao : Option Addr) (d : RdnL) (cap : Nat) (w : World) (hd : DnAt w ao d) (hl : d.length ≤ 1048576) :
    Calls Try.prog 100 #[.slice ao d.length cap] w fun e w' => CopyDn w d e w' := by
  have HD := Lib.hid hd; clear hd
  obtain ⟨C, hC, hmk⟩ := make27 d.length hl w
  have HC := Lib.hid hC; clear hC
  go_enter Try.func100, Try.ntmps100
  go_wp2
  clear hmk
  go_loopw [4] (fun i wr => ∃ k : Nat, k ≤ d.length ∧ i = .int .i64 k ∧ RowTo wr w.heap.size d.length (d.take k) ∧ Below w.heap.size w wr) (fun i _ => d.length - (intOf i).toNat)
  case atStart => exact ⟨0, Nat.zero_le _, rfl, ⟨C, heap_alloc_new w _, HC.out, by simp [rs]⟩, (Below.refl _ _).alloc (Nat.le_refl _) _⟩
  case round =>
    obtain ⟨k, hk, rfl, hR, hbel⟩ := hrel
    have HR := Lib.hid hR; clear hR
    have hsz := hbel.size
    by_cases hlt : k < d.length
    · obtain ⟨b, off, rfl, hb0, hd1, hd2⟩ := HD.out.at hlt
      have hc1 := (hbel.cell (p := ⟨b, off + k * 2, none⟩) hb0).trans hd1
      have hc2 := (hbel.cell (p := ⟨b, off + k * 2 + 1, none⟩) hb0).trans hd2
      have HT : Hid (d.take (k + 1) = d.take k ++ [(d[k].1, d[k].2)]) := Lib.hid (List.take_succ_eq_append_getElem hlt)
      have hlk : (d.take k).length = k := by rw [List.length_take]; omega
      have HK := Lib.hid hlk
      clear hd1 hd2 hlk
      generalize d[k].1 = A at *
      generalize d[k].2 = V at *
      go_wp2_with fail
      refine (toRdn_any A V wr).mono ?_
      rintro e w2 ⟨rfl, hb2⟩
      have HR2 := Lib.hid (HR.out.below hb2)
      have B2 := Lib.hid (hbel.trans (hb2.mono hsz))
      clear hb2 hc1 hc2
      obtain ⟨⟨x, y, c0, c1⟩, f0, f1⟩ := HR2.out.at hlt
      go_wp2
      go_roundw
      case rel => exact ⟨k + 1, by omega, by go_num, by rw [HT.out]; exact HR2.out.set HK.out hlt A V, (B2.out.setCell (Nat.le_refl _) _).setCell (Nat.le_refl _) _⟩
      case measure => simp [intOf]; omega
    · have e : d.take k = d := List.take_of_length_le (by omega)
      rw [e] at HR
      clear e
      go_wp2
      go_ret
      exact ⟨rfl, HR.out.own (Nat.le_refl _) hl, hbel⟩
set_option maxHeartbeats 400000 in
theorem eqRdn_same (w0 : World) (A V : ByteArray) (w : World) (hB : Below w0.heap.size w0 w) :
    Calls Try.prog 126 #[.agg #[.string A, .string V], .agg #[.string A, .string V]] w fun e w' => e = .returned (.bool true) ∧ Below w0.heap.size w0 w' := by
  go_enter Try.func126, Try.ntmps126
  go_wp2
  go_ret
  exact ⟨rfl, more (more hB _) _⟩
set_option maxRecDepth 100000 in
set_option maxHeartbeats 1000000 in
theorem eqRdnS_same (ao bo : Option Addr) (d : RdnL) (ca cb : Nat) (w : World) (hda : DnAt w ao d) (hdb : DnAt w bo d) (hl : d.length ≤ 1048576) :
    Calls Try.prog 104 #[.slice ao d.length ca, .slice bo d.length cb] w fun e w' => e = .returned (.bool true) ∧ Below w.heap.size w w' := by
  have HA := Lib.hid hda; have HB := Lib.hid hdb; clear hda hdb
  go_enter Try.func104, Try.ntmps104
  go_wp2
  go_loopw [5] (fun i wr => ∃ k : Nat, k ≤ d.length ∧ i = .int .i64 k ∧ Below w.heap.size w wr) (fun i _ => d.length - (intOf i).toNat)
  case atStart => exact ⟨0, Nat.zero_le _, rfl, Below.refl _ _⟩
  case round =>
    obtain ⟨k, hk, rfl, hbel⟩ := hrel
    have hsz := hbel.size
    by_cases hlt : k < d.length
    · obtain ⟨p, off, rfl, hp0, hd1, hd2⟩ := HA.out.at hlt
      obtain ⟨q, off', rfl, hq0, he1, he2⟩ := HB.out.at hlt
      generalize d[k].1 = A at *
      generalize d[k].2 = V at *
      have SK : Hid (∀ W : World, Below w.heap.size w W → (Below w.heap.size w W ∧ W.cell? ⟨p, off + k * 2, none⟩ = some (.string A) ∧ W.cell? ⟨p, off + k * 2 + 1, none⟩ = some (.string V) ∧ W.cell? ⟨q, off' + k * 2, none⟩ = some (.string A) ∧ W.cell? ⟨q, off' + k * 2 + 1, none⟩ = some (.string V))) :=
        Lib.hid (fun W h => ⟨h, (h.cell (p := ⟨p, _, none⟩) hp0).trans hd1, (h.cell (p := ⟨p, _, none⟩) hp0).trans hd2, (h.cell (p := ⟨q, _, none⟩) hq0).trans he1, (h.cell (p := ⟨q, _, none⟩) hq0).trans he2⟩)
      have hbd := hbel.drew
      clear hd1 hd2 he1 he2
      have g1 : (0 : Int) ≤ (k : Int) := by omega
      have g2 : (k : Int) < (d.length : Int) := by omega
      go_wp2_with fail
      go_region_held3 (fun W => Below w.heap.size w W ∧ W.cell? ⟨p, off + k * 2, none⟩ = some (.string A) ∧ W.cell? ⟨p, off + k * 2 + 1, none⟩ = some (.string V) ∧ W.cell? ⟨q, off' + k * 2, none⟩ = some (.string A) ∧ W.cell? ⟨q, off' + k * 2 + 1, none⟩ = some (.string V))
        (exact SK.out _ (by assumption))
        (first | (go_at_call 126; refine (eqRdn_same w _ _ _ (by assumption)).mono ?_; rintro e w2 ⟨rfl, hb2⟩) | (fail "none"))
      all_goals
        go_wp2
        go_roundw
        case rel => exact ⟨k + 1, by omega, by go_num, hb2⟩
        case measure => simp [intOf]; omega
    · go_wp2
      go_ret
      exact ⟨rfl, hbel⟩
end Go.Proofs.Ytmanlnlhpgdbpaa
/- Entries: names with attributes, and where they lie. -/
namespace Go.Proofs.Ytmanlnlhpgdbpaa
open Go.RowKit

abbrev AttrV := ByteArray × List ByteArray
/-- texts lie behind a slice -/
def StrsAt (w : World) (ao : Option Addr) (l : List ByteArray) : Prop :=
  l = [] ∨ ∃ b off, ao = some ⟨b, off, none⟩ ∧ b < w.heap.size ∧ ∀ i (h : i < l.length), w.cell? ⟨b, off + i, none⟩ = some (.string l[i])
theorem StrsAt.below {w w' : World} {ao : Option Addr} {l : List ByteArray} (h : StrsAt w ao l) (hb : Below w.heap.size w w') : StrsAt w' ao l := by
  rcases h with h | ⟨b, off, h1, h2, h3⟩
  · exact .inl h
  · exact .inr ⟨b, off, h1, Nat.lt_of_lt_of_le h2 hb.size, fun i hi => (hb.cell (p := ⟨b, off + i, none⟩) h2).trans (h3 i hi)⟩
theorem StrsAt.at {w : World} {ao : Option Addr} {l : List ByteArray} (h : StrsAt w ao l) {k : Nat} (hk : k < l.length) :
    ∃ b off, ao = some ⟨b, off, none⟩ ∧ b < w.heap.size ∧ w.cell? ⟨b, off + k, none⟩ = some (.string l[k]) := by
  rcases h with h | ⟨b, off, h1, h2, h3⟩
  · subst h; simp at hk
  · exact ⟨b, off, h1, h2, h3 k hk⟩
/-- the texts of a slice, with its capacity -/
def ValsAt (w : World) (vo : Option Addr) (vc : Nat) (l : List ByteArray) : Prop := StrsAt w vo l ∧ l.length ≤ vc ∧ (vo = none → vc = 0)
theorem ValsAt.below {w w' : World} {vo : Option Addr} {vc : Nat} {l : List ByteArray} (h : ValsAt w vo vc l) (hb : Below w.heap.size w w') : ValsAt w' vo vc l := ⟨h.1.below hb, h.2⟩
/-- attributes lie behind a slice -/
def AttrsAt (w : World) (ao : Option Addr) (l : List AttrV) : Prop :=
  l = [] ∨ ∃ b off, ao = some ⟨b, off, none⟩ ∧ b < w.heap.size ∧ ∀ i (h : i < l.length), w.cell? ⟨b, off + i * 2, none⟩ = some (.string l[i].1) ∧
    ∃ vo vc, w.cell? ⟨b, off + i * 2 + 1, none⟩ = some (.slice vo l[i].2.length vc) ∧ ValsAt w vo vc l[i].2
theorem AttrsAt.below {w w' : World} {ao : Option Addr} {l : List AttrV} (h : AttrsAt w ao l) (hb : Below w.heap.size w w') : AttrsAt w' ao l := by
  rcases h with h | ⟨b, off, h1, h2, h3⟩
  · exact .inl h
  · refine .inr ⟨b, off, h1, Nat.lt_of_lt_of_le h2 hb.size, fun i hi => ?_⟩
    obtain ⟨g1, vo, vc, g2, g3⟩ := h3 i hi
    exact ⟨(hb.cell (p := ⟨b, off + i * 2, none⟩) h2).trans g1, vo, vc, (hb.cell (p := ⟨b, off + i * 2 + 1, none⟩) h2).trans g2, g3.below hb⟩
theorem AttrsAt.at {w : World} {ao : Option Addr} {l : List AttrV} (h : AttrsAt w ao l) {k : Nat} (hk : k < l.length) :
    ∃ b off vo vc, ao = some ⟨b, off, none⟩ ∧ b < w.heap.size ∧ w.cell? ⟨b, off + k * 2, none⟩ = some (.string l[k].1) ∧ w.cell? ⟨b, off + k * 2 + 1, none⟩ = some (.slice vo l[k].2.length vc) ∧ ValsAt w vo vc l[k].2 := by
  rcases h with h | ⟨b, off, h1, h2, h3⟩
  · subst h; simp at hk
  · obtain ⟨g1, vo, vc, g2, g3⟩ := h3 k hk
    exact ⟨b, off, vo, vc, h1, h2, g1, g2, g3⟩
/-- all its strings are strings of Go -/
def LongV (l : List ByteArray) : Prop := l.length ≤ 9223372036854775807 ∧ ∀ s ∈ l, s.size ≤ maxLen
def LongA (l : List AttrV) : Prop := l.length ≤ 9223372036854775807 ∧ ∀ a ∈ l, a.1.size ≤ maxLen ∧ LongV a.2
def FitsV (l : List ByteArray) : Prop := l.length ≤ 1048576 ∧ ∀ s ∈ l, s.size ≤ 1048576
def FitsA (l : List AttrV) : Prop := l.length ≤ 1048576 ∧ ∀ a ∈ l, a.1.size ≤ 1048576 ∧ FitsV a.2
def sizeV (l : List ByteArray) : Nat := (l.map (·.size)).sum
def sizeA (a : AttrV) : Nat := a.1.size + (a.2.length + sizeV a.2)
def sizeAs (l : List AttrV) : Nat := (l.map sizeA).sum
theorem sizeV_take (d : List ByteArray) (k : Nat) (h : k < d.length) : sizeV (d.take (k + 1)) = sizeV (d.take k) + d[k].size := by
  unfold sizeV; rw [List.take_succ_eq_append_getElem h, List.map_append, List.sum_append]; simp
theorem sizeV_le (d : List ByteArray) (k : Nat) : sizeV (d.take k) ≤ sizeV d := by
  have h := List.take_append_drop k d
  have : sizeV d = sizeV (d.take k) + sizeV (d.drop k) := by
    unfold sizeV; rw [← List.sum_append, ← List.map_append, h]
  omega
theorem sum_mem {l : List Nat} {x : Nat} (h : x ∈ l) : x ≤ l.sum := by
  induction l with
  | nil => simp at h
  | cons y l ih =>
    rw [List.sum_cons]
    rcases List.mem_cons.1 h with rfl | h
    · omega
    · have := ih h; omega
theorem sizeV_mem {l : List ByteArray} {s : ByteArray} (h : s ∈ l) : s.size ≤ sizeV l := sum_mem (List.mem_map_of_mem h)
theorem sizeAs_take (d : List AttrV) (k : Nat) (h : k < d.length) : sizeAs (d.take (k + 1)) = sizeAs (d.take k) + sizeA d[k] := by
  unfold sizeAs; rw [List.take_succ_eq_append_getElem h, List.map_append, List.sum_append]; simp
theorem sizeAs_le (d : List AttrV) (k : Nat) : sizeAs (d.take k) ≤ sizeAs d := by
  have h := List.take_append_drop k d
  have : sizeAs d = sizeAs (d.take k) + sizeAs (d.drop k) := by
    unfold sizeAs; rw [← List.sum_append, ← List.map_append, h]
  omega
theorem sizeAs_mem {l : List AttrV} {a : AttrV} (h : a ∈ l) : sizeA a ≤ sizeAs l := sum_mem (List.mem_map_of_mem h)
theorem fitsV_of {l : List ByteArray} (h : l.length + sizeV l ≤ 1048576) : FitsV l := ⟨by omega, fun s hs => by have := sizeV_mem hs; omega⟩
theorem fitsA_of {l : List AttrV} (h : l.length + sizeAs l ≤ 1048576) : FitsA l :=
  ⟨by omega, fun a ha => by
    have := sizeAs_mem ha
    unfold sizeA at this
    exact ⟨by omega, fitsV_of (by omega)⟩⟩
theorem FitsA.at {l : List AttrV} (h : FitsA l) {k : Nat} (hk : k < l.length) : l[k].1.size ≤ 1048576 ∧ FitsV l[k].2 := h.2 _ (List.getElem_mem hk)
theorem FitsV.at {l : List ByteArray} (h : FitsV l) {k : Nat} (hk : k < l.length) : l[k].size ≤ 1048576 := h.2 _ (List.getElem_mem hk)
theorem FitsV.long {l : List ByteArray} (h : FitsV l) : LongV l := ⟨by have := h.1; omega, fun s hs => by have := h.2 s hs; unfold maxLen; omega⟩
end Go.Proofs.Ytmanlnlhpgdbpaa
/- Latest: whether a change concerns a name. -/
namespace Go.Proofs.Ytmanlnlhpgdbpaa
open Go.RowKit
attribute [local go_sem ↓] Go.wp_at_zero Go.wp_at_succ

set_option maxRecDepth 100000 in
set_option maxHeartbeats 1000000 in
theorem con1_any (w0 : World) (q : Nat) (a0 a1 : Int) (a2 : ByteArray) (o3 o4 : Option Addr) (n3 k3 n4 k4 : Nat) (nm : ByteArray) (w : World) (hc : w0.cell? ⟨q, 0, none⟩ = some (.string nm)) (hq : q < w0.heap.size) (hB : Below w0.heap.size w0 w) :
    Calls Try.prog 74 #[.agg #[.int .i64 a0, .int .i64 a1, .string a2, .slice o3 n3 k3, .slice o4 n4 k4], .pointer (some ⟨q, 0, none⟩)] w fun e w' => e = .returned (.bool (a2.toList == nm.toList)) ∧ Below w0.heap.size w0 w' := by
  have hB2 := more' hB (.cells #[.int .i64 a0, .int .i64 a1, .string a2, .slice o3 n3 k3, .slice o4 n4 k4] 74)
  have c1 := (hB2.cell (p := ⟨q, 0, none⟩) hq).trans hc
  generalize hr : (a2.toList == nm.toList) = r
  go_enter Try.func74, Try.ntmps74
  go_wp2
  go_ret
  exact ⟨rfl, hB2⟩
set_option maxRecDepth 100000 in
set_option maxHeartbeats 1000000 in
theorem conIdx_any {S : Bs} (w0 : World) (v : Value) (d : List ChangeT) (q : Nat) (nm : ByteArray) (w : World) (hd : SlAt changeE S w0 d v) (hl : d.length ≤ 1048576) (hc : w0.cell? ⟨q, 0, none⟩ = some (.string nm)) (hq : q < w0.heap.size) (hB : Below w0.heap.size w0 w) :
    Calls Try.prog 102 #[v, .func (.func 74) #[] #[.pointer (some ⟨q, 0, none⟩)]] w fun e w' => (∃ r : Int, e = .returned (.int .i64 r) ∧ decide (0 ≤ r) = d.any (conB nm)) ∧ Below w0.heap.size w0 w' := by
  obtain ⟨ao, ca, rfl⟩ := hd.sl
  have HA := Lib.hid hd; have HC := Lib.hid hc; clear hd hc
  go_enter Try.func102, Try.ntmps102
  go_wp2_with fail
  go_loopw [8] (fun i wr => ∃ k : Nat, k ≤ d.length ∧ i = .int .i64 k ∧ (d.take k).any (conB nm) = false ∧ Below w0.heap.size w0 wr) (fun i _ => d.length - (intOf i).toNat)
  case atStart => exact ⟨0, Nat.zero_le _, rfl, rfl, hB⟩
  case round =>
    obtain ⟨k, hk, rfl, hj, hbel⟩ := hrel
    have Hj := Lib.hid hj; clear hj
    by_cases hlt : k < d.length
    · obtain ⟨b, off, a0, a1, a2, a3, a4, v3, v4, rfl, _, hb0, hx, ⟨hc0, hc1, hc2, hc3, hc4⟩, s3, s4, _⟩ := change_row (HA.out.frame (Same.of_below' hbel)) hlt
      have HT : Hid ((d.take (k + 1)).any (conB nm) = ((d.take k).any (conB nm) || (a2.toList == nm.toList))) := Lib.hid (by rw [List.take_succ_eq_append_getElem hlt, hx, List.any_append]; simp [conB])
      have HN : Hid ((a2.toList == nm.toList) = true → d.any (conB nm) = true) := Lib.hid (fun h => List.any_eq_true.2 ⟨d[k], List.getElem_mem hlt, by rw [hx]; exact h⟩)
      obtain ⟨o3, k3, rfl⟩ := s3.sl
      obtain ⟨o4, k4, rfl⟩ := s4.sl
      have C1 : Hid (Calls Try.prog 74 #[.agg #[.int .i64 a0, .int .i64 a1, .string a2, .slice o3 a3.length k3, .slice o4 a4.length k4], .pointer (some ⟨q, 0, none⟩)] wr fun e w' => e = .returned (.bool (a2.toList == nm.toList)) ∧ Below w0.heap.size w0 w') := Lib.hid (con1_any w0 q a0 a1 a2 o3 o4 _ k3 _ k4 nm wr HC.out hq hbel)
      clear s3 s4 hx
      generalize (a2.toList == nm.toList) = r at *
      have g1 : (0 : Int) ≤ (k : Int) := by omega
      have g2 : (k : Int) < (d.length : Int) := by omega
      go_wp2_with fail
      refine C1.out.mono ?_
      rintro e w1 ⟨rfl, hb1⟩
      cases r
      · have HT2 : Hid ((d.take (k + 1)).any (conB nm) = false) := Lib.hid (by rw [HT.out, Hj.out]; rfl)
        go_wp2
        go_roundw
        case rel => exact ⟨k + 1, by omega, by go_num, HT2.out, hb1⟩
        case measure => simp [intOf]; omega
      · have HX := Lib.hid (HN.out rfl)
        go_wp2
        go_ret
        exact ⟨⟨_, rfl, by rw [HX.out]; simp⟩, hb1⟩
    · have e : d.take k = d := List.take_of_length_le (by omega)
      have HO : Hid (d.any (conB nm) = false) := Lib.hid (by have := Hj.out; rw [e] at this; exact this)
      clear e
      go_wp2
      go_ret
      exact ⟨⟨_, rfl, by rw [HO.out]; decide⟩, hbel⟩
set_option maxRecDepth 100000 in
set_option maxHeartbeats 1000000 in
theorem conHas_any {S : Bs} (w0 : World) (v : Value) (d : List ChangeT) (q : Nat) (nm : ByteArray) (w : World) (hd : SlAt changeE S w0 d v) (hl : d.length ≤ 1048576) (hc : w0.cell? ⟨q, 0, none⟩ = some (.string nm)) (hq : q < w0.heap.size) (hB : Below w0.heap.size w0 w) :
    Calls Try.prog 73 #[v, .func (.func 74) #[] #[.pointer (some ⟨q, 0, none⟩)]] w fun e w' => e = .returned (.bool (d.any (conB nm))) ∧ Below w0.heap.size w0 w' := by
  have CI := Lib.hid (conIdx_any w0 v d q nm w hd hl hc hq hB)
  obtain ⟨ao, ca, rfl⟩ := hd.sl
  clear hd hc hB
  go_enter Try.func73, Try.ntmps73
  go_wp2_with fail
  refine CI.out.mono ?_
  rintro e w1 ⟨⟨r, rfl, hr⟩, hb1⟩
  have HR := Lib.hid hr; clear hr
  by_cases h0 : 0 ≤ r
  · go_wp2
    go_ret
    exact ⟨ret_bool (by rw [← HR.out]; first | done | simpa using h0), hb1⟩
  · have h1 : r < 0 := by omega
    go_wp2
    go_ret
    exact ⟨ret_bool (by rw [← HR.out]; first | done | simpa using h1), hb1⟩
set_option maxRecDepth 100000 in
set_option maxHeartbeats 1000000 in
theorem concerns_any {S : Bs} (v : Value) (d : List ChangeT) (nm : ByteArray) (w : World) (hd : SlAt changeE S w d v) (hl : d.length ≤ 1048576) :
    Calls Try.prog 38 #[v, .string nm] w fun e w' => e = .returned (.bool (d.any (conB nm))) ∧ Below w.heap.size w w' := by
  have hB1 := more' (Below.refl w.heap.size w) (.cells #[.string nm] 9)
  have CI := Lib.hid (conHas_any (w.alloc (.cells #[.string nm] 9)) v d w.heap.size nm _ (hd.frame (Same.of_below' hB1)) hl (by simp) (by simp) (Below.refl _ _))
  obtain ⟨ao, ca, rfl⟩ := hd.sl
  have HB := Lib.hid hB1
  clear hd hB1
  generalize d.any (conB nm) = r at *
  go_enter Try.func38, Try.ntmps38
  go_wp2_with fail
  refine CI.out.mono ?_
  rintro e w1 ⟨rfl, hb1⟩
  go_wp2
  go_ret
  exact ⟨rfl, HB.out.trans (hb1.mono HB.out.size)⟩
end Go.Proofs.Ytmanlnlhpgdbpaa
/- The shapes of the types, as the earlier texts say them. -/
namespace Go.Proofs.Ytmanlnlhpgdbpaa
open Go.RowKit

theorem strs_of {S : Bs} {w : World} {l : List ByteArray} {ao : Option Addr} {n cap : Nat} (h : SlAt strE S w l (.slice ao n cap)) : StrsAt w ao l := by
  by_cases h0 : l = []
  · exact .inl h0
  have hl : 0 < l.length := List.length_pos_iff.2 h0
  obtain ⟨b, off, a0, e, _, hb, _, _⟩ := str_row h hl
  subst e
  refine .inr ⟨b, off, rfl, hb, fun i hi => ?_⟩
  obtain ⟨b', off', a0, e, _, _, hx, hc⟩ := str_row h hi
  cases e
  rw [hx]; exact hc
theorem dn_of {S : Bs} {w : World} {l : RdnL} {ao : Option Addr} {n cap : Nat} (h : SlAt rdnE S w l (.slice ao n cap)) : DnAt w ao l := by
  by_cases h0 : l = []
  · exact .inl h0
  have hl : 0 < l.length := List.length_pos_iff.2 h0
  obtain ⟨b, off, a0, a1, e, _, hb, _, _⟩ := rdn_row h hl
  subst e
  refine .inr ⟨b, off, rfl, hb, fun i hi => ?_⟩
  obtain ⟨b', off', a0, a1, e, _, _, hx, hc, _⟩ := rdn_row h hi
  cases e
  rw [hx]; exact hc
theorem SlAt.cap {α : Type} {e : Enc α} {S : Bs} {w : World} {l : List α} {ao : Option Addr} {n cap : Nat} (h : SlAt e S w l (.slice ao n cap)) : n = l.length ∧ l.length ≤ cap ∧ (ao = none → cap = 0) := by
  obtain ⟨ao', cap', e1, h2, h3, _⟩ := h
  injection e1 with e1 e2 e3
  subst e1 e3
  exact ⟨e2, h2, h3⟩
theorem attrs_of {S : Bs} {w : World} {l : List AttrV} {ao : Option Addr} {n cap : Nat} (h : SlAt attrE S w l (.slice ao n cap)) : AttrsAt w ao l := by
  by_cases h0 : l = []
  · exact .inl h0
  have hl : 0 < l.length := List.length_pos_iff.2 h0
  obtain ⟨b, off, a0, a1, v1, e, _, hb, _, _⟩ := attr_row h hl
  subst e
  refine .inr ⟨b, off, rfl, hb, fun i hi => ?_⟩
  obtain ⟨b', off', a0, a1, v1, e, _, _, hx, hc, hs, _⟩ := attr_row h hi
  cases e
  rw [hx]
  obtain ⟨o, c, rfl⟩ := hs.sl
  obtain ⟨q1, q2, q3⟩ := hs.cap
  exact ⟨hc.1, o, c, hc.2, strs_of hs, q2, q3⟩
theorem szL_str (l : List ByteArray) : szL strE l = sizeV l := rfl
theorem fits_dn {l : RdnL} (h : l.length + szL rdnE l ≤ 1048576) : Fits l := ⟨by omega, fun r hr => by
  have h1 : rdnE.sz r ≤ szL rdnE l := szL_mem rdnE hr
  have h2 : rdnE.sz r = r.1.size + r.2.size := rfl
  omega⟩
theorem fits_str {l : List ByteArray} (h : l.length + szL strE l ≤ 1048576) : FitsV l := fitsV_of (by rw [szL_str] at h; exact h)
theorem fits_attrs {l : List AttrV} (h : l.length + szL attrE l ≤ 1048576) : FitsA l := ⟨by omega, fun r hr => by
  have h1 : attrE.sz r ≤ szL attrE l := szL_mem attrE hr
  have h2 : attrE.sz r = r.1.size + (r.2.length + szL strE r.2) := rfl
  exact ⟨by omega, fits_str (by omega)⟩⟩
end Go.Proofs.Ytmanlnlhpgdbpaa
/- The helpers of the laws: marks. -/
namespace Go.Proofs.Ytmanlnlhpgdbpaa
open Go.RowKit
attribute [local go_sem ↓] Go.wp_at_zero Go.wp_at_succ

theorem toS_list (l : List UInt8) : (toS l).data.toList = l := by simp [toS]
theorem toS_size (l : List UInt8) : (toS l).size = l.length := by rw [← size_len, toS_list]
theorem one_str (W : World) (n : Nat) (hn : n < 256) :
    (convert 30 9 (.slice (some ⟨W.heap.size, 0, none⟩) 1 1)).run Try.prog (W.alloc (.cells #[.int .u8 (n : Int)] 5)) = .ok (.string ⟨#[UInt8.ofNat n]⟩) (W.alloc (.cells #[.int .u8 (n : Int)] 5)) := by
  refine str22 _ ⟨W.heap.size, 0, none⟩ 1 [UInt8.ofNat n] 1 rfl fun j hj => ?_
  match j, hj with
  | 0, _ =>
    rw [add_plain, World.cell?_alloc_mark]
    simp; omega
set_option maxRecDepth 100000 in
set_option maxHeartbeats 1000000 in
theorem markText_any (n : Nat) (w : World) (h0 : 0 < n) (hn : n ≤ 1000000000) :
    Calls Try.prog 41 #[.int .i64 n] w fun e w' => e = .returned (.string (mkT n)) ∧ Below w.heap.size w w' := by
  go_enter Try.func41, Try.ntmps41
  go_wp2
  go_loopw [0, 3] (fun t u wr => ∃ (f k : Nat) (o : List UInt8), k ≤ n ∧ t = .int .i64 k ∧ u = .string (toS o) ∧ digs 20 n [] = digs f k o ∧ k < 10 ^ f ∧ f ≤ 20 ∧ o.length + f ≤ 20 ∧ Below w.heap.size w wr) (fun t _ _ => (intOf t).toNat)
  case atStart => exact ⟨20, n, [], Nat.le_refl _, rfl, rfl, rfl, by omega, by omega, by simp, Below.refl _ _⟩
  case round =>
    obtain ⟨f, k, o, hk, rfl, rfl, hD, hf, hf2, ho, hbel⟩ := hrel
    have HD := Lib.hid hD; clear hD
    have hsz := hbel.size
    by_cases hk0 : 0 < k
    · obtain ⟨g, rfl⟩ : ∃ g, f = g + 1 := ⟨f - 1, by
        rcases f with _ | f
        · simp at hf; omega
        · simp⟩
      have HN : Hid (digs 20 n [] = digs g (k / 10) (UInt8.ofNat (48 + k % 10) :: o)) := Lib.hid (by rw [HD.out, digs, if_neg (by omega)])
      have HF : Hid (k / 10 < 10 ^ g) := Lib.hid (by rw [Nat.pow_succ] at hf; omega)
      have HC : Hid ((⟨#[UInt8.ofNat (48 + k % 10)]⟩ : ByteArray) ++ toS o = toS (UInt8.ofNat (48 + k % 10) :: o)) := Lib.hid (by apply ByteArray.ext; simp [toS])
      clear hf
      have hos : (toS o).size ≤ 20 := by rw [toS_size]; omega
      have hcv := one_str wr (48 + k % 10) (by omega)
      have hca := cat ⟨#[UInt8.ofNat (48 + k % 10)]⟩ (toS o) (by rw [sz1]; omega)
      have e1 : ((48 + k % 10 : Nat) : Int) = 48 + (k : Int) % 10 := by omega
      rw [e1] at hcv
      clear e1
      generalize UInt8.ofNat (48 + k % 10) = c at *
      go_wp2
      refine ⟨⟨g, k / 10, c :: o, by omega, by go_num, by rw [HC.out], HN.out, HF.out, by omega, by simp only [List.length_cons]; omega, more hbel _⟩, ?_⟩
      simp [intOf]; omega
    · have HE : Hid (⟨#[109]⟩ ++ toS o = mkT n) := Lib.hid (by
        have e : k = 0 := by omega
        subst e
        have : digs f 0 o = o := by cases f <;> simp [digs]
        unfold mkT mkL
        rw [HD.out, this]
        apply ByteArray.ext; simp [toS])
      have hos : (toS o).size ≤ 20 := by rw [toS_size]; omega
      have hca := cat ⟨#[109]⟩ (toS o) (by rw [sz1]; omega)
      go_wp2
      go_ret
      exact ⟨ret_str HE.out, hbel⟩
/-- n pairs of marks, from k on -/
def marks : Nat → Nat → RdnL
  | _, 0 => []
  | k, n + 1 => marks k n ++ [(mkT (k + 2 * n), mkT (k + 2 * n + 1))]
theorem marks_len (k n : Nat) : (marks k n).length = n := by
  induction n with
  | zero => rfl
  | succ n ih => rw [marks, List.length_append, ih]; rfl
theorem marks_get (k n i : Nat) (h : i < n) (h' : i < (marks k n).length) : (marks k n)[i] = (mkT (k + 2 * i), mkT (k + 2 * i + 1)) := by
  induction n with
  | zero => omega
  | succ n ih =>
    have hl := marks_len k n
    simp only [marks]
    by_cases e : i < n
    · rw [List.getElem_append_left (by omega)]; exact ih e (by omega)
    · have : i = n := by omega
      subst this
      rw [List.getElem_append_right (by omega)]
      simp [hl]
/-- a block of pairs, the first k marked, the rest as they were -/
def MarkTo (w : World) (g n k j : Nat) : Prop := ∃ C : Array Value, w.heap[g]? = some (.cells C 97 (0, 0)) ∧ C.size = n * 2 ∧ C.toList.take (j * 2) = rs (marks k j)
theorem MarkTo.below {w w' : World} {g n k j : Nat} (h : MarkTo w g n k j) (hb : Below w.heap.size w w') : MarkTo w' g n k j := by
  obtain ⟨C, h1, h2⟩ := h
  exact ⟨C, (hb.block g (Array.getElem?_eq_some_iff.1 h1).1).trans h1, h2⟩
end Go.Proofs.Ytmanlnlhpgdbpaa
/- The helpers of the laws: marks laid into a name, and found there again. -/
namespace Go.Proofs.Ytmanlnlhpgdbpaa
open Go.RowKit
attribute [local go_sem ↓] Go.wp_at_zero Go.wp_at_succ

theorem grown_of {a b : World} (h : Below a.heap.size a b) (row : Option Nat) : a.grownBy b row := ⟨h.os, h.tape, h.output, h.size, fun k hk _ => h.block k hk⟩
theorem grown_tr {a b c : World} {r : Option Nat} (h : a.grownBy b r) (g : b.grownBy c r) : a.grownBy c r :=
  ⟨g.os.trans h.os, g.tape.trans h.tape, g.output.trans h.output, Nat.le_trans h.size g.size, fun k hk hne => (g.block k (Nat.lt_of_lt_of_le hk h.size) hne).trans (h.block k hk hne)⟩
theorem markText_from (w0 : World) (n : Nat) (w : World) (h0 : 0 < n) (hn : n ≤ 1000000000) (hB : Below w0.heap.size w0 w) :
    Calls Try.prog 41 #[.int .i64 n] w fun e w' => e = .returned (.string (mkT n)) ∧ Below w0.heap.size w0 w' :=
  (markText_any n w h0 hn).mono fun _ _ ⟨he, hb⟩ => ⟨he, hB.trans (hb.mono hB.size)⟩
end Go.Proofs.Ytmanlnlhpgdbpaa
/- AttrOf: the program's copies of texts, and its map of attributes by their names. -/
namespace Go.Proofs.Ytmanlnlhpgdbpaa
open Go.RowKit
attribute [local go_sem ↓] Go.wp_at_zero Go.wp_at_succ

theorem concat_copy (a : ByteArray) (w : World) (h : a.size ≤ 10000000) :
    Calls Try.prog 75 #[.slice (some ⟨w.heap.size, 0, none⟩) 1 1] (w.alloc (.cells #[.string a] 9)) fun e w' => e = .returned (.string a) ∧ Below w.heap.size w w' := by
  have := concat_any w.heap.size 0 1 [a] (w.alloc (.cells #[.string a] 9)) (by simp) (by simp) (by simp [joinL]; omega) (fun i hi => by
    match i, hi with
    | 0, _ => simp)
  rw [joinS_one] at this
  exact this.mono fun e w' ⟨he, hb⟩ => ⟨he, ((Below.refl _ _).alloc (Nat.le_refl _) _).trans (hb.mono (by simp))⟩
theorem take_snoc' {α : Type} (l : List α) (k : Nat) (h : k < l.length) : l.take (k + 1) = l.take k ++ [l[k]] := List.take_succ_eq_append_getElem h
set_option maxRecDepth 100000 in
set_option maxHeartbeats 1000000 in
theorem copyTexts_any (vo : Option Addr) (V : List ByteArray) (vc : Nat) (w : World) (hd : StrsAt w vo V) (hf : FitsV V) :
    Calls Try.prog 68 #[.slice vo V.length vc] w fun e w' => (∃ v, e = .returned v ∧ w'.ownsRow w.heap.size 9 1 v V.length (ss V)) ∧ Below w.heap.size w w' := by
  have hl := hf.1
  have HD := Lib.hid hd; have HF := Lib.hid hf; clear hd hf
  go_enter Try.func68, Try.ntmps68
  go_wp2_with fail
  go_loopw [3, 8] (fun v i wr => ∃ k : Nat, k ≤ V.length ∧ i = .int .i64 k ∧ wr.ownsRow w.heap.size 9 1 v (V.take k).length (ss (V.take k)) ∧ Below w.heap.size w wr) (fun _ i _ => V.length - (intOf i).toNat)
  case atStart => exact ⟨0, Nat.zero_le _, rfl, ⟨rfl, .inl ⟨rfl, rfl⟩⟩, Below.refl _ _⟩
  case round =>
    obtain ⟨k, hk, rfl, hown, hbel⟩ := hrel
    have hsz := hbel.size
    by_cases hlt : k < V.length
    · obtain ⟨p, off, rfl, hp0, hd1⟩ := HD.out.at hlt
      have hz := HF.out.at hlt
      have c1 := (hbel.cell (p := ⟨p, off + k, none⟩) hp0).trans hd1
      have HN := Lib.hid (take_snoc' V k hlt)
      have HL : Hid ((V.take k).length ≤ 1000000000) := Lib.hid (by simp; omega)
      have g1 : (0 : Int) ≤ (k : Int) := by omega
      have g2 : (k : Int) < (V.length : Int) := by omega
      clear hd1
      generalize V[k] = x at *
      generalize V.take k = pre at *
      go_wp2_with (first
        | (go_at_call 75; refine (concat_copy x wr (by omega)).mono ?_; rintro e w3 ⟨rfl, hb3⟩; have O3 := own_below hown hb3; have L3 := Nat.le_trans hsz hb3.size; have B3 := hbel.trans (hb3.mono hsz); clear hb3)
        | (at_builtin; refine append_str w.heap.size rfl _ _ rfl _ pre rfl O3 _ rfl HL.out L3 B3 ?_; intro v4 w4 hown4 hbel4 hsz4 _ _)
        | (fail "none"))
      go_roundw
      case rel => exact ⟨k + 1, by omega, by go_num, by rw [HN.out]; exact hown4, hbel4⟩
      case measure => simp [intOf]; omega
    · obtain rfl : k = V.length := by omega
      have HO : Hid (wr.ownsRow w.heap.size 9 1 u3 V.length (ss V)) := Lib.hid (by have h := hown; rw [List.take_length] at h; exact h)
      clear hown
      go_wp2
      go_ret
      exact ⟨⟨_, rfl, HO.out⟩, hbel⟩

end Go.Proofs.Ytmanlnlhpgdbpaa
/- joinRdns: what the program's text returns. -/
namespace Go.Proofs.Ytmanlnlhpgdbpaa
open Go.RowKit
attribute [local go_sem ↓] Go.wp_at_zero Go.wp_at_succ

set_option maxRecDepth 100000 in
set_option maxHeartbeats 2000000 in
theorem joinRdns_any (pb po pc : Nat) (ps : List (Option Addr × Nat × RdnL)) (w : World) (hp : PartsAt w pb po ps) (hm : ps.length ≤ 10) :
    Calls Try.prog 62 #[.slice (some ⟨pb, po, none⟩) ps.length pc] w fun e w' => (∃ v, e = .returned v ∧ w'.ownsRow w.heap.size 97 2 v (flat ps).length (rs (flat ps))) ∧ Below w.heap.size w w' := by
  have HP := Lib.hid hp; clear hp
  go_enter Try.func62, Try.ntmps62
  go_wp2
  go_loopw [3, 9] (fun v i wr => ∃ k : Nat, k ≤ ps.length ∧ i = .int .i64 k ∧ wr.ownsRow w.heap.size 97 2 v (flat (ps.take k)).length (rs (flat (ps.take k))) ∧ Below w.heap.size w wr) (fun _ i _ => ps.length - (intOf i).toNat)
  case atStart => exact ⟨0, Nat.zero_le _, rfl, ⟨rfl, .inl ⟨rfl, rfl⟩⟩, Below.refl _ _⟩
  case round =>
    obtain ⟨k, hk, rfl, hown, hbel⟩ := hrel
    by_cases hlt : k < ps.length
    · obtain ⟨hc0, hd, hf⟩ := HP.out.2 k hlt
      have hc := (hbel.cell (p := ⟨pb, po + k, none⟩) HP.out.1).trans hc0
      have hl := hf.1
      have HF := Lib.hid (flat_succ ps k hlt)
      have hown0 : wr.ownsRow w.heap.size 97 2 u3 (flat (ps.take k) ++ ps[k].2.2.take 0).length (rs (flat (ps.take k) ++ ps[k].2.2.take 0)) := by rw [List.take_zero, List.append_nil]; exact hown
      have HO := Lib.hid hown0; have HD := Lib.hid hd; have HFi := Lib.hid hf; have HC0 := Lib.hid hc0
      clear hown hown0 hd hf hc0
      have hpl := HP.out.len hm k
      generalize flat (ps.take k) = pre at *
      generalize ps[k].1 = ao at *
      generalize ps[k].2.1 = cp at *
      generalize ps[k].2.2 = d at *
      go_wp2_with fail
      go_loopw [3, 17] (fun v i wr => ∃ j : Nat, j ≤ d.length ∧ i = .int .i64 j ∧ wr.ownsRow w.heap.size 97 2 v (pre ++ d.take j).length (rs (pre ++ d.take j)) ∧ Below w.heap.size w wr) (fun _ i _ => d.length - (intOf i).toNat)
      case atStart => exact ⟨0, Nat.zero_le _, rfl, HO.out, hbel⟩
      case round =>
        clear hc HO hbel
        obtain ⟨j, hj, rfl, hown, hbel⟩ := hrel
        have hc := (hbel.cell (p := ⟨pb, po + k, none⟩) HP.out.1).trans HC0.out
        by_cases hjlt : j < d.length
        · obtain ⟨b, off, rfl, hb0, hd1, hd2⟩ := HD.out.at hjlt
          have hc1 := (hbel.cell (p := ⟨b, off + j * 2, none⟩) hb0).trans hd1
          have hc2 := (hbel.cell (p := ⟨b, off + j * 2 + 1, none⟩) hb0).trans hd2
          have hz := HFi.out.small hjlt
          have HN : Hid (d.take (j + 1) = d.take j ++ [d[j]]) := Lib.hid (List.take_succ_eq_append_getElem hjlt)
          clear hd1 hd2
          have HR : Hid (u3.ownBlock ≠ some wr.heap.size) := Lib.hid (fun e => by have := (hown.lt _ e).2; omega)
          have HO := Lib.hid hown
          have hpl2 : Hid ((pre ++ d.take j).length ≤ 1000000000) := Lib.hid (by rw [List.length_append, List.length_take]; omega)
          have HD2 : Hid (d[j] = (d[j].1, d[j].2)) := Lib.hid rfl
          generalize d[j].1 = A at *
          generalize d[j].2 = V at *
          go_wp2_with fail
          refine wp_world (fun W => (W.cell? ⟨wr.heap.size, 0, none⟩ = some (.string A) ∧ W.cell? ⟨wr.heap.size, 1, none⟩ = some (.string V)) ∧ W.ownsRow w.heap.size 97 2 u3 (pre ++ d.take j).length (rs (pre ++ d.take j)) ∧ Below w.heap.size w W)
            ⟨⟨by simp, by simp⟩, HO.out.alloc _, more hbel _⟩ ?_
          rintro W0 ⟨hW1, hW2, hW3⟩
          have HO2 := Lib.hid hW2
          generalize wr.heap.size = R at *
          clear hown HO hW2 hc hc1 hc2 hbel
          have hW4 : Below W0.heap.size W0 W0.drew := (Below.refl _ _).drew
          obtain ⟨hz1, hz2⟩ := hz
          go_region_held3 (fun W => W.cell? ⟨R, 0, none⟩ = some (.string A) ∧ W.cell? ⟨R, 1, none⟩ = some (.string V))
            (first | go_keep | exact keep_far hg5 HR.out (by assumption) | exact keep_two hb2 (by assumption))
            (first
              | (go_at_call 75; refine (concat_at W0 _ A _ hz1 ?_ ?_ ?_).mono ?_; (focus (first | (simp; done) | (simp; omega) | (exact Nat.lt_of_lt_of_le (by first | (simp; done) | (simp; omega)) hb2.size))); (focus (first | (simp; done) | (rw [bc _ _ (by first | (simp; done) | (simp; omega))]; simp; done))); (focus (first | assumption | exact more (by assumption) _ | exact (more (Below.refl _ _) _).drew | exact (more (more (Below.refl _ _) _) _).drew)); rintro e w2 ⟨rfl, hq2, hb2⟩; obtain ⟨bc, bf⟩ := bcell hb2)
              | (go_at_call 75; refine (concat_at W0 _ V _ hz2 ?_ ?_ ?_).mono ?_; (focus (first | (simp; done) | (simp; omega) | (exact Nat.lt_of_lt_of_le (by first | (simp; done) | (simp; omega)) hb2.size))); (focus (first | (simp; done) | (rw [bc _ _ (by first | (simp; done) | (simp; omega))]; simp; done))); (focus (first | assumption | exact more (by assumption) _ | exact (more (Below.refl _ _) _).drew | exact (more (more (Below.refl _ _) _) _).drew)); rintro e w2 ⟨rfl, hq2, hb2⟩; obtain ⟨bc, bf⟩ := bcell hb2)
              | (refine step_rdn2 w.heap.size (by rfl) _ _ (by rfl) _ (pre ++ d.take j) (by rfl) (own_below HO2.out hq2) _ _ (by rfl) hpl2.out (Nat.le_trans hW3.size hq2.size) (hW3.trans (hq2.mono hW3.size)) ?_; intro g cp5 w5 hown5 hbel5 hg5)
              | (fail "none"))
          all_goals
            rw [show (pre ++ d.take j).length + 1 = pre.length + j + 1 by rw [List.length_append, List.length_take]; omega] at hown5
            have HO5 := Lib.hid hown5
            clear hown5 bc bf
            go_wp2
            go_roundw
            case rel => exact ⟨j + 1, by omega, by go_num, by rw [HN.out, HD2.out, ← List.append_assoc]; exact HO5.out, hbel5⟩
            case measure => simp [intOf]; omega
        · have e : d.take j = d := List.take_of_length_le (by omega)
          rw [e] at hown
          have HO := Lib.hid hown
          clear hown e
          go_wp2
          go_roundw
          case rel => exact ⟨k + 1, by omega, by go_num, by rw [HF.out]; exact HO.out, hbel⟩
          case measure => simp [intOf]; omega
    · have e : ps.take k = ps := List.take_of_length_le (by omega)
      rw [e] at hown
      have HO := Lib.hid hown
      clear hown e
      go_wp2
      go_ret
      exact ⟨⟨_, rfl, HO.out⟩, hbel⟩
end Go.Proofs.Ytmanlnlhpgdbpaa
/- Rows that the program makes, as owned ones; names joined. -/
namespace Go.Proofs.Ytmanlnlhpgdbpaa
open Go.RowKit

theorem own_rdns {T : TypeId} {B : Nat} {w : World} {v : Value} {l : RdnL} (h : w.ownsRow B T 2 v l.length (rs l)) : SlOwn rdnE (fun b => B ≤ b ∧ b < w.heap.size) w l v :=
  Grow.own (e := rdnE) (T := T) (xs := rs l) ⟨h, fun _ => Nil, fun i _ => ⟨fun b x => x.elim, fun _ _ x => x⟩, fun _ _ _ _ _ _ x => x.elim, fun i hi => ⟨[.string l[i].1, .string l[i].2], fun j hj => by
    obtain ⟨g0, g1⟩ := rs_get l i hi
    match j, hj with
    | 0, _ => exact g0
    | 1, _ => exact g1, rdn_pack (S := Nil) (w := w) l[i].1 l[i].2 trivial⟩⟩
theorem own_nilS {α : Type} (e : Enc α) (S : Bs) (w : World) : SlOwn e S w [] (.slice none 0 0) := ⟨none, 0, rfl, Nat.le_refl _, fun _ => rfl, .inl rfl⟩
/-- one name joined is a copy of it -/
theorem joinOne_any (o k : _) (dn : RdnL) (W : World) (T : TypeId) (hd : DnAt W o dn) (hf : Fits dn) : Calls Try.prog 62 #[.slice (some ⟨W.heap.size, 0, none⟩) 1 1] (W.alloc (.cells #[.slice o dn.length k] T)) fun e w' => ∃ u, e = .returned u ∧ SlOwn rdnE (Fresh W w') w' dn u ∧ Below W.heap.size W w' := by
  have := joinRdns_any W.heap.size 0 1 [(o, k, dn)] (W.alloc (.cells #[.slice o dn.length k] T)) ⟨by simp, fun i hi => by
    match i, hi with
    | 0, _ => exact ⟨by simp, hd.below (more' (Below.refl _ _) _), hf⟩⟩ (by simp)
  have e : flat [(o, k, dn)] = dn := by simp [flat]
  rw [e] at this
  exact this.mono fun e w' ⟨⟨v, he, ho⟩, hb⟩ => ⟨v, he, (own_rdns ho).wide (fun b h => ⟨by have h1 : (W.alloc (.cells #[.slice o dn.length k] T)).heap.size ≤ b := h.1; have h2 : (W.alloc (.cells #[.slice o dn.length k] T)).heap.size = W.heap.size + 1 := World.size_alloc W _; omega, h.2⟩), (more' (Below.refl _ _) _).trans (hb.mono (by simp))⟩
end Go.Proofs.Ytmanlnlhpgdbpaa
/- The program copies a Attr. -/
namespace Go.Proofs.Ytmanlnlhpgdbpaa
open Go.RowKit
attribute [local go_sem ↓] Go.wp_at_zero Go.wp_at_succ

set_option maxRecDepth 100000 in
set_option maxHeartbeats 4000000 in
theorem cpyAttr_any {S : Bs} (a0 : ByteArray) (a1 : (List ByteArray)) (v1 : Value) (w : World) (h1 : SlAt strE S w a1 v1) (hz : attrE.sz (a0, a1) ≤ 1048576) :
    Calls Try.prog 96 #[.agg #[.string a0, v1]] w fun e w' => ∃ u1, e = .returned (.agg #[.string a0, u1]) ∧ attrE.Own (Fresh w w') w' (a0, a1) [.string a0, u1] ∧ Below w.heap.size w w' := by
  have HE : attrE.sz (a0, a1) = a0.size + ((a1.length + szL strE a1)) := rfl
  rw [HE] at hz
  obtain ⟨o1, k1, rfl⟩ := h1.sl
  have z0 : a0.size ≤ 1048576 := by omega
  have CT1 : Hid (∀ W : World, Below w.heap.size w W → Calls Try.prog 68 #[.slice o1 a1.length k1] W fun e w' => ∃ u, e = .returned u ∧ SlOwn strE (Fresh W w') w' a1 u ∧ Below W.heap.size W w') := Lib.hid (fun W b => (copyTexts_any o1 a1 k1 W ((strs_of h1).below b) (fits_str (by omega))).mono fun e w' ⟨⟨v, he, ho⟩, hb⟩ => ⟨v, he, own_texts ho, hb⟩)
  clear h1 hz HE
  go_enter Try.func96, Try.ntmps96
  go_wp2
  refine wp_world (fun W => Below w.heap.size w W ∧ Blk W w.heap.size [.string a0, .slice o1 a1.length k1] ∧ Blk W (w.heap.size + 1) [.string ⟨#[]⟩, .slice none 0 0]) ⟨more' (more' (Below.refl _ _) _) _, (Blk.new _ _ _).alloc _, blk_at _ _ _ (by simp)⟩ ?_
  rintro W0 ⟨B, ta, tr⟩
  have TA := Lib.hid ta; have TR := Lib.hid tr
  have hn : w.heap.size + 1 < W0.heap.size := tr.lt
  clear ta tr
  have SK : Hid (∀ Z' : World, Below W0.heap.size W0 Z' → Z'.cell? ⟨w.heap.size, 0, none⟩ = some (.string a0) ∧ Z'.cell? ⟨w.heap.size, 1, none⟩ = some (.slice o1 a1.length k1)) := Lib.hid (fun Z' h => ⟨(TA.out.below h).cell 0 rfl, (TA.out.below h).cell 1 rfl⟩)
  have BD : Below W0.heap.size W0 W0.drew := (Below.refl _ _).drew
  refine wp_region_held_drew (S := (fun Z' => Z'.cell? ⟨w.heap.size, 0, none⟩ = some (.string a0) ∧ Z'.cell? ⟨w.heap.size, 1, none⟩ = some (.slice o1 a1.length k1))) (by kernel_rfl) ?_ (fun hHeld => ?_)
  · (try dsimp only)
    first | exact SK.out _ (by assumption) | exact SK.out _ BD | exact SK.out _ (more' (by assumption) _) | exact SK.out _ (more' BD _) | exact SX.out _ _
  refine wpAnyH_take (i := 0) (oi := { dst := some 3, op := Op.fieldAddr 62 (Operand.tmp 1) 0, type := 0, pos := "l03_entry.go:112", after := #[], guard := none }) (v := ?_) rfl (by kernel_rfl) (by kernel_rfl) (by kernel_rfl) (fun _ _ _ h => h) (Or.inl ⟨by rfl, ?_⟩) (by assumption) ?_
  rotate_left
  · intro w hSw; (try dsimp only at hSw); go_simp; (try with_reducible rfl)
  (try simp only [Act.put, List.setIfInBounds_toArray, List.set_cons_zero, List.set_cons_succ])
  refine wpAnyH_take (i := 1) (oi := { dst := some 4, op := Op.load 9 (Operand.tmp 3), type := 9, pos := "l03_entry.go:112", after := #[{ on := 0, ground := Ground.data }], guard := none }) (v := ?_) rfl (by kernel_rfl) (by kernel_rfl) (by kernel_rfl) (fun _ _ _ h => h) (Or.inl ⟨by rfl, ?_⟩) (by assumption) ?_
  rotate_left
  · intro w hSw; (try dsimp only at hSw); go_simp; (try with_reducible rfl)
  (try simp only [Act.put, List.setIfInBounds_toArray, List.set_cons_zero, List.set_cons_succ])
  refine wpAnyH_take (i := 4) (oi := { dst := some 7, op := Op.fieldAddr 62 (Operand.tmp 1) 1, type := 0, pos := "l03_entry.go:112", after := #[], guard := none }) (v := ?_) rfl (by kernel_rfl) (by kernel_rfl) (by kernel_rfl) (fun _ _ _ h => h) (Or.inl ⟨by rfl, ?_⟩) (by assumption) ?_
  rotate_left
  · intro w hSw; (try dsimp only at hSw); go_simp; (try with_reducible rfl)
  (try simp only [Act.put, List.setIfInBounds_toArray, List.set_cons_zero, List.set_cons_succ])
  refine wpAnyH_take (i := 5) (oi := { dst := some 8, op := Op.load 40 (Operand.tmp 7), type := 40, pos := "l03_entry.go:112", after := #[{ on := 4, ground := Ground.data }], guard := none }) (v := ?_) rfl (by kernel_rfl) (by kernel_rfl) (by kernel_rfl) (fun _ _ _ h => h) (Or.inl ⟨by rfl, ?_⟩) (by assumption) ?_
  rotate_left
  · intro w hSw; (try dsimp only at hSw); go_simp; (try with_reducible rfl)
  (try simp only [Act.put, List.setIfInBounds_toArray, List.set_cons_zero, List.set_cons_succ])
  refine wpAnyH_ready (rs := [2]) (by kernel_rfl) (by simp) ?_
  refine AllReadyH.cons (o := { dst := some 5, op := Op.buildSlice 40 1 #[(0, Operand.tmp 4)], type := 40, pos := "l03_entry.go:112", after := #[{ on := 1, ground := Ground.data }], guard := none }) rfl (fun K hK => ?_) (AllReadyH.nil)
  go_simp
  clear hHeld
  refine hK.out _ _ ?_ (fun hHeld => ?_)
  · (try dsimp only)
    first | exact SK.out _ (by assumption) | exact SK.out _ BD | exact SK.out _ (more' (by assumption) _) | exact SK.out _ (more' BD _) | exact SX.out _ _
  clear hK K
  (try simp only [Act.put, List.setIfInBounds_toArray, List.set_cons_zero, List.set_cons_succ])
  refine wpAnyH_ready (rs := [3]) (by kernel_rfl) (by simp) ?_
  refine AllReadyH.cons (o := { dst := some 6, op := Op.call { callee := Callee.value (Operand.func 75), args := #[Operand.tmp 5], argTypes := #[40] }, type := 9, pos := "l03_entry.go:112", after := #[{ on := 2, ground := Ground.data }], guard := none }) rfl (fun K hK => ?_) (AllReadyH.nil)
  go_simp
  refine (concat_copy a0 W0.drew (by omega)).mono ?_
  rintro e w1 ⟨rfl, hb⟩
  have D1 : Below W0.heap.size W0 w1 := BD.trans (hb.mono BD.size)
  have b1 : Below w.heap.size w w1 := B.trans (D1.mono B.size)
  have hs1 : W0.heap.size ≤ w1.heap.size := hb.size
  clear hb
  clear hHeld
  refine hK.out _ _ ?_ (fun hHeld => ?_)
  · (try dsimp only)
    first | exact SK.out _ (by assumption) | exact SK.out _ BD | exact SK.out _ (more' (by assumption) _) | exact SK.out _ (more' BD _) | exact SX.out _ _
  clear hK K
  (try simp only [Act.put, List.setIfInBounds_toArray, List.set_cons_zero, List.set_cons_succ])
  refine wpAnyH_ready (rs := [6]) (by kernel_rfl) (by simp) ?_
  refine AllReadyH.cons (o := { dst := some 9, op := Op.call { callee := Callee.value (Operand.func 68), args := #[Operand.tmp 8], argTypes := #[40] }, type := 40, pos := "l03_entry.go:112", after := #[{ on := 5, ground := Ground.data }, { on := 3, ground := Ground.chain }], guard := none }) rfl (fun K hK => ?_) (AllReadyH.nil)
  go_simp
  refine (CT1.out w1 b1).mono ?_
  rintro e w2 ⟨u1, rfl, q1, hb⟩
  have D2 : Below W0.heap.size W0 w2 := D1.trans (hb.mono D1.size)
  have b2 : Below w.heap.size w w2 := B.trans (D2.mono B.size)
  have hs2 : w1.heap.size ≤ w2.heap.size := hb.size
  have Q1 := Lib.hid q1; obtain ⟨p1, e1, rfl⟩ := q1.at.sl; clear q1
  clear hb
  have TX := Lib.hid (TA.out.below D2); have RX := Lib.hid (TR.out.below D2)
  have x0 := RX.out.cell 0 rfl; have f0 := RX.out.soft 0
  have x1 := RX.out.cell 1 rfl; have f1 := RX.out.soft 1
  have SX : Hid (∀ y0 y1 : Value, ((w2.setCell ⟨w.heap.size + 1, 0, none⟩ y0).setCell ⟨w.heap.size + 1, 1, none⟩ y1).cell? ⟨w.heap.size, 0, none⟩ = some (.string a0) ∧ ((w2.setCell ⟨w.heap.size + 1, 0, none⟩ y0).setCell ⟨w.heap.size + 1, 1, none⟩ y1).cell? ⟨w.heap.size, 1, none⟩ = some (.slice o1 a1.length k1)) := Lib.hid (fun y0 y1 => ⟨((TX.out.far (by omega) y0).far (by omega) y1).cell 0 rfl, ((TX.out.far (by omega) y0).far (by omega) y1).cell 1 rfl⟩)
  clear hHeld
  refine hK.out _ _ ?_ (fun hHeld => ?_)
  · (try dsimp only)
    first | exact SK.out _ (by assumption) | exact SK.out _ BD | exact SK.out _ (more' (by assumption) _) | exact SK.out _ (more' BD _) | exact SX.out _ _
  clear hK K
  (try simp only [Act.put, List.setIfInBounds_toArray, List.set_cons_zero, List.set_cons_succ])
  refine wpAnyH_take (i := 7) (oi := { dst := some 10, op := Op.build 62 #[(0, Operand.tmp 6), (1, Operand.tmp 9)], type := 62, pos := "l03_entry.go:112", after := #[{ on := 3, ground := Ground.data }, { on := 6, ground := Ground.data }], guard := none }) (v := ?_) rfl (by kernel_rfl) (by kernel_rfl) (by kernel_rfl) (fun _ _ _ h => h) (Or.inl ⟨by rfl, ?_⟩) (by assumption) ?_
  rotate_left
  · intro w hSw; (try dsimp only at hSw); go_simp; (try with_reducible rfl)
  (try simp only [Act.put, List.setIfInBounds_toArray, List.set_cons_zero, List.set_cons_succ])
  refine wpAnyH_ready (rs := [8]) (by kernel_rfl) (by simp) ?_
  refine AllReadyH.cons (o := { dst := none, op := Op.store 62 (Operand.tmp 2) (Operand.tmp 10), type := 0, pos := "l03_entry.go:112", after := #[{ on := 7, ground := Ground.data }, { on := 6, ground := Ground.chain }, { on := 0, ground := Ground.phase }, { on := 1, ground := Ground.phase }, { on := 2, ground := Ground.phase }, { on := 3, ground := Ground.phase }, { on := 4, ground := Ground.phase }, { on := 5, ground := Ground.phase }, { on := 6, ground := Ground.phase }, { on := 7, ground := Ground.phase }], guard := none }) rfl (fun K hK => ?_) (AllReadyH.nil)
  go_simp
  clear hHeld
  refine hK.out _ _ ?_ (fun hHeld => ?_)
  · (try dsimp only)
    first | exact SK.out _ (by assumption) | exact SK.out _ BD | exact SK.out _ (more' (by assumption) _) | exact SK.out _ (more' BD _) | exact SX.out _ _
  clear hK K
  (try simp only [Act.put, List.setIfInBounds_toArray, List.set_cons_zero, List.set_cons_succ])
  refine wpAnyH_done (by kernel_rfl) ?_ _
  have TE := ((RX.out.set 0 (.string a0)).set 1 (.slice p1 a1.length e1))
  have j0 := TE.cell 0 rfl
  have j1 := TE.cell 1 rfl
  clear TE
  go_wp2
  refine bodyPost_ret (v := .agg #[.string a0, .slice p1 a1.length e1]) (by simp [results, Try.results96, go_sem, j0, j1]) rfl ⟨_, rfl, ?_, ?_⟩
  · have hdr : W0.drew.heap.size = W0.heap.size := rfl
    have g1 := ((Q1.out.frame (Same.set _ (g := w.heap.size + 1) 0 (.string a0) (by intro h; have := h.1; omega))).frame (Same.set _ (g := w.heap.size + 1) 1 (.slice p1 a1.length e1) (by intro h; have := h.1; omega)))
    exact attr_pack a0 a1 _ (Fresh w1 w2) ⟨g1, fun k z => ⟨by have := z.1; omega, by have := z.2; show _ < (World.heap _).size; simp only [setCell_size]; omega⟩, trivial⟩
  · exact ((b2.setCell (p := ⟨w.heap.size + 1, 0, none⟩) (by show w.heap.size ≤ w.heap.size + 1; omega) _).setCell (p := ⟨w.heap.size + 1, 1, none⟩) (by show w.heap.size ≤ w.heap.size + 1; omega) _)
end Go.Proofs.Ytmanlnlhpgdbpaa
/- The helpers of the laws: copies. -/
namespace Go.Proofs.Ytmanlnlhpgdbpaa
open Go.RowKit
attribute [local go_sem ↓] Go.wp_at_zero Go.wp_at_succ

theorem Try.infoTString : (Try.prog.info? 9).map (fun i => (i.zero, i.size, i.bytes)) = some (some (.string ByteArray.empty), 1, 16) := by kernel_rfl
theorem mkString (n : Nat) (hn : n ≤ 1048576) (W : World) : ∃ C : Array Value, C.size = n * 1 ∧
    (Instr.makeSlice 40 (.int .i64 (n : Int)) (.int .i64 (n : Int))).run Try.prog W = .ok (.slice (some ⟨W.heap.size, 0, none⟩) n n) (W.alloc (.cells C 9)) := by
  obtain ⟨i0, hi, hz0, hz1, hz2⟩ := info_parts Try.infoTString
  have := run_make (P := Try.prog) W 40 9 i0 _ Try.underlying40 hi hz0 .i64 .i64 (n : Int) (n : Int) (by omega) (by omega) (by rw [hz2]; omega) (by omega)
  rw [hz1] at this
  refine ⟨madeCells (Value.cells (.string ByteArray.empty)) (n * 1), size_madeCells _ _, ?_⟩
  simpa using this
set_option maxRecDepth 100000 in
set_option maxHeartbeats 4000000 in
theorem toStringS_at {S : Bs} (v : Value) (d : List ByteArray) (w : World) (hd : SlAt strE S w d v) (hz : d.length + szL strE d ≤ 1048576) :
    Calls Try.prog 139 #[v] w fun e w' => ∃ u, e = .returned u ∧ SlOwn strE (Fresh w w') w' d u ∧ Below w.heap.size w w' := by
  obtain ⟨ao, cap, rfl⟩ := hd.sl
  have HD := Lib.hid hd; clear hd
  have HL := Lib.hid hz
  have hl : d.length ≤ 1048576 := by omega
  clear hz
  obtain ⟨C, hC, hmk⟩ := mkString d.length hl w
  have HC := Lib.hid hC; clear hC
  go_enter Try.func139, Try.ntmps139
  go_wp2
  clear hmk
  go_loopw [4] (fun i wr => ∃ k : Nat, k ≤ d.length ∧ i = .int .i64 k ∧ Build strE wr w.heap.size d.length (d.take k) ∧ Below w.heap.size w wr) (fun i _ => d.length - (intOf i).toNat)
  case atStart => exact ⟨0, Nat.zero_le _, rfl, Build.new _ _ _ _ HC.out, (Below.refl _ _).alloc (Nat.le_refl _) _⟩
  case round =>
    obtain ⟨k, hk, rfl, hR, hbel⟩ := hrel
    have HR := Lib.hid hR; clear hR
    have hsz := hbel.size
    by_cases hlt : k < d.length
    · obtain ⟨b, off, A, rfl, _, hb0, hx, hc1⟩ := str_row (HD.out.frame (Same.of_below' hbel)) hlt
      have HT : Hid (d.take (k + 1) = d.take k ++ [A]) := Lib.hid (by rw [List.take_succ_eq_append_getElem hlt, hx])
      have HK : Hid ((d.take k).length = k) := Lib.hid (by rw [List.length_take]; omega)
      clear hx
      obtain ⟨x, c0⟩ := HR.out.cell (k := k) (u := 0) hlt (by decide)
      have c0 : wr.cell? ⟨w.heap.size, k, none⟩ = some x := by have e1 : k * strE.n + 0 = k := by (show k * 1 + 0 = k); omega
                                                               rw [e1] at c0; exact c0
      have f0 := HR.out.soft k
      go_wp2
      go_roundw
      case rel => exact ⟨k + 1, by omega, by go_num, by rw [HT.out]; exact HR.out.row (o := k) (cs := [.string A]) (by rw [HK.out]; exact hlt) (by rw [HK.out]; show k = k * 1; omega) (Below.refl _ _) rfl, hbel.setCell (Nat.le_refl _) _⟩
      case measure => simp [intOf]; omega
    · have e : d.take k = d := List.take_of_length_le (by omega)
      rw [e] at HR
      clear e
      go_wp2
      go_ret
      exact ⟨_, rfl, HR.out.own, hbel⟩
end Go.Proofs.Ytmanlnlhpgdbpaa
/- The helpers of the laws: copies. -/
namespace Go.Proofs.Ytmanlnlhpgdbpaa
open Go.RowKit
attribute [local go_sem ↓] Go.wp_at_zero Go.wp_at_succ

theorem Try.infoTAttr : (Try.prog.info? 62).map (fun i => (i.zero, i.size, i.bytes)) = some (some (.agg #[.string ByteArray.empty, .slice none 0 0]), 2, 40) := by kernel_rfl
theorem mkAttr (n : Nat) (hn : n ≤ 1048576) (W : World) : ∃ C : Array Value, C.size = n * 2 ∧
    (Instr.makeSlice 37 (.int .i64 (n : Int)) (.int .i64 (n : Int))).run Try.prog W = .ok (.slice (some ⟨W.heap.size, 0, none⟩) n n) (W.alloc (.cells C 62)) := by
  obtain ⟨i0, hi, hz0, hz1, hz2⟩ := info_parts Try.infoTAttr
  have := run_make (P := Try.prog) W 37 62 i0 _ Try.underlying37 hi hz0 .i64 .i64 (n : Int) (n : Int) (by omega) (by omega) (by rw [hz2]; omega) (by omega)
  rw [hz1] at this
  refine ⟨madeCells (Value.cells (.agg #[.string ByteArray.empty, .slice none 0 0])) (n * 2), size_madeCells _ _, ?_⟩
  simpa using this
set_option maxRecDepth 100000 in
set_option maxHeartbeats 4000000 in
theorem toAttr_at {S : Bs} (a0 : ByteArray) (a1 : (List ByteArray)) (v1 : Value) (w : World) (h1 : SlAt strE S w a1 v1) (hz : attrE.sz (a0, a1) ≤ 1048576) :
    Calls Try.prog 125 #[.agg #[.string a0, v1]] w fun e w' => ∃ u1, e = .returned (.agg #[.string a0, u1]) ∧ attrE.Own (Fresh w w') w' (a0, a1) [.string a0, u1] ∧ Below w.heap.size w w' := by
  have HE : attrE.sz (a0, a1) = a0.size + ((a1.length + szL strE a1)) := rfl
  rw [HE] at hz
  have C1 : Hid (∀ W : World, Below w.heap.size w W → Calls Try.prog 139 #[v1] W fun e w' => ∃ u, e = .returned u ∧ SlOwn strE (Fresh W w') w' a1 u ∧ Below W.heap.size W w') := Lib.hid (fun W b => toStringS_at v1 a1 W (h1.frame (Same.of_below' b)) (by omega))
  obtain ⟨o1, k1, rfl⟩ := h1.sl
  clear hz HE h1
  go_enter Try.func125, Try.ntmps125
  go_wp2_with fail
  refine calls_by (fun W => Below w.heap.size w W ∧ Blk W w.heap.size [.string a0, .slice o1 a1.length k1] ∧ Blk W (w.heap.size + 1) [.string ⟨#[]⟩, .slice none 0 0] ∧ Blk W (w.heap.size + 1 + 1) [.string a0, .slice none 0 0]) ⟨more' (more' (more' (Below.refl _ _) _) _) _, ((Blk.new _ _ _).alloc _).alloc _, (blk_at _ _ _ (by simp)).alloc _, blk_at _ _ _ (by simp)⟩ ?_
  rintro W0 ⟨b0, t0, r0, s0⟩
  have hn : w.heap.size + 1 + 1 < W0.heap.size := s0.lt
  refine (C1.out W0 b0).mono ?_
  rintro e y1 ⟨u1, rfl, q1, hb⟩
  obtain ⟨p1, j1, rfl⟩ := q1.at.sl
  have T := Lib.hid (t0.below hb); have Rr := Lib.hid (r0.below hb); have U := Lib.hid (s0.below hb); have B := Lib.hid (b0.trans (hb.mono b0.size)); have hs1 := hb.size
  have Q1 := Lib.hid q1
  clear t0 r0 s0 b0 hb q1 C1
  have m0 := T.out.cell 0 rfl
  have c0 := U.out.cell 0 rfl
  have f0 := U.out.soft 0
  have m1 := T.out.cell 1 rfl
  have c1 := U.out.cell 1 rfl
  have f1 := U.out.soft 1
  have TE := (((Rr.out.far (R := w.heap.size + 1 + 1) (j := 1) (by omega) (.slice p1 a1.length j1)).set 0 (.string a0)).set 1 (.slice p1 a1.length j1))
  have d0 := Rr.out.cell 0 rfl
  have g0 := Rr.out.soft 0
  have k100 := TE.cell 0 rfl
  have d1 := Rr.out.cell 1 rfl
  have g1 := Rr.out.soft 1
  have k101 := TE.cell 1 rfl
  clear TE
  go_wp2_with fail
  refine bodyPost_ret (v := .agg #[.string a0, .slice p1 a1.length j1]) (by simp [results, Try.results125, go_sem, k100, k101]) rfl ⟨_, rfl, ?_, ?_⟩
  · exact attr_pack a0 a1 _ (Fresh W0 y1) ⟨(((Q1.out.frame (Same.set _ _ _ (by intro h; have := h.1; omega))).frame (Same.set _ _ _ (by intro h; have := h.1; omega))).frame (Same.set _ _ _ (by intro h; have := h.1; omega))), (fun k z => ⟨by have := z.1; omega, by have := z.2; show _ < (World.heap _).size; simp only [setCell_size]; omega⟩), trivial⟩
  · exact (((B.out.setCell (p := ⟨w.heap.size + 1 + 1, 1, none⟩) (by show w.heap.size ≤ w.heap.size + 1 + 1; omega) _).setCell (p := ⟨w.heap.size + 1, 0, none⟩) (by show w.heap.size ≤ w.heap.size + 1; omega) _).setCell (p := ⟨w.heap.size + 1, 1, none⟩) (by show w.heap.size ≤ w.heap.size + 1; omega) _)
set_option maxRecDepth 100000 in
set_option maxHeartbeats 4000000 in
theorem toAttrS_at {S : Bs} (v : Value) (d : List AttrT) (w : World) (hd : SlAt attrE S w d v) (hz : d.length + szL attrE d ≤ 1048576) :
    Calls Try.prog 101 #[v] w fun e w' => ∃ u, e = .returned u ∧ SlOwn attrE (Fresh w w') w' d u ∧ Below w.heap.size w w' := by
  obtain ⟨ao, cap, rfl⟩ := hd.sl
  have HD := Lib.hid hd; clear hd
  have HL := Lib.hid hz
  have hl : d.length ≤ 1048576 := by omega
  clear hz
  obtain ⟨C, hC, hmk⟩ := mkAttr d.length hl w
  have HC := Lib.hid hC; clear hC
  go_enter Try.func101, Try.ntmps101
  go_wp2
  clear hmk
  go_loopw [4] (fun i wr => ∃ k : Nat, k ≤ d.length ∧ i = .int .i64 k ∧ Build attrE wr w.heap.size d.length (d.take k) ∧ Below w.heap.size w wr) (fun i _ => d.length - (intOf i).toNat)
  case atStart => exact ⟨0, Nat.zero_le _, rfl, Build.new _ _ _ _ HC.out, (Below.refl _ _).alloc (Nat.le_refl _) _⟩
  case round =>
    obtain ⟨k, hk, rfl, hR, hbel⟩ := hrel
    have HR := Lib.hid hR; clear hR
    have hsz := hbel.size
    by_cases hlt : k < d.length
    · obtain ⟨b, off, a0, a1, v1, rfl, _, hb0, hx, ⟨hc0, hc1⟩, s1, _⟩ := attr_row (HD.out.frame (Same.of_below' hbel)) hlt
      have HT : Hid (d.take (k + 1) = d.take k ++ [(a0, a1)]) := Lib.hid (by rw [List.take_succ_eq_append_getElem hlt, hx])
      have HK : Hid ((d.take k).length = k) := Lib.hid (by rw [List.length_take]; omega)
      have HZ : Hid (attrE.sz (a0, a1) ≤ 1048576) := Lib.hid (by have h1 := szL_mem attrE (List.getElem_mem hlt); rw [hx] at h1; have := HL.out; omega)
      clear hx
      have HV1 := Lib.hid s1; clear s1
      obtain ⟨o1, k1, rfl⟩ := HV1.out.sl
      go_wp2_with fail
      refine (toAttr_at a0 a1 _ wr HV1.out HZ.out).mono ?_
      rintro e w2 ⟨u1, rfl, hq, hb2⟩
      have HR2 := Lib.hid (HR.out.below hb2)
      have B2 := Lib.hid (hbel.trans (hb2.mono hsz))
      have HQ := Lib.hid hq
      have HB := Lib.hid hb2
      clear hb2 hq hc0 hc1
      have hsl := attr_sl HQ.out rfl
      obtain ⟨p1, l1, j1, rfl⟩ := hsl
      obtain ⟨x0, c0⟩ := HR2.out.cell (k := k) (u := 0) hlt (by decide)
      have c0 : w2.cell? ⟨w.heap.size, k * 2, none⟩ = some x0 := c0
      have f0 := HR2.out.soft (k * 2)
      obtain ⟨x1, c1⟩ := HR2.out.cell (k := k) (u := 1) hlt (by decide)
      have c1 : w2.cell? ⟨w.heap.size, k * 2 + 1, none⟩ = some x1 := c1
      have f1 := HR2.out.soft (k * 2 + 1)
      go_wp2
      go_roundw
      case rel => exact ⟨k + 1, by omega, by go_num, by rw [HT.out]; exact HR.out.row (o := k * 2) (cs := [.string a0, .slice p1 l1 j1]) (by rw [HK.out]; exact hlt) (by rw [HK.out]; rfl) HB.out HQ.out, ((B2.out.setCell (Nat.le_refl _) _).setCell (Nat.le_refl _) _)⟩
      case measure => simp [intOf]; omega
    · have e : d.take k = d := List.take_of_length_le (by omega)
      rw [e] at HR
      clear e
      go_wp2
      go_ret
      exact ⟨_, rfl, HR.out.own, hbel⟩
end Go.Proofs.Ytmanlnlhpgdbpaa
