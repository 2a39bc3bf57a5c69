/- Merged texts: Under, Parent, Law1, Law2, EntMath, Br, ClsMath, EntR1, ClsR1, ClsR3, AclR, AclR2, AclA. -/
import Derived.Test.YtglgkocjdockdaaM2
import Derived.Laws.AppendOwnNone
import Derived.Test.YtglgkocjdockdaaM1
import Derived.Laws.MakeOwn
import Derived.Shelf.Small.Strs
/- What is the same, and what is under what: what the texts return. -/
namespace Go.Proofs.Ytglgkocjdockdaa
open Go.RowKit

theorem dnB_all_of {d : RdnL} (h : dnB d = true) : d.all rdnB = true := by unfold dnB at h; simp only [Bool.and_eq_true] at h; exact h.2
theorem same_no {a b : RdnL} (h : dnB a = false ∨ dnB b = false) : dnSameB a b = false := by
  unfold dnSameB; rcases h with h | h <;> rw [h] <;> simp
theorem same_yes {a b : RdnL} (h1 : dnB a = true) (h2 : dnB b = true) : dnSameB a b = ((keyS a).toList == (keyS b).toList) := by
  unfold dnSameB; rw [h1, h2, key_same (dnB_all_of h1) (dnB_all_of h2)]; simp
theorem Try.elem32 : Try.prog.elem 32 = 104 := by kernel_rfl
theorem Try.size104 (w : World) : (sizeOf 104).run Try.prog w = .ok 2 w := by kernel_rfl
/-- dn[k:] -/
theorem cut27 (w : World) (ao : Option Addr) (d : RdnL) (k cap : Nat) (hk : k ≤ d.length) (hc : d.length ≤ cap) (hd : DnAt w ao d) :
    ∃ ao', (∀ W : World, (Instr.slice 32 (.slice ao d.length cap) (some (.int .i64 (k : Int))) none none).run Try.prog W = .ok (.slice ao' (d.length - k) (cap - k)) W) ∧ DnAt w ao' (d.drop k) := by
  refine ⟨if cap = k then ao else ao.map (·.add (k * 2)), fun W => ?_, ?_⟩
  · rw [run_slice_l W 32 ao d.length cap (by rw [Try.elem32]; exact Try.underlying32) .i64 (k : Int) (by omega) (by omega), Try.elem32, Try.size104]
    simp [Result.andThen, sliced]
  · by_cases h0 : d.length = k
    · exact .inl (List.drop_eq_nil_of_le (by omega))
    · rw [if_neg (by omega)]
      obtain ⟨b, off, rfl, hb, _⟩ := hd.at (k := 0) (by omega)
      refine .inr ⟨b, off + k * 2, ?_, hb, fun i hi => ?_⟩
      · simp [Addr.add]
      · rw [List.length_drop] at hi
        rw [List.getElem_drop]
        obtain ⟨b', off', e, _, c1, c2⟩ := hd.at (k := k + i) (by omega)
        cases e
        rw [show off + k * 2 + i * 2 = off + (k + i) * 2 by omega]
        exact ⟨c1, c2⟩

def underB (d b : RdnL) : Bool := dnB d && dnB b && decide (b.length ≤ d.length) && sameB (d.drop (d.length - b.length)) b
theorem under_no {d b : RdnL} (h : dnB d = false ∨ dnB b = false ∨ d.length < b.length) : underB d b = false := by
  unfold underB; rcases h with h | h | h
  · rw [h]; simp
  · rw [h]; simp
  · have : decide (b.length ≤ d.length) = false := decide_eq_false (by omega)
    rw [this]; simp
theorem under_yes {d b : RdnL} (h1 : dnB d = true) (h2 : dnB b = true) (h3 : b.length ≤ d.length) : underB d b = sameB (d.drop (d.length - b.length)) b := by
  unfold underB; rw [h1, h2]; simp [h3]
set_option maxHeartbeats 1000000 in
theorem DnUnder_any (ao bo : Option Addr) (d b : RdnL) (ca cb : Nat) (w : World) (hc : d.length ≤ ca) (hda : DnAt w ao d) (hdb : DnAt w bo b) (hfa : Fits d) (hfb : Fits b) :
    Calls Try.prog 164 #[.slice ao d.length ca, .slice bo b.length cb] w fun e w' => e = .returned (.bool (underB d b)) ∧ Below w.heap.size w w' := by
  have hla := hfa.1
  have hlb := hfb.1
  cases h1 : dnB d
  · have HE := Lib.hid (under_no (d := d) (b := b) (.inl h1))
    go_enter Try.func164, Try.ntmps164
    go_wp2_with fail
    refine (DnRight_any _ _ _ _ hda hfa).mono ?_
    rintro e w1 ⟨rfl, hb1⟩
    rw [h1]
    go_wp2
    go_ret
    exact ⟨ret_bool HE.out.symm, hb1⟩
  cases h2 : dnB b
  · have HE := Lib.hid (under_no (d := d) (b := b) (.inr (.inl h2)))
    go_enter Try.func164, Try.ntmps164
    go_wp2_with fail
    refine (DnRight_any _ _ _ _ hda hfa).mono ?_
    rintro e w1 ⟨rfl, hb1⟩
    rw [h1]
    go_wp2_with fail
    refine (DnRight_any _ _ _ _ (hdb.below hb1) hfb).mono ?_
    rintro e w2 ⟨rfl, hb2⟩
    rw [h2]
    go_wp2
    go_ret
    exact ⟨ret_bool HE.out.symm, hb1.trans (hb2.mono hb1.size)⟩
  by_cases h3 : d.length < b.length
  · have HE := Lib.hid (under_no (d := d) (b := b) (.inr (.inr h3)))
    go_enter Try.func164, Try.ntmps164
    go_wp2_with fail
    refine (DnRight_any _ _ _ _ hda hfa).mono ?_
    rintro e w1 ⟨rfl, hb1⟩
    rw [h1]
    go_wp2_with fail
    refine (DnRight_any _ _ _ _ (hdb.below hb1) hfb).mono ?_
    rintro e w2 ⟨rfl, hb2⟩
    rw [h2]
    go_wp2
    go_ret
    exact ⟨ret_bool HE.out.symm, hb1.trans (hb2.mono hb1.size)⟩
  · have HE := Lib.hid (under_yes h1 h2 (by omega))
    go_enter Try.func164, Try.ntmps164
    go_wp2_with fail
    refine (DnRight_any _ _ _ _ hda hfa).mono ?_
    rintro e w1 ⟨rfl, hb1⟩
    rw [h1]
    go_wp2_with fail
    refine (DnRight_any _ _ _ _ (hdb.below hb1) hfb).mono ?_
    rintro e w2 ⟨rfl, hb2⟩
    rw [h2]
    have hb12 := hb1.trans (hb2.mono hb1.size)
    obtain ⟨ao', hcut, hdr⟩ := cut27 w2 ao d (d.length - b.length) ca (by omega) hc (hda.below hb12)
    rw [show ((d.length - b.length : Nat) : Int) = (d.length : Int) - (b.length : Int) by omega] at hcut
    have HL : Hid ((d.drop (d.length - b.length)).length = d.length - (d.length - b.length)) := Lib.hid (List.length_drop ..)
    have HS := Lib.hid (sameRdns_any ao' bo (d.drop (d.length - b.length)) b (ca - (d.length - b.length)) cb w2 hdr (hdb.below hb12) (hfa.drop _) hfb)
    rw [HL.out] at HS
    have HDR := Lib.hid hdr
    clear hdr
    go_wp2_with fail
    refine HS.out.mono ?_
    rintro e w3 ⟨rfl, hb3⟩
    go_wp2
    go_ret
    exact ⟨ret_bool HE.out.symm, hb12.trans (hb3.mono hb12.size)⟩
theorem dnB_drop {d : RdnL} (h : dnB d = true) (k : Nat) : dnB (d.drop k) = true := by
  have h1 := dnB_six h
  have h2 := dnB_all_of h
  unfold dnB
  rw [Bool.and_eq_true]
  refine ⟨decide_eq_true (by rw [List.length_drop]; omega), ?_⟩
  rw [List.all_eq_true] at h2 ⊢
  exact fun x hx => h2 x (List.mem_of_mem_drop hx)
set_option maxHeartbeats 1000000 in
theorem SpecDnUnder_any (ao bo : Option Addr) (d b : RdnL) (ca cb : Nat) (w : World) (hc : d.length ≤ ca) (hda : DnAt w ao d) (hdb : DnAt w bo b) (hfa : Fits d) (hfb : Fits b) :
    Calls Try.prog 119 #[.slice ao d.length ca, .slice bo b.length cb] w fun e w' => e = .returned (.bool (underB d b)) ∧ Below w.heap.size w w' := by
  have hla := hfa.1
  have hlb := hfb.1
  by_cases h4 : 400 < d.length
  · have HE := Lib.hid (under_no (d := d) (b := b) (.inl (dnB_long (by omega))))
    clear hda hdb hfa hfb
    go_enter Try.func119, Try.ntmps119
    go_wp2
    go_ret
    exact ⟨ret_bool HE.out.symm, Below.refl _ _⟩
  by_cases h5 : 400 < b.length
  · have HE := Lib.hid (under_no (d := d) (b := b) (.inr (.inl (dnB_long (by omega)))))
    clear hda hdb hfa hfb
    go_enter Try.func119, Try.ntmps119
    go_wp2
    go_ret
    exact ⟨ret_bool HE.out.symm, Below.refl _ _⟩
  cases h1 : dnB d
  · have HE := Lib.hid (under_no (d := d) (b := b) (.inl h1))
    go_enter Try.func119, Try.ntmps119
    go_wp2_with fail
    refine (SpecDnRight_any _ _ _ _ hda hfa).mono ?_
    rintro e w1 ⟨rfl, hb1⟩
    rw [h1]
    go_wp2
    go_ret
    exact ⟨ret_bool HE.out.symm, hb1⟩
  cases h2 : dnB b
  · have HE := Lib.hid (under_no (d := d) (b := b) (.inr (.inl h2)))
    go_enter Try.func119, Try.ntmps119
    go_wp2_with fail
    refine (SpecDnRight_any _ _ _ _ hda hfa).mono ?_
    rintro e w1 ⟨rfl, hb1⟩
    rw [h1]
    go_wp2_with fail
    refine (SpecDnRight_any _ _ _ _ (hdb.below hb1) hfb).mono ?_
    rintro e w2 ⟨rfl, hb2⟩
    rw [h2]
    go_wp2
    go_ret
    exact ⟨ret_bool HE.out.symm, hb1.trans (hb2.mono hb1.size)⟩
  by_cases h3 : d.length < b.length
  · have HE := Lib.hid (under_no (d := d) (b := b) (.inr (.inr h3)))
    go_enter Try.func119, Try.ntmps119
    go_wp2_with fail
    refine (SpecDnRight_any _ _ _ _ hda hfa).mono ?_
    rintro e w1 ⟨rfl, hb1⟩
    rw [h1]
    go_wp2_with fail
    refine (SpecDnRight_any _ _ _ _ (hdb.below hb1) hfb).mono ?_
    rintro e w2 ⟨rfl, hb2⟩
    rw [h2]
    go_wp2
    go_ret
    exact ⟨ret_bool HE.out.symm, hb1.trans (hb2.mono hb1.size)⟩
  · have HE : Hid (underB d b = ((keyS (d.drop (d.length - b.length))).toList == (keyS b).toList)) := Lib.hid (by
      rw [under_yes h1 h2 (by omega), key_same (dnB_all_of (dnB_drop h1 _)) (dnB_all_of h2)])
    have a6 := dnB_six (dnB_drop h1 (d.length - b.length))
    have b6 := dnB_six h2
    go_enter Try.func119, Try.ntmps119
    go_wp2_with fail
    refine (SpecDnRight_any _ _ _ _ hda hfa).mono ?_
    rintro e w1 ⟨rfl, hb1⟩
    rw [h1]
    go_wp2_with fail
    refine (SpecDnRight_any _ _ _ _ (hdb.below hb1) hfb).mono ?_
    rintro e w2 ⟨rfl, hb2⟩
    rw [h2]
    have hb12 := hb1.trans (hb2.mono hb1.size)
    obtain ⟨ao', hcut, hdr⟩ := cut27 w2 ao d (d.length - b.length) ca (by omega) hc (hda.below hb12)
    rw [show ((d.length - b.length : Nat) : Int) = (d.length : Int) - (b.length : Int) by omega] at hcut
    have HL : Hid ((d.drop (d.length - b.length)).length = d.length - (d.length - b.length)) := Lib.hid (List.length_drop ..)
    have HS := Lib.hid (l02Key_any ao' (d.drop (d.length - b.length)) (ca - (d.length - b.length)) w2 hdr (hfa.drop _) a6)
    rw [HL.out] at HS
    have HDR := Lib.hid hdr
    clear hdr a6
    go_wp2_with fail
    refine HS.out.mono ?_
    rintro e w3 ⟨rfl, hb3⟩
    have hb13 := hb12.trans (hb3.mono hb12.size)
    go_wp2_with fail
    refine (l02Key_any _ _ _ _ (hdb.below hb13) hfb b6).mono ?_
    rintro e w4 ⟨rfl, hb4⟩
    go_wp2
    go_ret
    exact ⟨ret_bool HE.out.symm, hb13.trans (hb4.mono hb13.size)⟩
end Go.Proofs.Ytglgkocjdockdaa
/- DnParent and DnJoin: what the texts of the program and of the specification return. -/
namespace Go.Proofs.Ytglgkocjdockdaa
open Go.RowKit
attribute [local go_sem ↓] Go.wp_at_zero Go.wp_at_succ

theorem own_mono {w : World} {B B' e z n : Nat} {v : Value} {xs : List Value} (h : w.ownsRow B e z v n xs) (hB : B' ≤ B) : w.ownsRow B' e z v n xs := by
  refine ⟨h.1, ?_⟩
  rcases h.2 with h | ⟨g, cap, cur, h1, h2, h3⟩
  · exact .inl h
  · exact .inr ⟨g, cap, cur, h1, Nat.le_trans hB h2, h3⟩
/-- a new name is returned -/
def GivesDn (w : World) (d : RdnL) (e : Ending) (w' : World) : Prop := (∃ v, e = .returned v ∧ w'.ownsRow w.heap.size 104 2 v d.length (rs d)) ∧ Below w.heap.size w w'
theorem own_nil (w : World) (B : Nat) : w.ownsRow B 104 2 (.slice none 0 0) 0 (rs []) := ⟨rfl, .inl ⟨rfl, rfl⟩⟩
theorem dn_cells {w : World} {b off : Nat} {d : RdnL} (h : DnAt w (some ⟨b, off, none⟩) d) : ∀ j u, (rs d)[j]? = some u → w.cell? ((⟨b, off, none⟩ : Addr).add j) = some u := by
  intro j u hu
  have hj : j < (rs d).length := by
    rcases Nat.lt_or_ge j (rs d).length with h | h
    · exact h
    · rw [List.getElem?_eq_none h] at hu; cases hu
  rw [rs_length] at hj
  obtain ⟨b', off', e, _, c1, c2⟩ := h.at (k := j / 2) (by omega)
  cases e
  have ea : (⟨b, off, none⟩ : Addr).add j = ⟨b, off + j, none⟩ := by unfold Addr.add; split <;> simp_all
  rw [ea]
  have hg := rs_get d (j / 2) (by omega)
  rcases Nat.mod_two_eq_zero_or_one j with hm | hm
  · have ej : j = j / 2 * 2 := by omega
    rw [ej] at hu ⊢
    rw [hg.1] at hu
    rw [← hu]; exact c1
  · have ej : j = j / 2 * 2 + 1 := by omega
    rw [ej] at hu ⊢
    rw [hg.2] at hu
    rw [← hu, ← Nat.add_assoc]; exact c2
theorem rs_one (d : RdnL) : ∀ u ∈ rs d, u.oneCell' = true := by
  intro u hu
  unfold rs at hu
  rw [List.mem_flatMap] at hu
  obtain ⟨r, _, hr⟩ := hu
  simp at hr
  rcases hr with rfl | rfl <;> rfl
theorem rs_append (a b : RdnL) : rs (a ++ b) = rs a ++ rs b := by unfold rs; rw [List.flatMap_append]
/-- append(v, dn...) onto a row that the call owns -/
theorem append_dn {ops : Array Oper} {rest : List Oper} {o : Oper} {a : Act} {Q : Exit → Act → World → Prop} {w0 wr : World} (B : Nat) (hgd : o.guard = none) (s x : Operand)
    (ho : o.op = .call { callee := .builtin .append, args := #[s, x], argTypes := #[32, 32] }) (v : Value) (pre : RdnL) (hs : a.eval s = v) (hown : wr.ownsRow B 104 2 v pre.length (rs pre))
    (ao : Option Addr) (d : RdnL) (c n : Nat) (hn : n = d.length) (hx : a.eval x = .slice ao n c) (hd : DnAt wr ao d) (hc : ao = none → c = 0) (hlen : pre.length + d.length ≤ 1000000000) (hB : B ≤ wr.heap.size) (hbel : Below B w0 wr)
    (h : ∀ v' w', w'.ownsRow B 104 2 v' (pre ++ d).length (rs (pre ++ d)) → Below B w0 w' → wpList Try.prog ops Q rest (a.put o.dst v') w') :
    wpList Try.prog ops Q (o :: rest) a wr := by
  obtain ⟨i0, hi, hz0, hz1, hz2⟩ := info_parts Try.info104
  subst hn
  rcases ao with _ | ad
  · have hd0 : d = [] := by
      rcases hd with h | ⟨b, off, e, _⟩
      · exact h
      · cases e
    subst hd0
    have := hc rfl
    subst this
    refine wpList_append_own_none hgd s x 32 ho B 104 i0 2 Try.underlying32 hi v pre.length (rs pre) hs hown hx (h v wr (by rw [List.append_nil]; exact hown) hbel)
  · have hnews : ∀ j u, (rs d)[j]? = some u → wr.cell? (ad.add j) = some u := by
      rcases hd with hd | ⟨b, off, e, h2, h3⟩
      · subst hd; intro j u hu; simp [rs] at hu
      · cases e; exact dn_cells (.inr ⟨b, off, rfl, h2, h3⟩)
    refine wpList_append_own _ hgd s x 32 ho B 104 i0 _ 2 32 Try.underlying32 hi hz0 hz1 hz2 rfl (by decide) v pre.length (rs pre) hs hown ad d.length c (rs d) hx (rs_length d) hnews (rs_one d) ?_ ?_ hB ?_
    · unfold maxLen; omega
    · omega
    · intro v' w' h1 h2 h3
      refine h v' w' ?_ (hbel.grown h2 hB (fun k hk => (hown.lt k hk).1))
      rw [rs_append, List.length_append]; exact h1

theorem cut27s (w : World) (ao : Option Addr) (d : RdnL) (k cap : Nat) (hk : k ≤ d.length) (h0 : d.length ≠ 0) (hc : d.length ≤ cap) (hd : DnAt w ao d) :
    ∃ ad, (∀ W : World, (Instr.slice 32 (.slice ao d.length cap) (some (.int .i64 (k : Int))) none none).run Try.prog W = .ok (.slice (some ad) (d.length - k) (cap - k)) W) ∧ DnAt w (some ad) (d.drop k) := by
  obtain ⟨ao', h1, h2⟩ := cut27 w ao d k cap hk hc hd
  obtain ⟨b, off, rfl, hb, _⟩ := hd.at (k := 0) (by omega)
  have h3 := h1 w
  rw [run_slice_l w 32 _ d.length cap (by rw [Try.elem32]; exact Try.underlying32) .i64 (k : Int) (by omega) (by omega), Try.elem32, Try.size104] at h3
  rcases ao' with _ | ad
  · simp [Result.andThen, sliced] at h3
    split at h3 <;> simp at h3
  · exact ⟨ad, h1, h2⟩
def parentL (d : RdnL) : RdnL := if dnB d = true then d.drop 1 else []
theorem parent_no {d : RdnL} (h : dnB d = false ∨ d.length = 0) : parentL d = [] := by
  unfold parentL
  rcases h with h | h
  · rw [h]; rfl
  · rw [List.length_eq_zero_iff.1 h]; simp
theorem parent_yes {d : RdnL} (h : dnB d = true) : parentL d = d.drop 1 := by unfold parentL; rw [if_pos h]
end Go.Proofs.Ytglgkocjdockdaa
/- The helpers of the laws: sizes, copies, comparisons. -/
namespace Go.Proofs.Ytglgkocjdockdaa
open Go.RowKit
attribute [local go_sem ↓] Go.wp_at_zero Go.wp_at_succ

/-- all its strings are strings of Go -/
def Long (d : RdnL) : Prop := d.length ≤ 9223372036854775807 ∧ ∀ r ∈ d, r.1.size ≤ maxLen ∧ r.2.size ≤ maxLen
def sizeR (r : ByteArray × ByteArray) : Nat := r.1.size + r.2.size
def sizeS (d : RdnL) : Nat := (d.map sizeR).sum
theorem sizeS_take (d : RdnL) (k : Nat) (h : k < d.length) : sizeS (d.take (k + 1)) = sizeS (d.take k) + sizeR d[k] := by
  unfold sizeS; rw [List.take_succ_eq_append_getElem h, List.map_append, List.sum_append]; simp
theorem sizeS_le (d : RdnL) (k : Nat) : sizeS (d.take k) ≤ sizeS d := by
  have h := List.take_append_drop k d
  have : sizeS d = sizeS (d.take k) + sizeS (d.drop k) := by
    unfold sizeS; rw [← List.sum_append, ← List.map_append, h]
  omega
theorem sizeS_mem {d : RdnL} {r : ByteArray × ByteArray} (h : r ∈ d) : sizeR r ≤ sizeS d := by
  induction d with
  | nil => simp at h
  | cons x d ih =>
    have e : sizeS (x :: d) = sizeR x + sizeS d := by unfold sizeS; simp
    rw [e]
    rw [List.mem_cons] at h
    rcases h with rfl | h
    · omega
    · have := ih h; omega
theorem fits_of {d : RdnL} (h : d.length + sizeS d ≤ 1048576) : Fits d :=
  ⟨by omega, fun r hr => by have := sizeS_mem hr; unfold sizeR at this; omega⟩
set_option maxHeartbeats 400000 in
theorem szRdn_any (A V : ByteArray) (left : Int) (w : World) (hA : A.size ≤ maxLen) (hV : V.size ≤ maxLen) (h0 : 0 ≤ left) (h1 : left ≤ 1048576) :
    Calls Try.prog 71 #[.agg #[.string A, .string V], .int .i64 left] w fun e w' => e = .returned (.int .i64 (leftR (sizeR (A, V)) left)) ∧ Below w.heap.size w w' := by
  unfold maxLen at hA hV
  have HE : Hid (sizeR (A, V) = A.size + V.size) := Lib.hid rfl
  by_cases g1 : (A.size : Int) ≤ left
  · by_cases g2 : (A.size : Int) + (V.size : Int) ≤ left
    · have HR : Hid (leftR (sizeR (A, V)) left = left - A.size - V.size) := Lib.hid (by unfold leftR; rw [HE.out, if_pos (by omega)]; omega)
      have c1 : ¬ left - (A.size : Int) < 0 := by omega
      have c2 : ¬ left - (A.size : Int) - (V.size : Int) < 0 := by omega
      go_enter Try.func71, Try.ntmps71
      go_wp2
      go_ret
      exact ⟨ret_int' (by rw [HR.out]), (Below.refl _ _).alloc (Nat.le_refl _) _⟩
    · have HR : Hid (leftR (sizeR (A, V)) left = -1) := Lib.hid (by unfold leftR; rw [HE.out, if_neg (by omega)])
      have c1 : ¬ left - (A.size : Int) < 0 := by omega
      have c2 : left - (A.size : Int) - (V.size : Int) < 0 := by omega
      go_enter Try.func71, Try.ntmps71
      go_wp2
      go_ret
      exact ⟨ret_int' (by rw [HR.out]), (Below.refl _ _).alloc (Nat.le_refl _) _⟩
  · have HR : Hid (leftR (sizeR (A, V)) left = -1) := Lib.hid (by unfold leftR; rw [HE.out, if_neg (by omega)])
    have c1 : left - (A.size : Int) < 0 := by omega
    go_enter Try.func71, Try.ntmps71
    go_wp2
    go_ret
    exact ⟨ret_int' (by rw [HR.out]), (Below.refl _ _).alloc (Nat.le_refl _) _⟩
set_option maxRecDepth 100000 in
set_option maxHeartbeats 1000000 in
theorem szRdnS_any (ao : Option Addr) (d : RdnL) (cap : Nat) (left : Int) (w : World) (hd : DnAt w ao d) (hf : Long d) (h0 : 0 ≤ left) (h1 : left ≤ 1048576) :
    Calls Try.prog 17 #[.slice ao d.length cap, .int .i64 left] w fun e w' => e = .returned (.int .i64 (leftR (d.length + sizeS d) left)) ∧ Below w.heap.size w w' := by
  have hl := hf.1
  have HD := Lib.hid hd; have HF := Lib.hid hf; clear hd hf
  by_cases g : (d.length : Int) ≤ left
  · have c1 : ¬ left - (d.length : Int) < 0 := by omega
    go_enter Try.func17, Try.ntmps17
    go_wp2
    go_loopw [1, 5] (fun t i wr => ∃ k : Nat, k ≤ d.length ∧ i = .int .i64 k ∧ ((d.length + sizeS (d.take k) : Nat) : Int) ≤ left ∧ t = .int .i64 (left - (d.length + sizeS (d.take k) : Nat)) ∧ Below w.heap.size w wr) (fun _ i _ => d.length - (intOf i).toNat)
    case atStart => exact ⟨0, Nat.zero_le _, rfl, by simp [sizeS]; omega, by simp [sizeS], Below.refl _ _⟩
    case round =>
      clear c1
      obtain ⟨k, hk, rfl, hle, rfl, hbel⟩ := hrel
      have hsz := hbel.size
      by_cases hlt : k < d.length
      · obtain ⟨b, off, rfl, hb0, hd1, hd2⟩ := HD.out.at hlt
        have hc1 := (hbel.cell (p := ⟨b, off + k * 2, none⟩) hb0).trans hd1
        have hc2 := (hbel.cell (p := ⟨b, off + k * 2 + 1, none⟩) hb0).trans hd2
        have hz := HF.out.2 _ (List.getElem_mem hlt)
        have HT := Lib.hid (sizeS_take d k hlt)
        have HTl := Lib.hid (sizeS_le d (k + 1))
        have HE : Hid (sizeR d[k] = sizeR (d[k].1, d[k].2)) := Lib.hid rfl
        clear hd1 hd2
        generalize d[k].1 = A at *
        generalize d[k].2 = V at *
        generalize hq : d.length + sizeS (d.take k) = q at *
        have Hq := Lib.hid hq; clear hq
        go_wp2_with fail
        refine (szRdn_any A V (left - (q : Int)) wr hz.1 hz.2 (by omega) (by omega)).mono ?_
        rintro e w2 ⟨rfl, hb2⟩
        have B2 := Lib.hid (hbel.trans (hb2.mono hsz)); clear hb2
        by_cases hfit : ((sizeR (A, V) : Nat) : Int) ≤ left - (q : Int)
        · rw [leftR_pos hfit]
          generalize hr : sizeR (A, V) = r at *
          have Hr := Lib.hid hr; clear hr
          have c2 : ¬ left - (q : Int) - (r : Int) < 0 := by omega
          go_wp2
          go_roundw
          case rel =>
            have e := HT.out
            have e2 := HE.out
            have e3 := Hq.out
            have e4 := Hr.out
            exact ⟨k + 1, by omega, by go_num, by omega, by rw [e]; congr 1; omega, B2.out⟩
          case measure => simp [intOf]; omega
        · rw [leftR_neg hfit]
          have HR : Hid (leftR (d.length + sizeS d) left = -1) := Lib.hid (leftR_neg (by
            have := HT.out; have := HTl.out; have := HE.out; have := Hq.out; omega))
          go_wp2
          go_ret
          exact ⟨ret_int' (by rw [HR.out]), B2.out⟩
      · have HR : Hid (leftR (d.length + sizeS d) left = left - (d.length + sizeS (d.take k) : Nat)) := Lib.hid (by
          rw [List.take_of_length_le (by omega)] at hle ⊢
          exact leftR_pos hle)
        go_wp2
        go_ret
        exact ⟨ret_int' (by rw [HR.out]), hbel⟩
  · have HR : Hid (leftR (d.length + sizeS d) left = -1) := Lib.hid (leftR_neg (by omega))
    have c1 : left - (d.length : Int) < 0 := by omega
    go_enter Try.func17, Try.ntmps17
    go_wp2
    go_ret
    exact ⟨ret_int' (by rw [HR.out]), Below.refl _ _⟩
end Go.Proofs.Ytglgkocjdockdaa
/- The helpers of the laws: copies of names, comparisons. -/
namespace Go.Proofs.Ytglgkocjdockdaa
open Go.RowKit
attribute [local go_sem ↓] Go.wp_at_zero Go.wp_at_succ

set_option maxHeartbeats 400000 in
theorem toRdn_any (A V : ByteArray) (w : World) :
    Calls Try.prog 74 #[.agg #[.string A, .string V]] w fun e w' => e = .returned (.agg #[.string A, .string V]) ∧ Below w.heap.size w w' := by
  go_enter Try.func74, Try.ntmps74
  go_wp2
  refine bodyPost_ret (v := .agg #[.string A, .string V]) (by simp [results, Try.results74, go_sem]) rfl ⟨rfl, ?_⟩
  exact more (more (more (Below.refl _ _) _) _) _
theorem make27 (n : Nat) (hn : n ≤ 1048576) (W : World) : ∃ C : Array Value, C.size = n * 2 ∧
    (Instr.makeSlice 32 (.int .i64 (n : Int)) (.int .i64 (n : Int))).run Try.prog W = .ok (.slice (some ⟨W.heap.size, 0, none⟩) n n) (W.alloc (.cells C 104)) := by
  obtain ⟨i0, hi, hz0, hz1, hz2⟩ := info_parts Try.info104
  have := run_make (P := Try.prog) W 32 104 i0 _ Try.underlying32 hi hz0 .i64 .i64 (n : Int) (n : Int) (by omega) (by omega) (by rw [hz2]; omega) (by omega)
  rw [hz1] at this
  refine ⟨madeCells (Value.agg #[.string ByteArray.empty, .string ByteArray.empty]).cells (n * 2), size_madeCells _ _, ?_⟩
  simpa using this
theorem take_set2 {C : Array Value} {k : Nat} {d : RdnL} {a b : Value} (hk : k * 2 + 1 < C.size) (hC : C.toList.take (k * 2) = rs d) (hl : d.length = k) :
    (((C.setIfInBounds (k * 2) a).setIfInBounds (k * 2 + 1) b).toList).take ((k + 1) * 2) = rs d ++ [a, b] := by
  have hL : (rs d).length = k * 2 := by rw [rs_length, hl]
  apply List.ext_getElem?
  intro i
  rw [List.getElem?_take]
  by_cases h1 : i < (k + 1) * 2
  · rw [if_pos h1, Array.getElem?_toList, Array.getElem?_setIfInBounds, Array.getElem?_setIfInBounds]
    by_cases h2 : i = k * 2 + 1
    · subst h2
      rw [if_pos rfl, if_pos (by simpa using hk), List.getElem?_append_right (by omega), hL]
      simp
    · rw [if_neg (fun e => h2 e.symm)]
      by_cases h3 : i = k * 2
      · subst h3
        rw [if_pos rfl, if_pos (by omega), List.getElem?_append_right (by omega), hL]
        simp
      · rw [if_neg (fun e => h3 e.symm), List.getElem?_append_left (by omega), ← hC, List.getElem?_take, if_pos (by omega), Array.getElem?_toList]
  · rw [if_neg h1, List.getElem?_eq_none (by simp; omega)]
/-- a block of pairs, the first k of them known -/
def RowTo (w : World) (g n : Nat) (d : RdnL) : Prop := ∃ C : Array Value, w.heap[g]? = some (.cells C 104 (0, 0)) ∧ C.size = n * 2 ∧ C.toList.take (d.length * 2) = rs d
theorem RowTo.at {w : World} {g n k : Nat} {d : RdnL} (h : RowTo w g n d) (hk : k < n) :
    (∃ x y, w.cell? ⟨g, k * 2, none⟩ = some x ∧ w.cell? ⟨g, k * 2 + 1, none⟩ = some y) ∧ w.frozen? ⟨g, k * 2, none⟩ = false ∧ w.frozen? ⟨g, k * 2 + 1, none⟩ = false := by
  obtain ⟨C, h1, h2, _⟩ := h
  refine ⟨⟨C[k * 2]'(by omega), C[k * 2 + 1]'(by omega), ?_, ?_⟩, ?_, ?_⟩
  · rw [cell_of_row w g _ C 104 (0, 0) h1]; exact Array.getElem?_eq_getElem (by omega)
  · rw [cell_of_row w g _ C 104 (0, 0) h1]; exact Array.getElem?_eq_getElem (by omega)
  · simp [World.frozen?, h1]
  · simp [World.frozen?, h1]
theorem RowTo.set {w : World} {g n k : Nat} {d : RdnL} (h : RowTo w g n d) (hl : d.length = k) (hk : k < n) (A V : ByteArray) :
    RowTo ((w.setCell ⟨g, k * 2, none⟩ (.string A)).setCell ⟨g, k * 2 + 1, none⟩ (.string V)) g n (d ++ [(A, V)]) := by
  obtain ⟨C, h1, h2, h3⟩ := h
  refine ⟨_, heap_set _ (heap_set _ h1), by simp [h2], ?_⟩
  rw [rs_append, List.length_append, hl]
  rw [hl] at h3
  exact take_set2 (by omega) h3 hl
theorem RowTo.below {w w' : World} {g n : Nat} {d : RdnL} (h : RowTo w g n d) (hb : Below w.heap.size w w') : RowTo w' g n d := by
  obtain ⟨C, h1, h2⟩ := h
  exact ⟨C, (hb.block g (Array.getElem?_eq_some_iff.1 h1).1).trans h1, h2⟩
theorem RowTo.own {w : World} {g B : Nat} {d : RdnL} (h : RowTo w g d.length d) (hB : B ≤ g) (hm : d.length ≤ 1048576) : w.ownsRow B 104 2 (.slice (some ⟨g, 0, none⟩) d.length d.length) d.length (rs d) := by
  obtain ⟨C, h1, h2, h3⟩ := h
  exact ⟨rs_length d, .inr ⟨g, d.length, C, rfl, hB, h1, Nat.le_refl _, by unfold maxLen; omega, h2, h3⟩⟩
/-- a copy of a name -/
def CopyDn (w : World) (d : RdnL) (e : Ending) (w' : World) : Prop := e = .returned (.slice (some ⟨w.heap.size, 0, none⟩) d.length d.length) ∧ w'.ownsRow w.heap.size 104 2 (.slice (some ⟨w.heap.size, 0, none⟩) d.length d.length) d.length (rs d) ∧ Below w.heap.size w w'
set_option maxRecDepth 100000 in
set_option maxHeartbeats 1000000 in
theorem toRdnS_any (ao : Option Addr) (d : RdnL) (cap : Nat) (w : World) (hd : DnAt w ao d) (hl : d.length ≤ 1048576) :
    Calls Try.prog 19 #[.slice ao d.length cap] w fun e w' => CopyDn w d e w' := by
  have HD := Lib.hid hd; clear hd
  obtain ⟨C, hC, hmk⟩ := make27 d.length hl w
  have HC := Lib.hid hC; clear hC
  go_enter Try.func19, Try.ntmps19
  go_wp2
  clear hmk
  go_loopw [4] (fun i wr => ∃ k : Nat, k ≤ d.length ∧ i = .int .i64 k ∧ RowTo wr w.heap.size d.length (d.take k) ∧ Below w.heap.size w wr) (fun i _ => d.length - (intOf i).toNat)
  case atStart => exact ⟨0, Nat.zero_le _, rfl, ⟨C, heap_alloc_new w _, HC.out, by simp [rs]⟩, (Below.refl _ _).alloc (Nat.le_refl _) _⟩
  case round =>
    obtain ⟨k, hk, rfl, hR, hbel⟩ := hrel
    have HR := Lib.hid hR; clear hR
    have hsz := hbel.size
    by_cases hlt : k < d.length
    · obtain ⟨b, off, rfl, hb0, hd1, hd2⟩ := HD.out.at hlt
      have hc1 := (hbel.cell (p := ⟨b, off + k * 2, none⟩) hb0).trans hd1
      have hc2 := (hbel.cell (p := ⟨b, off + k * 2 + 1, none⟩) hb0).trans hd2
      have HT : Hid (d.take (k + 1) = d.take k ++ [(d[k].1, d[k].2)]) := Lib.hid (List.take_succ_eq_append_getElem hlt)
      have hlk : (d.take k).length = k := by rw [List.length_take]; omega
      have HK := Lib.hid hlk
      clear hd1 hd2 hlk
      generalize d[k].1 = A at *
      generalize d[k].2 = V at *
      go_wp2_with fail
      refine (toRdn_any A V wr).mono ?_
      rintro e w2 ⟨rfl, hb2⟩
      have HR2 := Lib.hid (HR.out.below hb2)
      have B2 := Lib.hid (hbel.trans (hb2.mono hsz))
      clear hb2 hc1 hc2
      obtain ⟨⟨x, y, c0, c1⟩, f0, f1⟩ := HR2.out.at hlt
      go_wp2
      go_roundw
      case rel => exact ⟨k + 1, by omega, by go_num, by rw [HT.out]; exact HR2.out.set HK.out hlt A V, (B2.out.setCell (Nat.le_refl _) _).setCell (Nat.le_refl _) _⟩
      case measure => simp [intOf]; omega
    · have e : d.take k = d := List.take_of_length_le (by omega)
      rw [e] at HR
      clear e
      go_wp2
      go_ret
      exact ⟨rfl, HR.out.own (Nat.le_refl _) hl, hbel⟩
set_option maxHeartbeats 400000 in
theorem eqRdn_same (w0 : World) (A V : ByteArray) (w : World) (hB : Below w0.heap.size w0 w) :
    Calls Try.prog 77 #[.agg #[.string A, .string V], .agg #[.string A, .string V]] w fun e w' => e = .returned (.bool true) ∧ Below w0.heap.size w0 w' := by
  go_enter Try.func77, Try.ntmps77
  go_wp2
  go_ret
  exact ⟨rfl, more (more hB _) _⟩
set_option maxRecDepth 100000 in
set_option maxHeartbeats 1000000 in
theorem eqRdnS_same (ao bo : Option Addr) (d : RdnL) (ca cb : Nat) (w : World) (hda : DnAt w ao d) (hdb : DnAt w bo d) (hl : d.length ≤ 1048576) :
    Calls Try.prog 21 #[.slice ao d.length ca, .slice bo d.length cb] w fun e w' => e = .returned (.bool true) ∧ Below w.heap.size w w' := by
  have HA := Lib.hid hda; have HB := Lib.hid hdb; clear hda hdb
  go_enter Try.func21, Try.ntmps21
  go_wp2
  go_loopw [5] (fun i wr => ∃ k : Nat, k ≤ d.length ∧ i = .int .i64 k ∧ Below w.heap.size w wr) (fun i _ => d.length - (intOf i).toNat)
  case atStart => exact ⟨0, Nat.zero_le _, rfl, Below.refl _ _⟩
  case round =>
    obtain ⟨k, hk, rfl, hbel⟩ := hrel
    have hsz := hbel.size
    by_cases hlt : k < d.length
    · obtain ⟨p, off, rfl, hp0, hd1, hd2⟩ := HA.out.at hlt
      obtain ⟨q, off', rfl, hq0, he1, he2⟩ := HB.out.at hlt
      generalize d[k].1 = A at *
      generalize d[k].2 = V at *
      have SK : Hid (∀ W : World, Below w.heap.size w W → (Below w.heap.size w W ∧ W.cell? ⟨p, off + k * 2, none⟩ = some (.string A) ∧ W.cell? ⟨p, off + k * 2 + 1, none⟩ = some (.string V) ∧ W.cell? ⟨q, off' + k * 2, none⟩ = some (.string A) ∧ W.cell? ⟨q, off' + k * 2 + 1, none⟩ = some (.string V))) :=
        Lib.hid (fun W h => ⟨h, (h.cell (p := ⟨p, _, none⟩) hp0).trans hd1, (h.cell (p := ⟨p, _, none⟩) hp0).trans hd2, (h.cell (p := ⟨q, _, none⟩) hq0).trans he1, (h.cell (p := ⟨q, _, none⟩) hq0).trans he2⟩)
      have hbd := hbel.drew
      clear hd1 hd2 he1 he2
      have g1 : (0 : Int) ≤ (k : Int) := by omega
      have g2 : (k : Int) < (d.length : Int) := by omega
      go_wp2_with fail
      go_region_held3 (fun W => Below w.heap.size w W ∧ W.cell? ⟨p, off + k * 2, none⟩ = some (.string A) ∧ W.cell? ⟨p, off + k * 2 + 1, none⟩ = some (.string V) ∧ W.cell? ⟨q, off' + k * 2, none⟩ = some (.string A) ∧ W.cell? ⟨q, off' + k * 2 + 1, none⟩ = some (.string V))
        (exact SK.out _ (by assumption))
        (first | (go_at_call 77; refine (eqRdn_same w _ _ _ (by assumption)).mono ?_; rintro e w2 ⟨rfl, hb2⟩) | (fail "none"))
      all_goals
        go_wp2
        go_roundw
        case rel => exact ⟨k + 1, by omega, by go_num, hb2⟩
        case measure => simp [intOf]; omega
    · go_wp2
      go_ret
      exact ⟨rfl, hbel⟩
end Go.Proofs.Ytglgkocjdockdaa
/- Entries: names with attributes, and where they lie. -/
namespace Go.Proofs.Ytglgkocjdockdaa
open Go.RowKit

abbrev AttrV := ByteArray × List ByteArray
/-- texts lie behind a slice -/
def StrsAt (w : World) (ao : Option Addr) (l : List ByteArray) : Prop :=
  l = [] ∨ ∃ b off, ao = some ⟨b, off, none⟩ ∧ b < w.heap.size ∧ ∀ i (h : i < l.length), w.cell? ⟨b, off + i, none⟩ = some (.string l[i])
theorem StrsAt.below {w w' : World} {ao : Option Addr} {l : List ByteArray} (h : StrsAt w ao l) (hb : Below w.heap.size w w') : StrsAt w' ao l := by
  rcases h with h | ⟨b, off, h1, h2, h3⟩
  · exact .inl h
  · exact .inr ⟨b, off, h1, Nat.lt_of_lt_of_le h2 hb.size, fun i hi => (hb.cell (p := ⟨b, off + i, none⟩) h2).trans (h3 i hi)⟩
theorem StrsAt.at {w : World} {ao : Option Addr} {l : List ByteArray} (h : StrsAt w ao l) {k : Nat} (hk : k < l.length) :
    ∃ b off, ao = some ⟨b, off, none⟩ ∧ b < w.heap.size ∧ w.cell? ⟨b, off + k, none⟩ = some (.string l[k]) := by
  rcases h with h | ⟨b, off, h1, h2, h3⟩
  · subst h; simp at hk
  · exact ⟨b, off, h1, h2, h3 k hk⟩
/-- the texts of a slice, with its capacity -/
def ValsAt (w : World) (vo : Option Addr) (vc : Nat) (l : List ByteArray) : Prop := StrsAt w vo l ∧ l.length ≤ vc ∧ (vo = none → vc = 0)
theorem ValsAt.below {w w' : World} {vo : Option Addr} {vc : Nat} {l : List ByteArray} (h : ValsAt w vo vc l) (hb : Below w.heap.size w w') : ValsAt w' vo vc l := ⟨h.1.below hb, h.2⟩
/-- attributes lie behind a slice -/
def AttrsAt (w : World) (ao : Option Addr) (l : List AttrV) : Prop :=
  l = [] ∨ ∃ b off, ao = some ⟨b, off, none⟩ ∧ b < w.heap.size ∧ ∀ i (h : i < l.length), w.cell? ⟨b, off + i * 2, none⟩ = some (.string l[i].1) ∧
    ∃ vo vc, w.cell? ⟨b, off + i * 2 + 1, none⟩ = some (.slice vo l[i].2.length vc) ∧ ValsAt w vo vc l[i].2
theorem AttrsAt.below {w w' : World} {ao : Option Addr} {l : List AttrV} (h : AttrsAt w ao l) (hb : Below w.heap.size w w') : AttrsAt w' ao l := by
  rcases h with h | ⟨b, off, h1, h2, h3⟩
  · exact .inl h
  · refine .inr ⟨b, off, h1, Nat.lt_of_lt_of_le h2 hb.size, fun i hi => ?_⟩
    obtain ⟨g1, vo, vc, g2, g3⟩ := h3 i hi
    exact ⟨(hb.cell (p := ⟨b, off + i * 2, none⟩) h2).trans g1, vo, vc, (hb.cell (p := ⟨b, off + i * 2 + 1, none⟩) h2).trans g2, g3.below hb⟩
theorem AttrsAt.at {w : World} {ao : Option Addr} {l : List AttrV} (h : AttrsAt w ao l) {k : Nat} (hk : k < l.length) :
    ∃ b off vo vc, ao = some ⟨b, off, none⟩ ∧ b < w.heap.size ∧ w.cell? ⟨b, off + k * 2, none⟩ = some (.string l[k].1) ∧ w.cell? ⟨b, off + k * 2 + 1, none⟩ = some (.slice vo l[k].2.length vc) ∧ ValsAt w vo vc l[k].2 := by
  rcases h with h | ⟨b, off, h1, h2, h3⟩
  · subst h; simp at hk
  · obtain ⟨g1, vo, vc, g2, g3⟩ := h3 k hk
    exact ⟨b, off, vo, vc, h1, h2, g1, g2, g3⟩
/-- all its strings are strings of Go -/
def LongV (l : List ByteArray) : Prop := l.length ≤ 9223372036854775807 ∧ ∀ s ∈ l, s.size ≤ maxLen
def LongA (l : List AttrV) : Prop := l.length ≤ 9223372036854775807 ∧ ∀ a ∈ l, a.1.size ≤ maxLen ∧ LongV a.2
def FitsV (l : List ByteArray) : Prop := l.length ≤ 1048576 ∧ ∀ s ∈ l, s.size ≤ 1048576
def FitsA (l : List AttrV) : Prop := l.length ≤ 1048576 ∧ ∀ a ∈ l, a.1.size ≤ 1048576 ∧ FitsV a.2
def sizeV (l : List ByteArray) : Nat := (l.map (·.size)).sum
def sizeA (a : AttrV) : Nat := a.1.size + (a.2.length + sizeV a.2)
def sizeAs (l : List AttrV) : Nat := (l.map sizeA).sum
theorem sizeV_take (d : List ByteArray) (k : Nat) (h : k < d.length) : sizeV (d.take (k + 1)) = sizeV (d.take k) + d[k].size := by
  unfold sizeV; rw [List.take_succ_eq_append_getElem h, List.map_append, List.sum_append]; simp
theorem sizeV_le (d : List ByteArray) (k : Nat) : sizeV (d.take k) ≤ sizeV d := by
  have h := List.take_append_drop k d
  have : sizeV d = sizeV (d.take k) + sizeV (d.drop k) := by
    unfold sizeV; rw [← List.sum_append, ← List.map_append, h]
  omega
theorem sum_mem {l : List Nat} {x : Nat} (h : x ∈ l) : x ≤ l.sum := by
  induction l with
  | nil => simp at h
  | cons y l ih =>
    rw [List.sum_cons]
    rcases List.mem_cons.1 h with rfl | h
    · omega
    · have := ih h; omega
theorem sizeV_mem {l : List ByteArray} {s : ByteArray} (h : s ∈ l) : s.size ≤ sizeV l := sum_mem (List.mem_map_of_mem h)
theorem sizeAs_take (d : List AttrV) (k : Nat) (h : k < d.length) : sizeAs (d.take (k + 1)) = sizeAs (d.take k) + sizeA d[k] := by
  unfold sizeAs; rw [List.take_succ_eq_append_getElem h, List.map_append, List.sum_append]; simp
theorem sizeAs_le (d : List AttrV) (k : Nat) : sizeAs (d.take k) ≤ sizeAs d := by
  have h := List.take_append_drop k d
  have : sizeAs d = sizeAs (d.take k) + sizeAs (d.drop k) := by
    unfold sizeAs; rw [← List.sum_append, ← List.map_append, h]
  omega
theorem sizeAs_mem {l : List AttrV} {a : AttrV} (h : a ∈ l) : sizeA a ≤ sizeAs l := sum_mem (List.mem_map_of_mem h)
theorem fitsV_of {l : List ByteArray} (h : l.length + sizeV l ≤ 1048576) : FitsV l := ⟨by omega, fun s hs => by have := sizeV_mem hs; omega⟩
theorem fitsA_of {l : List AttrV} (h : l.length + sizeAs l ≤ 1048576) : FitsA l :=
  ⟨by omega, fun a ha => by
    have := sizeAs_mem ha
    unfold sizeA at this
    exact ⟨by omega, fitsV_of (by omega)⟩⟩
theorem FitsA.at {l : List AttrV} (h : FitsA l) {k : Nat} (hk : k < l.length) : l[k].1.size ≤ 1048576 ∧ FitsV l[k].2 := h.2 _ (List.getElem_mem hk)
theorem FitsV.at {l : List ByteArray} (h : FitsV l) {k : Nat} (hk : k < l.length) : l[k].size ≤ 1048576 := h.2 _ (List.getElem_mem hk)
theorem FitsV.long {l : List ByteArray} (h : FitsV l) : LongV l := ⟨by have := h.1; omega, fun s hs => by have := h.2 s hs; unfold maxLen; omega⟩
end Go.Proofs.Ytglgkocjdockdaa
/- The shapes of the types, as the earlier texts say them. -/
namespace Go.Proofs.Ytglgkocjdockdaa
open Go.RowKit

theorem strs_of {S : Bs} {w : World} {l : List ByteArray} {ao : Option Addr} {n cap : Nat} (h : SlAt strE S w l (.slice ao n cap)) : StrsAt w ao l := by
  by_cases h0 : l = []
  · exact .inl h0
  have hl : 0 < l.length := List.length_pos_iff.2 h0
  obtain ⟨b, off, a0, e, _, hb, _, _⟩ := str_row h hl
  subst e
  refine .inr ⟨b, off, rfl, hb, fun i hi => ?_⟩
  obtain ⟨b', off', a0, e, _, _, hx, hc⟩ := str_row h hi
  cases e
  rw [hx]; exact hc
theorem dn_of {S : Bs} {w : World} {l : RdnL} {ao : Option Addr} {n cap : Nat} (h : SlAt rdnE S w l (.slice ao n cap)) : DnAt w ao l := by
  by_cases h0 : l = []
  · exact .inl h0
  have hl : 0 < l.length := List.length_pos_iff.2 h0
  obtain ⟨b, off, a0, a1, e, _, hb, _, _⟩ := rdn_row h hl
  subst e
  refine .inr ⟨b, off, rfl, hb, fun i hi => ?_⟩
  obtain ⟨b', off', a0, a1, e, _, _, hx, hc, _⟩ := rdn_row h hi
  cases e
  rw [hx]; exact hc
theorem SlAt.cap {α : Type} {e : Enc α} {S : Bs} {w : World} {l : List α} {ao : Option Addr} {n cap : Nat} (h : SlAt e S w l (.slice ao n cap)) : n = l.length ∧ l.length ≤ cap ∧ (ao = none → cap = 0) := by
  obtain ⟨ao', cap', e1, h2, h3, _⟩ := h
  injection e1 with e1 e2 e3
  subst e1 e3
  exact ⟨e2, h2, h3⟩
theorem attrs_of {S : Bs} {w : World} {l : List AttrV} {ao : Option Addr} {n cap : Nat} (h : SlAt attrE S w l (.slice ao n cap)) : AttrsAt w ao l := by
  by_cases h0 : l = []
  · exact .inl h0
  have hl : 0 < l.length := List.length_pos_iff.2 h0
  obtain ⟨b, off, a0, a1, v1, e, _, hb, _, _⟩ := attr_row h hl
  subst e
  refine .inr ⟨b, off, rfl, hb, fun i hi => ?_⟩
  obtain ⟨b', off', a0, a1, v1, e, _, _, hx, hc, hs, _⟩ := attr_row h hi
  cases e
  rw [hx]
  obtain ⟨o, c, rfl⟩ := hs.sl
  obtain ⟨q1, q2, q3⟩ := hs.cap
  exact ⟨hc.1, o, c, hc.2, strs_of hs, q2, q3⟩
theorem szL_str (l : List ByteArray) : szL strE l = sizeV l := rfl
theorem fits_dn {l : RdnL} (h : l.length + szL rdnE l ≤ 1048576) : Fits l := ⟨by omega, fun r hr => by
  have h1 : rdnE.sz r ≤ szL rdnE l := szL_mem rdnE hr
  have h2 : rdnE.sz r = r.1.size + r.2.size := rfl
  omega⟩
theorem fits_str {l : List ByteArray} (h : l.length + szL strE l ≤ 1048576) : FitsV l := fitsV_of (by rw [szL_str] at h; exact h)
theorem fits_attrs {l : List AttrV} (h : l.length + szL attrE l ≤ 1048576) : FitsA l := ⟨by omega, fun r hr => by
  have h1 : attrE.sz r ≤ szL attrE l := szL_mem attrE hr
  have h2 : attrE.sz r = r.1.size + (r.2.length + szL strE r.2) := rfl
  exact ⟨by omega, fits_str (by omega)⟩⟩
end Go.Proofs.Ytglgkocjdockdaa
/- Classes: a name and three lists of names, and where they lie. -/
namespace Go.Proofs.Ytglgkocjdockdaa
open Go.RowKit

structure ClassV where
  nm : ByteArray
  must : List ByteArray
  may : List ByteArray
  one : List ByteArray
/-- a slice's value that holds texts -/
def SlV (w : World) (v : Value) (l : List ByteArray) : Prop := ∃ vo vc, v = .slice vo l.length vc ∧ ValsAt w vo vc l
theorem SlV.below {w w' : World} {v : Value} {l : List ByteArray} (h : SlV w v l) (hb : Below w.heap.size w w') : SlV w' v l := by
  obtain ⟨vo, vc, h1, h2⟩ := h
  exact ⟨vo, vc, h1, h2.below hb⟩
/-- the four cells of a class -/
structure ClsAt (w : World) (b off : Nat) (c : ClassV) (v1 v2 v3 : Value) : Prop where
  c0 : w.cell? ⟨b, off, none⟩ = some (.string c.nm)
  c1 : w.cell? ⟨b, off + 1, none⟩ = some v1
  c2 : w.cell? ⟨b, off + 2, none⟩ = some v2
  c3 : w.cell? ⟨b, off + 3, none⟩ = some v3
  s1 : SlV w v1 c.must
  s2 : SlV w v2 c.may
  s3 : SlV w v3 c.one
theorem ClsAt.below {w w' : World} {b off : Nat} {c : ClassV} {v1 v2 v3 : Value} (h : ClsAt w b off c v1 v2 v3) (hl : b < w.heap.size) (hb : Below w.heap.size w w') : ClsAt w' b off c v1 v2 v3 :=
  ⟨(hb.cell (p := ⟨b, off, none⟩) hl).trans h.c0, (hb.cell (p := ⟨b, off + 1, none⟩) hl).trans h.c1, (hb.cell (p := ⟨b, off + 2, none⟩) hl).trans h.c2, (hb.cell (p := ⟨b, off + 3, none⟩) hl).trans h.c3, h.s1.below hb, h.s2.below hb, h.s3.below hb⟩
/-- classes lie behind a slice -/
def ClassesAt (w : World) (ao : Option Addr) (l : List ClassV) : Prop :=
  l = [] ∨ ∃ b off, ao = some ⟨b, off, none⟩ ∧ b < w.heap.size ∧ ∀ i (h : i < l.length), ∃ v1 v2 v3, ClsAt w b (off + i * 4) l[i] v1 v2 v3
theorem ClassesAt.below {w w' : World} {ao : Option Addr} {l : List ClassV} (h : ClassesAt w ao l) (hb : Below w.heap.size w w') : ClassesAt w' ao l := by
  rcases h with h | ⟨b, off, h1, h2, h3⟩
  · exact .inl h
  · refine .inr ⟨b, off, h1, Nat.lt_of_lt_of_le h2 hb.size, fun i hi => ?_⟩
    obtain ⟨v1, v2, v3, g⟩ := h3 i hi
    exact ⟨v1, v2, v3, g.below h2 hb⟩
theorem ClassesAt.at {w : World} {ao : Option Addr} {l : List ClassV} (h : ClassesAt w ao l) {k : Nat} (hk : k < l.length) :
    ∃ b off v1 v2 v3, ao = some ⟨b, off, none⟩ ∧ b < w.heap.size ∧ ClsAt w b (off + k * 4) l[k] v1 v2 v3 := by
  rcases h with h | ⟨b, off, h1, h2, h3⟩
  · subst h; simp at hk
  · obtain ⟨v1, v2, v3, g⟩ := h3 k hk
    exact ⟨b, off, v1, v2, v3, h1, h2, g⟩
def LongC (l : List ClassV) : Prop := l.length ≤ 9223372036854775807 ∧ ∀ c ∈ l, c.nm.size ≤ maxLen ∧ LongV c.must ∧ LongV c.may ∧ LongV c.one
structure FitsC1 (c : ClassV) : Prop where
  nm : c.nm.size ≤ 1048576
  must : FitsV c.must
  may : FitsV c.may
  one : FitsV c.one
def FitsC (l : List ClassV) : Prop := l.length ≤ 1048576 ∧ ∀ c ∈ l, FitsC1 c
theorem FitsC.at {l : List ClassV} (h : FitsC l) {k : Nat} (hk : k < l.length) : FitsC1 l[k] := h.2 _ (List.getElem_mem hk)
def szV (l : List ByteArray) : Nat := l.length + sizeV l
def sizeC (c : ClassV) : Nat := c.nm.size + (szV c.must + (szV c.may + szV c.one))
def sizeCs (l : List ClassV) : Nat := (l.map sizeC).sum
theorem sizeCs_take (d : List ClassV) (k : Nat) (h : k < d.length) : sizeCs (d.take (k + 1)) = sizeCs (d.take k) + sizeC d[k] := by
  unfold sizeCs; rw [List.take_succ_eq_append_getElem h, List.map_append, List.sum_append]; simp
theorem sizeCs_le (d : List ClassV) (k : Nat) : sizeCs (d.take k) ≤ sizeCs d := by
  have h := List.take_append_drop k d
  have : sizeCs d = sizeCs (d.take k) + sizeCs (d.drop k) := by
    unfold sizeCs; rw [← List.sum_append, ← List.map_append, h]
  omega
theorem sizeCs_mem {l : List ClassV} {a : ClassV} (h : a ∈ l) : sizeC a ≤ sizeCs l := sum_mem (List.mem_map_of_mem h)
theorem fitsC_of {l : List ClassV} (h : l.length + sizeCs l ≤ 1048576) : FitsC l :=
  ⟨by omega, fun a ha => by
    have := sizeCs_mem ha
    unfold sizeC szV at this
    exact ⟨by omega, fitsV_of (by omega), fitsV_of (by omega), fitsV_of (by omega)⟩⟩
end Go.Proofs.Ytglgkocjdockdaa
/- EntryRight: the order of texts; the values of an attribute. -/
namespace Go.Proofs
open Go.Shelf
def Try.lays106_ren : Go.Shelf.Ren := ⟨fun | 106 => 114 | 213 => 141 | 265 => 161 | n => n, fun | 9 => 9 | 3 => 3 | n => n, fun | n => n⟩
theorem Try.lays106 : Go.Proofs.Lays.n106 Try.prog Try.lays106_ren := {
  mixed := by kernel_rfl
  f106 := Try.func114.trans (congrArg some (by kernel_rfl))
  f213 := Try.func141.trans (congrArg some (by kernel_rfl))
  f265 := Try.func161.trans (congrArg some (by kernel_rfl))
  t3 := Try.underlying3
  a3 := Try.isAgg3
  z3 := Try.sizeOf3
  v3 := Try.zeroValue3
  t9 := Try.underlying9
  a9 := Try.isAgg9
  z9 := Try.sizeOf9
  v9 := Try.zeroValue9 }
open Go.RowKit in
theorem Try.strings_Compare (a b : ByteArray) (w : World) :
    Calls Try.prog 114 #[.string a, .string b] w fun e w' => e = .returned (.int .i64 (Lib.compareBytes a.data.toList b.data.toList)) ∧ w' = w := Any.strings_Compare Try.lays106 a b w
namespace Ytglgkocjdockdaa
open Go.RowKit
attribute [local go_sem ↓] Go.wp_at_zero Go.wp_at_succ

theorem compare_less : ∀ (a b : List UInt8), decide (0 ≤ Lib.compareBytes a b) = !(Op.bytesLess a b)
  | [], [] => rfl
  | [], _ :: _ => rfl
  | _ :: _, [] => rfl
  | a :: xs, b :: ys => by
    unfold Lib.compareBytes Op.bytesLess
    have ih := compare_less xs ys
    by_cases h1 : a < b
    · simp [h1]
    · by_cases h2 : b < a
      · have h3 : a ≠ b := by rintro rfl; exact h1 h2
        simp [h1, h2, h3]
      · have h3 : a = b := UInt8.le_antisymm (UInt8.not_lt.1 h2) (UInt8.not_lt.1 h1)
        subst h3
        simp [h1, ih]
/-- a list each of whose elements is less than the next -/
noncomputable def incB {α : Type} (lt : α → α → Bool) (l : List α) : Bool := @decide (∀ i (h : i + 1 < l.length), lt l[i] l[i + 1] = true) (Classical.propDecidable _)
theorem incB_yes {α : Type} {lt : α → α → Bool} {l : List α} (h : ∀ i (h : i + 1 < l.length), lt l[i] l[i + 1] = true) : incB lt l = true := @decide_eq_true _ (Classical.propDecidable _) h
theorem incB_no {α : Type} {lt : α → α → Bool} {l : List α} {k : Nat} (hk : k + 1 < l.length) (h : lt l[k] l[k + 1] = false) : incB lt l = false :=
  @decide_eq_false _ (Classical.propDecidable _) (fun g => by have := g k hk; rw [h] at this; cases this)
def normLt (x y : ByteArray) : Bool := Op.bytesLess (normS x).toList (normS y).toList
def nameLt (a b : AttrV) : Bool := Op.bytesLess a.1.toList b.1.toList
noncomputable def valsB (l : List ByteArray) : Bool := decide (1 ≤ l.length) && decide (l.length ≤ 4) && l.all valB && incB normLt l
noncomputable def attrB (a : AttrV) : Bool := nmL a.1 && valsB a.2
noncomputable def attrsB (l : List AttrV) : Bool := decide (l.length ≤ 8) && l.all attrB && incB nameLt l
noncomputable def rightB (d : RdnL) (l : List AttrV) : Bool := dnB d && decide (0 < d.length) && attrsB l
set_option maxHeartbeats 1000000 in
theorem compareNorms_any (w0 : World) (a b : ByteArray) (w : World) (ha : a.size ≤ maxLen) (hb : b.size ≤ maxLen) (hB : Below w0.heap.size w0 w) :
    Calls Try.prog 166 #[.string a, .string b] w fun e w' => (∃ c : Int, e = .returned (.int .i64 c) ∧ decide (0 ≤ c) = !(normLt a b)) ∧ Below w0.heap.size w0 w' := by
  have HC : Hid (decide (0 ≤ Lib.compareBytes (normS a).data.toList (normS b).data.toList) = !(normLt a b)) := Lib.hid (by rw [compare_less]; unfold normLt; rw [Lib.toList_data, Lib.toList_data])
  have hbd := hB.drew
  have HN : Hid (∀ (s : ByteArray) W, s.size ≤ maxLen → Below w0.heap.size w0 W → Calls Try.prog 182 #[.string s] W fun e w' => e = .returned (.string (normS s)) ∧ Below w0.heap.size w0 w') :=
    Lib.hid (fun s W hs h => (Norm_any s W hs).mono fun _ _ g => ⟨g.1, h.trans (g.2.mono h.size)⟩)
  go_enter Try.func166, Try.ntmps166
  go_wp2_with (first
    | (go_at_call 182; refine (HN.out _ _ ha hB).mono ?_; rintro e w1 ⟨rfl, hb1⟩; clear hB hbd)
    | (go_at_call 182; refine (HN.out _ _ hb hb1).mono ?_; rintro e w2 ⟨rfl, hb2⟩; clear hb1)
    | (go_at_call 114; refine (Try.strings_Compare _ _ _).mono ?_; rintro e w3 ⟨rfl, rfl⟩)
    | (fail "none"))
  go_ret
  exact ⟨⟨_, rfl, HC.out⟩, hb2⟩
theorem FitsV.max {l : List ByteArray} (h : FitsV l) {k : Nat} (hk : k < l.length) : l[k].size ≤ maxLen := by have := h.at hk; unfold maxLen; omega
set_option maxRecDepth 100000 in
set_option maxHeartbeats 1000000 in
theorem areProper_any (ao : Option Addr) (l : List ByteArray) (cap : Nat) (w : World) (hd : StrsAt w ao l) (hf : FitsV l) :
    Calls Try.prog 165 #[.slice ao l.length cap] w fun e w' => e = .returned (.bool (l.all valB)) ∧ Below w.heap.size w w' := by
  have hl := hf.1
  have HD := Lib.hid hd; have HF := Lib.hid hf; clear hd hf
  go_enter Try.func165, Try.ntmps165
  go_wp2
  go_loopw [7] (fun i wr => ∃ k : Nat, k ≤ l.length ∧ i = .int .i64 k ∧ (l.take k).all valB = true ∧ Below w.heap.size w wr) (fun i _ => l.length - (intOf i).toNat)
  case atStart => exact ⟨0, Nat.zero_le _, rfl, rfl, Below.refl _ _⟩
  case round =>
    obtain ⟨k, hk, rfl, ha, hbel⟩ := hrel
    have Ha := Lib.hid ha; clear ha
    have hsz := hbel.size
    by_cases hlt : k < l.length
    · obtain ⟨b, off, rfl, hb0, hc1⟩ := (HD.out.below hbel).at hlt
      have hz := HF.out.max hlt
      generalize hr : valB l[k] = r at *
      have HR := Lib.hid hr; clear hr
      cases r
      · have HX := Lib.hid (all_bad valB l k hlt HR.out)
        go_wp2_with (first | (go_at_call 162; refine (isProperValue_any _ _ hz).mono ?_; rintro e w1 ⟨rfl, hb1⟩; rw [HR.out]) | (fail "none"))
        go_ret
        exact ⟨ret_bool (by rw [HX.out]), hbel.trans (hb1.mono hsz)⟩
      · have HT : Hid ((l.take (k + 1)).all valB = true) := Lib.hid (by rw [all_take valB l k hlt, Ha.out, HR.out]; rfl)
        go_wp2_with (first | (go_at_call 162; refine (isProperValue_any _ _ hz).mono ?_; rintro e w1 ⟨rfl, hb1⟩; rw [HR.out]) | (fail "none"))
        go_roundw
        case rel => exact ⟨k + 1, by omega, by go_num, HT.out, hbel.trans (hb1.mono hsz)⟩
        case measure => simp [intOf]; omega
    · have e : l.take k = l := List.take_of_length_le (by omega)
      have HT : Hid (l.all valB = true) := Lib.hid (by rw [← e]; exact Ha.out)
      clear e
      go_wp2
      go_ret
      exact ⟨ret_bool (by rw [HT.out]), hbel⟩
set_option maxRecDepth 100000 in
set_option maxHeartbeats 1000000 in
theorem incStr_any (ao : Option Addr) (l : List ByteArray) (cap : Nat) (w : World) (hd : StrsAt w ao l) (hf : FitsV l) :
    Calls Try.prog 142 #[.slice ao l.length cap, .func (.func 166) #[] #[]] w fun e w' => e = .returned (.bool (incB normLt l)) ∧ Below w.heap.size w w' := by
  have hl := hf.1
  have HD := Lib.hid hd; have HF := Lib.hid hf; clear hd hf
  go_enter Try.func142, Try.ntmps142
  go_wp2
  go_loopw [5] (fun i wr => ∃ m : Nat, m ≤ l.length ∧ i = .int .i64 ((m : Int) + 1) ∧ (∀ j (h : j + 1 < l.length), j < m → normLt l[j] l[j + 1] = true) ∧ Below w.heap.size w wr) (fun i _ => l.length + 1 - (intOf i).toNat)
  case atStart => exact ⟨0, Nat.zero_le _, rfl, fun j _ h => absurd h (Nat.not_lt_zero _), Below.refl _ _⟩
  case round =>
    obtain ⟨m, hm, rfl, ha, hbel⟩ := hrel
    have Ha := Lib.hid ha; clear ha
    have hsz := hbel.size
    by_cases hlt : m + 1 < l.length
    · have hm0 : m < l.length := by omega
      obtain ⟨b, off, rfl, hw0, hd1⟩ := HD.out.at hm0
      obtain ⟨b', off', e, _, hd2⟩ := HD.out.at hlt
      cases e
      have hc1 := (hbel.cell (p := ⟨b, off + m, none⟩) hw0).trans hd1
      have hc2 := (hbel.cell (p := ⟨b, off + (m + 1), none⟩) hw0).trans hd2
      have hz1 := HF.out.max hm0
      have hz2 := HF.out.max hlt
      have g1 : (m : Int) + 1 < (l.length : Int) := by omega
      have g2 : (0 : Int) ≤ (m : Int) := by omega
      have g3 : (m : Int) < (l.length : Int) := by omega
      have g4 : (0 : Int) ≤ (m : Int) + 1 := by omega
      have HN : Hid (∀ j (h : j + 1 < l.length), j < m + 1 → normLt l[m] l[m + 1] = true → normLt l[j] l[j + 1] = true) := Lib.hid (fun j h hj hn => by
        by_cases e : j = m
        · subst e; exact hn
        · exact Ha.out j h (by omega))
      have HX : Hid (normLt l[m] l[m + 1] = false → incB normLt l = false) := Lib.hid (fun h => incB_no hlt h)
      generalize hx : l[m] = X at *
      generalize hy : l[m + 1] = Y at *
      clear hx hy
      have SK : Hid (∀ W : World, Below w.heap.size w W → (Below w.heap.size w W ∧ W.cell? ⟨b, off + m, none⟩ = some (.string X) ∧ W.cell? ⟨b, off + (m + 1), none⟩ = some (.string Y))) :=
        Lib.hid (fun W h => ⟨h, (h.cell (p := ⟨b, _, none⟩) hw0).trans hd1, (h.cell (p := ⟨b, _, none⟩) hw0).trans hd2⟩)
      have hbd := hbel.drew
      have hwr : IntKind.i64.wrap (m : Int) = (m : Int) := IntWalk.i64_in _ (by omega)
      have hwr2 : IntKind.i64.wrap ((m : Int) + 1 - 1) = (m : Int) := by rw [Int.add_sub_cancel]; exact hwr
      clear hc1 hc2 hd1 hd2
      cases hn : normLt X Y
      · have HX' := Lib.hid (HX.out hn)
        go_wp2_with fail
        go_region_held3 (fun W => Below w.heap.size w W ∧ W.cell? ⟨b, off + m, none⟩ = some (.string X) ∧ W.cell? ⟨b, off + (m + 1), none⟩ = some (.string Y))
          (exact SK.out _ (by assumption))
          (first | (go_at_call 166; refine (compareNorms_any w X Y _ hz1 hz2 (by assumption)).mono ?_; rintro e w1 ⟨⟨c, rfl, hc⟩, hb1⟩; rw [hn] at hc; have hc0 : 0 ≤ c := (by simpa using hc); clear hc) | (fail "none"))
        all_goals
          go_wp2
          go_ret
          exact ⟨ret_bool (by rw [HX'.out]), hb1⟩
      · go_wp2_with fail
        go_region_held3 (fun W => Below w.heap.size w W ∧ W.cell? ⟨b, off + m, none⟩ = some (.string X) ∧ W.cell? ⟨b, off + (m + 1), none⟩ = some (.string Y))
          (exact SK.out _ (by assumption))
          (first | (go_at_call 166; refine (compareNorms_any w X Y _ hz1 hz2 (by assumption)).mono ?_; rintro e w1 ⟨⟨c, rfl, hc⟩, hb1⟩; rw [hn] at hc; have hc0 : ¬ 0 ≤ c := (by simpa using hc); clear hc) | (fail "none"))
        all_goals
          go_wp2
          go_roundw
          case rel => exact ⟨m + 1, by omega, by go_num, fun j h hj => HN.out j h hj hn, hb1⟩
          case measure => simp [intOf]; omega
    · have HT : Hid (incB normLt l = true) := Lib.hid (incB_yes fun j h => Ha.out j h (by omega))
      have g1 : ¬ (m : Int) + 1 < (l.length : Int) := by omega
      go_wp2
      go_ret
      exact ⟨ret_bool (by rw [HT.out]), hbel⟩
set_option maxRecDepth 100000 in
set_option maxHeartbeats 1000000 in
theorem attrRight_any (A : ByteArray) (vo : Option Addr) (l : List ByteArray) (vc : Nat) (w : World) (hA : A.size ≤ maxLen) (hd : StrsAt w vo l) (hf : FitsV l) :
    Calls Try.prog 148 #[.agg #[.string A, .slice vo l.length vc]] w fun e w' => e = .returned (.bool (attrB (A, l))) ∧ Below w.heap.size w w' := by
  have hl := hf.1
  have HD := Lib.hid hd; have HF := Lib.hid hf; clear hd hf
  have HB0 : Hid (Below w.heap.size w (w.alloc (.cells #[.string A, .slice vo l.length vc] 83))) := Lib.hid (more (Below.refl _ _) _)
  have HE : Hid (attrB (A, l) = (nmL A && (decide (1 ≤ l.length) && decide (l.length ≤ 4) && l.all valB && incB normLt l))) := Lib.hid rfl
  by_cases h1 : l.length < 1
  · have g1 : (l.length : Int) < 1 := by omega
    go_enter Try.func148, Try.ntmps148
    go_wp2
    go_ret
    exact ⟨ret_bool (by rw [HE.out]; simp [show ¬ 1 ≤ l.length by omega]), HB0.out⟩
  · have g1 : ¬ (l.length : Int) < 1 := by omega
    by_cases h4 : 4 < l.length
    · have g4 : 4 < (l.length : Int) := by omega
      go_enter Try.func148, Try.ntmps148
      go_wp2
      go_ret
      exact ⟨ret_bool (by rw [HE.out]; simp [show ¬ l.length ≤ 4 by omega]), HB0.out⟩
    · have g4 : ¬ 4 < (l.length : Int) := by omega
      have d1 : decide (1 ≤ l.length) = true := decide_eq_true (by omega)
      have d2 : decide (l.length ≤ 4) = true := decide_eq_true (by omega)
      rw [d1, d2] at HE
      clear d1 d2
      cases hn : nmL A
      · rw [hn] at HE
        go_enter Try.func148, Try.ntmps148
        go_wp2_with (first | (go_at_call 84; refine (NameRight_any _ _ hA).mono ?_; rintro e w' ⟨rfl, rfl⟩) | (fail "none"))
        go_ret
        exact ⟨ret_bool (by rw [HE.out]; simp), HB0.out⟩
      · rw [hn] at HE
        cases hv : l.all valB
        · rw [hv] at HE
          go_enter Try.func148, Try.ntmps148
          go_wp2_with (first | (go_at_call 84; refine (NameRight_any _ _ hA).mono ?_; rintro e w' ⟨rfl, rfl⟩) | (go_at_call 165; refine (areProper_any vo l vc _ (HD.out.below HB0.out) HF.out).mono ?_; rw [hv]; rintro e w1 ⟨rfl, hb1⟩) | (fail "none"))
          go_ret
          exact ⟨ret_bool (by rw [HE.out]; simp), HB0.out.trans (hb1.mono HB0.out.size)⟩
        · rw [hv] at HE
          go_enter Try.func148, Try.ntmps148
          go_wp2_with (first | (go_at_call 84; refine (NameRight_any _ _ hA).mono ?_; rintro e w' ⟨rfl, rfl⟩) | (go_at_call 165; refine (areProper_any vo l vc _ (HD.out.below HB0.out) HF.out).mono ?_; rw [hv]; rintro e w1 ⟨rfl, hb1⟩; have B1 := Lib.hid (HB0.out.trans (hb1.mono HB0.out.size)); have c1 : w1.cell? ⟨w.heap.size, 1, none⟩ = some (.slice vo l.length vc) := (hb1.cell (p := ⟨w.heap.size, 1, none⟩) (by simp)).trans (by unfold World.cell?; rw [heap_alloc_new]; rfl)) | (fail "none"))
          refine (incStr_any vo l vc w1 (HD.out.below B1.out) HF.out).mono ?_
          rintro e w2 ⟨rfl, hb2⟩
          have B2 := Lib.hid (B1.out.trans (hb2.mono B1.out.size))
          clear hb1 hb2
          generalize incB normLt l = r at *
          go_wp2
          go_ret
          exact ⟨ret_bool (by rw [HE.out]; simp), B2.out⟩
end Ytglgkocjdockdaa
end Go.Proofs
/- SchemaRight: names in order. -/
namespace Go.Proofs.Ytglgkocjdockdaa
open Go.RowKit
attribute [local go_sem ↓] Go.wp_at_zero Go.wp_at_succ

def strLt (x y : ByteArray) : Bool := Op.bytesLess x.toList y.toList
noncomputable def namesB (l : List ByteArray) : Bool := l.all nmL && incB strLt l
theorem compare_any (w0 : World) (a b : ByteArray) (w : World) (hB : Below w0.heap.size w0 w) :
    Calls Try.prog 114 #[.string a, .string b] w fun e w' => (∃ c : Int, e = .returned (.int .i64 c) ∧ decide (0 ≤ c) = !(strLt a b)) ∧ Below w0.heap.size w0 w' := by
  refine (Try.strings_Compare a b w).mono ?_
  rintro e w' ⟨rfl, rfl⟩
  exact ⟨⟨_, rfl, by rw [compare_less]; unfold strLt; rw [Lib.toList_data, Lib.toList_data]⟩, hB⟩
set_option maxRecDepth 100000 in
set_option maxHeartbeats 1000000 in
theorem incName_any (ao : Option Addr) (l : List ByteArray) (cap : Nat) (w : World) (hd : StrsAt w ao l) (hf : FitsV l) :
    Calls Try.prog 142 #[.slice ao l.length cap, .func (.func 114) #[] #[]] w fun e w' => e = .returned (.bool (incB strLt l)) ∧ Below w.heap.size w w' := by
  have hl := hf.1
  have HD := Lib.hid hd; have HF := Lib.hid hf; clear hd hf
  go_enter Try.func142, Try.ntmps142
  go_wp2
  go_loopw [5] (fun i wr => ∃ m : Nat, m ≤ l.length ∧ i = .int .i64 ((m : Int) + 1) ∧ (∀ j (h : j + 1 < l.length), j < m → strLt l[j] l[j + 1] = true) ∧ Below w.heap.size w wr) (fun i _ => l.length + 1 - (intOf i).toNat)
  case atStart => exact ⟨0, Nat.zero_le _, rfl, fun j _ h => absurd h (Nat.not_lt_zero _), Below.refl _ _⟩
  case round =>
    obtain ⟨m, hm, rfl, ha, hbel⟩ := hrel
    have Ha := Lib.hid ha; clear ha
    have hsz := hbel.size
    by_cases hlt : m + 1 < l.length
    · have hm0 : m < l.length := by omega
      obtain ⟨b, off, rfl, hw0, hd1⟩ := HD.out.at hm0
      obtain ⟨b', off', e, _, hd2⟩ := HD.out.at hlt
      cases e
      have hc1 := (hbel.cell (p := ⟨b, off + m, none⟩) hw0).trans hd1
      have hc2 := (hbel.cell (p := ⟨b, off + (m + 1), none⟩) hw0).trans hd2
      have hz1 := HF.out.max hm0
      have hz2 := HF.out.max hlt
      have g1 : (m : Int) + 1 < (l.length : Int) := by omega
      have g2 : (0 : Int) ≤ (m : Int) := by omega
      have g3 : (m : Int) < (l.length : Int) := by omega
      have g4 : (0 : Int) ≤ (m : Int) + 1 := by omega
      have HN : Hid (∀ j (h : j + 1 < l.length), j < m + 1 → strLt l[m] l[m + 1] = true → strLt l[j] l[j + 1] = true) := Lib.hid (fun j h hj hn => by
        by_cases e : j = m
        · subst e; exact hn
        · exact Ha.out j h (by omega))
      have HX : Hid (strLt l[m] l[m + 1] = false → incB strLt l = false) := Lib.hid (fun h => incB_no hlt h)
      generalize hx : l[m] = X at *
      generalize hy : l[m + 1] = Y at *
      clear hx hy
      have SK : Hid (∀ W : World, Below w.heap.size w W → (Below w.heap.size w W ∧ W.cell? ⟨b, off + m, none⟩ = some (.string X) ∧ W.cell? ⟨b, off + (m + 1), none⟩ = some (.string Y))) :=
        Lib.hid (fun W h => ⟨h, (h.cell (p := ⟨b, _, none⟩) hw0).trans hd1, (h.cell (p := ⟨b, _, none⟩) hw0).trans hd2⟩)
      have hbd := hbel.drew
      have hwr : IntKind.i64.wrap (m : Int) = (m : Int) := IntWalk.i64_in _ (by omega)
      have hwr2 : IntKind.i64.wrap ((m : Int) + 1 - 1) = (m : Int) := by rw [Int.add_sub_cancel]; exact hwr
      clear hc1 hc2 hd1 hd2
      cases hn : strLt X Y
      · have HX' := Lib.hid (HX.out hn)
        go_wp2_with fail
        go_region_held3 (fun W => Below w.heap.size w W ∧ W.cell? ⟨b, off + m, none⟩ = some (.string X) ∧ W.cell? ⟨b, off + (m + 1), none⟩ = some (.string Y))
          (exact SK.out _ (by assumption))
          (first | (go_at_call 114; refine (compare_any w X Y _ (by assumption)).mono ?_; rintro e w1 ⟨⟨c, rfl, hc⟩, hb1⟩; rw [hn] at hc; have hc0 : 0 ≤ c := (by simpa using hc); clear hc) | (fail "none"))
        all_goals
          go_wp2
          go_ret
          exact ⟨ret_bool (by rw [HX'.out]), hb1⟩
      · go_wp2_with fail
        go_region_held3 (fun W => Below w.heap.size w W ∧ W.cell? ⟨b, off + m, none⟩ = some (.string X) ∧ W.cell? ⟨b, off + (m + 1), none⟩ = some (.string Y))
          (exact SK.out _ (by assumption))
          (first | (go_at_call 114; refine (compare_any w X Y _ (by assumption)).mono ?_; rintro e w1 ⟨⟨c, rfl, hc⟩, hb1⟩; rw [hn] at hc; have hc0 : ¬ 0 ≤ c := (by simpa using hc); clear hc) | (fail "none"))
        all_goals
          go_wp2
          go_roundw
          case rel => exact ⟨m + 1, by omega, by go_num, fun j h hj => HN.out j h hj hn, hb1⟩
          case measure => simp [intOf]; omega
    · have HT : Hid (incB strLt l = true) := Lib.hid (incB_yes fun j h => Ha.out j h (by omega))
      have g1 : ¬ (m : Int) + 1 < (l.length : Int) := by omega
      go_wp2
      go_ret
      exact ⟨ret_bool (by rw [HT.out]), hbel⟩
set_option maxRecDepth 100000 in
set_option maxHeartbeats 1000000 in
theorem areNames_any (ao : Option Addr) (l : List ByteArray) (cap : Nat) (w : World) (hd : StrsAt w ao l) (hf : FitsV l) :
    Calls Try.prog 116 #[.slice ao l.length cap] w fun e w' => e = .returned (.bool (namesB l)) ∧ Below w.heap.size w w' := by
  have hl := hf.1
  have HD := Lib.hid hd; have HF := Lib.hid hf; clear hd hf
  go_enter Try.func116, Try.ntmps116
  go_wp2
  go_loopw [7] (fun i wr => ∃ k : Nat, k ≤ l.length ∧ i = .int .i64 k ∧ (l.take k).all nmL = true ∧ Below w.heap.size w wr) (fun i _ => l.length - (intOf i).toNat)
  case atStart => exact ⟨0, Nat.zero_le _, rfl, rfl, Below.refl _ _⟩
  case round =>
    obtain ⟨k, hk, rfl, ha, hbel⟩ := hrel
    have Ha := Lib.hid ha; clear ha
    have hsz := hbel.size
    by_cases hlt : k < l.length
    · obtain ⟨b, off, rfl, hb0, hc1⟩ := (HD.out.below hbel).at hlt
      have hz := HF.out.max hlt
      generalize hr : nmL l[k] = r at *
      have HR := Lib.hid hr; clear hr
      cases r
      · have HX : Hid (namesB l = false) := Lib.hid (by unfold namesB; rw [all_bad nmL l k hlt HR.out]; rfl)
        go_wp2_with (first | (go_at_call 84; refine (NameRight_any _ _ hz).mono ?_; rintro e w1 ⟨rfl, rfl⟩; rw [HR.out]) | (fail "none"))
        go_ret
        exact ⟨ret_bool (by rw [HX.out]), hbel⟩
      · have HT : Hid ((l.take (k + 1)).all nmL = true) := Lib.hid (by rw [all_take nmL l k hlt, Ha.out, HR.out]; rfl)
        go_wp2_with (first | (go_at_call 84; refine (NameRight_any _ _ hz).mono ?_; rintro e w1 ⟨rfl, rfl⟩; rw [HR.out]) | (fail "none"))
        go_roundw
        case rel => exact ⟨k + 1, by omega, by go_num, HT.out, hbel⟩
        case measure => simp [intOf]; omega
    · have e : l.take k = l := List.take_of_length_le (by omega)
      have HT : Hid (namesB l = incB strLt l) := Lib.hid (by unfold namesB; rw [← e, Ha.out, e]; rfl)
      clear e
      go_wp2_with fail
      refine (incName_any ao l cap wr (HD.out.below hbel) HF.out).mono ?_
      rintro e w1 ⟨rfl, hb1⟩
      have B1 := Lib.hid (hbel.trans (hb1.mono hsz))
      generalize incB strLt l = r at *
      go_wp2
      go_ret
      exact ⟨ret_bool (by rw [HT.out]), B1.out⟩
noncomputable def names10 (l : List ByteArray) : Bool := decide (l.length ≤ 10) && namesB l
end Go.Proofs.Ytglgkocjdockdaa
/- Names among others: what slices.Contains and the specification's look-up return. -/
namespace Go.Proofs.Ytglgkocjdockdaa
open Go.RowKit
attribute [local go_sem ↓] Go.wp_at_zero Go.wp_at_succ

def hasS (l : List ByteArray) (x : ByteArray) : Bool := l.any fun y => y.toList == x.toList
theorem hasS_yes {l : List ByteArray} {x : ByteArray} {k : Nat} (hk : k < l.length) (h : (l[k].toList == x.toList) = true) : hasS l x = true := by
  unfold hasS
  rw [List.any_eq_true]
  exact ⟨l[k], List.getElem_mem hk, h⟩
theorem hasS_no {l : List ByteArray} {x : ByteArray} (h : ∀ j (h : j < l.length), (l[j].toList == x.toList) = false) : hasS l x = false := by
  unfold hasS
  rw [List.any_eq_false]
  intro y hy
  obtain ⟨i, hi, rfl⟩ := List.getElem_of_mem hy
  rw [h i hi]; simp
theorem beq_swap (a b : ByteArray) : (a.toList == b.toList) = (b.toList == a.toList) := by
  rw [Bool.eq_iff_iff]; simp only [beq_iff_eq]; exact ⟨Eq.symm, Eq.symm⟩
set_option maxRecDepth 100000 in
set_option maxHeartbeats 1000000 in
theorem index_any (ao : Option Addr) (l : List ByteArray) (cap : Nat) (x : ByteArray) (w : World) (hd : StrsAt w ao l) (hl : l.length ≤ 10000000) :
    Calls Try.prog 183 #[.slice ao l.length cap, .string x] w fun e w' => (∃ n : Int, e = .returned (.int .i64 n) ∧ decide (0 ≤ n) = hasS l x) ∧ w' = w := by
  have HD := Lib.hid hd; clear hd
  go_enter Try.func183, Try.ntmps183
  go_wp2
  go_loopw [5, 8] (fun _ i wr => ∃ k : Nat, k ≤ l.length ∧ i = .int .i64 k ∧ (∀ j (h : j < l.length), j < k → (l[j].toList == x.toList) = false) ∧ wr = w) (fun _ i _ => l.length - (intOf i).toNat)
  case atStart => exact ⟨0, Nat.zero_le _, rfl, fun j _ h => absurd h (Nat.not_lt_zero _), by trivial⟩
  case round =>
    obtain ⟨k, hk, rfl, ha, rfl⟩ := hrel
    have Ha := Lib.hid ha; clear ha
    by_cases hlt : k < l.length
    · obtain ⟨b, off, rfl, hb0, hc1⟩ := HD.out.at hlt
      have HY : Hid ((l[k].toList == x.toList) = true → hasS l x = true) := Lib.hid (fun h => hasS_yes hlt h)
      have HN : Hid ((l[k].toList == x.toList) = false → ∀ j (h : j < l.length), j < k + 1 → (l[j].toList == x.toList) = false) := Lib.hid (fun hn j h hj => by
        by_cases e : j = k
        · subst e; exact hn
        · exact Ha.out j h (by omega))
      generalize l[k] = A at *
      have hsw := beq_swap x A
      cases hq : (A.toList == x.toList)
      · rw [hq] at hsw
        have HN' := Lib.hid (HN.out hq)
        go_wp2
        go_roundw
        case rel => exact ⟨k + 1, by omega, by go_num, HN'.out, trivial⟩
        case measure => simp [intOf]; omega
      · rw [hq] at hsw
        have HY' := Lib.hid (HY.out hq)
        go_wp2
        go_ret
        exact ⟨⟨_, rfl, by rw [HY'.out]; exact decide_eq_true (by omega)⟩, rfl⟩
    · have HN' : Hid (hasS l x = false) := Lib.hid (hasS_no fun j h => Ha.out j h (by omega))
      go_wp2
      go_ret
      exact ⟨⟨_, rfl, by rw [HN'.out]; rfl⟩, rfl⟩
set_option maxHeartbeats 1000000 in
theorem contains_any (ao : Option Addr) (l : List ByteArray) (cap : Nat) (x : ByteArray) (w : World) (hd : StrsAt w ao l) (hl : l.length ≤ 10000000) :
    Calls Try.prog 163 #[.slice ao l.length cap, .string x] w fun e w' => e = .returned (.bool (hasS l x)) ∧ w' = w := by
  have HD := Lib.hid hd; clear hd
  go_enter Try.func163, Try.ntmps163
  go_wp2_with fail
  refine (index_any ao l cap x w HD.out hl).mono ?_
  rintro e w' ⟨⟨n, rfl, hn⟩, rfl⟩
  have HN := Lib.hid hn; clear hn
  by_cases h : 0 ≤ n
  · have HR : Hid (hasS l x = true) := Lib.hid (by rw [← HN.out]; exact decide_eq_true h)
    go_wp2
    go_ret
    exact ⟨ret_bool (by rw [HR.out]), rfl⟩
  · have HR : Hid (decide (0 ≤ n) = hasS l x) := HN
    go_wp2
    go_ret
    exact ⟨ret_bool HR.out, rfl⟩
set_option maxRecDepth 100000 in
set_option maxHeartbeats 1000000 in
theorem l04Has_any (ao : Option Addr) (l : List ByteArray) (cap : Nat) (x : ByteArray) (w : World) (hd : StrsAt w ao l) (hl : l.length ≤ 10000000) :
    Calls Try.prog 120 #[.slice ao l.length cap, .string x] w fun e w' => e = .returned (.bool (hasS l x)) ∧ w' = w := by
  have HD := Lib.hid hd; clear hd
  go_enter Try.func120, Try.ntmps120
  go_wp2
  go_loopw [5] (fun i wr => ∃ k : Nat, k ≤ l.length ∧ i = .int .i64 k ∧ (∀ j (h : j < l.length), j < k → (l[j].toList == x.toList) = false) ∧ wr = w) (fun i _ => l.length - (intOf i).toNat)
  case atStart => exact ⟨0, Nat.zero_le _, rfl, fun j _ h => absurd h (Nat.not_lt_zero _), by trivial⟩
  case round =>
    obtain ⟨k, hk, rfl, ha, rfl⟩ := hrel
    have Ha := Lib.hid ha; clear ha
    by_cases hlt : k < l.length
    · obtain ⟨b, off, rfl, hb0, hc1⟩ := HD.out.at hlt
      have HY : Hid ((l[k].toList == x.toList) = true → hasS l x = true) := Lib.hid (fun h => hasS_yes hlt h)
      have HN : Hid ((l[k].toList == x.toList) = false → ∀ j (h : j < l.length), j < k + 1 → (l[j].toList == x.toList) = false) := Lib.hid (fun hn j h hj => by
        by_cases e : j = k
        · subst e; exact hn
        · exact Ha.out j h (by omega))
      generalize l[k] = A at *
      cases hq : (A.toList == x.toList)
      · have HN' := Lib.hid (HN.out hq)
        go_wp2
        go_roundw
        case rel => exact ⟨k + 1, by omega, by go_num, HN'.out, trivial⟩
        case measure => simp [intOf]; omega
      · have HY' := Lib.hid (HY.out hq)
        go_wp2
        go_ret
        exact ⟨ret_bool (by rw [HY'.out]), rfl⟩
    · have HN' : Hid (hasS l x = false) := Lib.hid (hasS_no fun j h => Ha.out j h (by omega))
      go_wp2
      go_ret
      exact ⟨ret_bool (by rw [HN'.out]), rfl⟩

end Go.Proofs.Ytglgkocjdockdaa
/- Access control: which rules are right: the program. -/
namespace Go.Proofs.Ytglgkocjdockdaa
open Go.RowKit
attribute [local go_sem ↓] Go.wp_at_zero Go.wp_at_succ

def starB (s : ByteArray) : Bool := s.toList == [42]
def rtB (r : Int) : Bool := decide (1 ≤ r) && decide (r ≤ 4)
noncomputable def ruleB (x : RuleT) : Bool := (starB x.1 || nmL x.1) && (decide (x.2.2.1.length ≤ 8) && namesB x.2.2.1) && (dnB x.2.1 && rtB x.2.2.2.1)
noncomputable def aclB (l : List RuleT) : Bool := decide (l.length ≤ 10) && l.all ruleB
theorem isRight_any (r : Int) (w : World) : Calls Try.prog 118 #[.int .i64 r] w fun e w' => e = .returned (.bool (rtB r)) ∧ w' = w := by
  by_cases h1 : 1 ≤ r
  · by_cases h2 : r ≤ 4
    all_goals
      go_enter Try.func118, Try.ntmps118
      go_wp2
      go_ret
      exact ⟨ret_bool (by simp [rtB, h1, h2]), rfl⟩
  · go_enter Try.func118, Try.ntmps118
    go_wp2
    go_ret
    exact ⟨ret_bool (by simp [rtB, h1]; omega), rfl⟩
set_option maxRecDepth 100000 in
set_option maxHeartbeats 4000000 in
theorem ruleRight_any {S : Bs} (a0 : ByteArray) (a1 : List RdnT) (a2 : List ByteArray) (a3 : Int) (a4 : Bool) (v1 v2 : Value) (w : World) (h1 : SlAt rdnE S w a1 v1) (h2 : SlAt strE S w a2 v2) (hz : ruleE.sz (a0, a1, a2, a3, a4) ≤ 1048576) :
    Calls Try.prog 69 #[.agg #[.string a0, v1, v2, .int .i64 a3, .bool a4]] w fun e w' => e = .returned (.bool (ruleB (a0, a1, a2, a3, a4))) ∧ Below w.heap.size w w' := by
  have HE : ruleE.sz (a0, a1, a2, a3, a4) = a0.size + ((a1.length + szL rdnE a1) + ((a2.length + szL strE a2) + (0 + (0)))) := rfl
  rw [HE] at hz
  have HB : Hid (ruleB (a0, a1, a2, a3, a4) = ((starB a0 || nmL a0) && (decide (a2.length ≤ 8) && namesB a2) && (dnB a1 && rtB a3))) := Lib.hid rfl
  obtain ⟨o1, k1, rfl⟩ := h1.sl
  obtain ⟨o2, k2, rfl⟩ := h2.sl
  have CN : Hid (∀ W : World, Calls Try.prog 84 #[.string a0] W fun e w' => e = .returned (.bool (nmL a0)) ∧ W = w') := Lib.hid (fun W => NameRight_any a0 W (by unfold maxLen; omega))
  have CA : Hid (∀ W : World, Below w.heap.size w W → Calls Try.prog 116 #[.slice o2 a2.length k2] W fun e w' => e = .returned (.bool (namesB a2)) ∧ Below W.heap.size W w') := Lib.hid (fun W b => areNames_any o2 a2 k2 W ((strs_of h2).below b) (fits_str (by omega)))
  have CD : Hid (∀ W : World, Below w.heap.size w W → Calls Try.prog 117 #[.slice o1 a1.length k1] W fun e w' => e = .returned (.bool (dnB a1)) ∧ Below W.heap.size W w') := Lib.hid (fun W b => DnRight_any o1 a1 k1 W ((dn_of h1).below b) (fits_dn (by omega)))
  have hl2 : a2.length ≤ 1048576 := by omega
  clear h1 h2 hz HE
  generalize nmL a0 = nm at *
  generalize namesB a2 = nms at *
  generalize dnB a1 = dn at *
  generalize hs : starB a0 = st at *
  have hst : (a0.toList == [42]) = st := hs
  clear hs
  generalize ruleB (a0, a1, a2, a3, a4) = R at *
  have hcase : (st = false ∧ nm = false) ∨ (st || nm) = true := by cases st <;> cases nm <;> simp
  rcases hcase with ⟨e1, e2⟩ | hok
  · subst e1 e2
    go_enter Try.func69, Try.ntmps69
    go_wp2_with fail
    refine (CN.out _).mono ?_
    rintro e w1 ⟨rfl, rfl⟩
    go_wp2
    go_ret
    exact ⟨ret_bool (by rw [HB.out]; rfl), more' (Below.refl _ _) _⟩
  rw [hok] at HB
  have HB2 : Hid (R = ((decide (a2.length ≤ 8) && nms) && (dn && rtB a3))) := Lib.hid (by rw [HB.out]; simp)
  have CN2 : Hid (st = false → nm = true) := Lib.hid (fun h => by subst h; simpa using hok)
  clear HB hok
  by_cases h8 : a2.length ≤ 8
  rotate_left
  · have HR : Hid (R = false) := Lib.hid (by rw [HB2.out]; simp [h8])
    have h8' : (8 : Int) < (a2.length : Int) := by omega
    cases st
    all_goals
      first
        | (have hn := CN2.out rfl; rw [hn] at CN; clear CN2)
        | clear CN2
      go_enter Try.func69, Try.ntmps69
      go_wp2_with (first | (go_at_call 84; refine (CN.out _).mono ?_; rintro e w1 ⟨rfl, rfl⟩) | (fail "none"))
      go_ret
      exact ⟨ret_bool HR.out.symm, more' (Below.refl _ _) _⟩
  have HB3 : Hid (R = (nms && (dn && rtB a3))) := Lib.hid (by rw [HB2.out]; simp [h8])
  have h8' : ¬ (8 : Int) < (a2.length : Int) := by omega
  clear HB2
  cases st
  all_goals
    first
      | (have hn := CN2.out rfl; rw [hn] at CN; clear CN2)
      | clear CN2
    go_enter Try.func69, Try.ntmps69
    go_wp2_with (first | (go_at_call 84; refine (CN.out _).mono ?_; rintro e w1 ⟨rfl, rfl⟩) | (fail "none"))
    refine calls_by (fun W => Below w.heap.size w W ∧ Blk W w.heap.size [.string a0, .slice o1 a1.length k1, .slice o2 a2.length k2, .int .i64 a3, .bool a4]) ⟨more' (Below.refl _ _) _, Blk.new _ _ _⟩ ?_
    rintro W1 ⟨b1, t1⟩
    refine (CA.out W1 b1).mono ?_
    rintro e w2 ⟨rfl, hb⟩
    have b2 := b1.trans (hb.mono b1.size); have T2 := Lib.hid (t1.below hb)
    clear hb t1 b1
    cases nms
    · have HR : Hid (R = false) := Lib.hid (by rw [HB3.out]; rfl)
      go_wp2
      go_ret
      exact ⟨ret_bool HR.out.symm, b2⟩
    have m0 := T2.out.cell 0 rfl
    have m1 := T2.out.cell 1 rfl
    have m2 := T2.out.cell 2 rfl
    have m3 := T2.out.cell 3 rfl
    have m4 := T2.out.cell 4 rfl
    go_wp2_with fail
    refine (CD.out w2 b2).mono ?_
    rintro e w3 ⟨rfl, hb⟩
    have b3 := b2.trans (hb.mono b2.size); have T3 := Lib.hid (T2.out.below hb)
    clear hb T2 b2 m0 m1 m2 m3 m4
    cases dn
    · have HR : Hid (R = false) := Lib.hid (by rw [HB3.out]; rfl)
      go_wp2
      go_ret
      exact ⟨ret_bool HR.out.symm, b3⟩
    have HR : Hid (R = rtB a3) := Lib.hid (by rw [HB3.out]; rfl)
    have m3 := T3.out.cell 3 rfl
    go_wp2_with fail
    refine (isRight_any a3 w3).mono ?_
    rintro e w4 ⟨rfl, rfl⟩
    generalize rtB a3 = q at *
    go_wp2
    go_ret
    exact ⟨ret_bool HR.out.symm, b3⟩
end Go.Proofs.Ytglgkocjdockdaa
/- Access control: which lists are right: the program. -/
namespace Go.Proofs.Ytglgkocjdockdaa
open Go.RowKit
attribute [local go_sem ↓] Go.wp_at_zero Go.wp_at_succ

theorem aclB_long {l : List RuleT} (h : ¬ l.length ≤ 10) : aclB l = false := by unfold aclB; simp [h]
theorem aclB_bad {l : List RuleT} {k : Nat} (h : k < l.length) (hb : ruleB l[k] = false) : aclB l = false := by unfold aclB; rw [all_bad ruleB l k h hb]; simp
theorem aclB_all {l : List RuleT} (h1 : l.length ≤ 10) (h : l.all ruleB = true) : aclB l = true := by unfold aclB; rw [h]; simp [h1]
set_option maxRecDepth 100000 in
set_option maxHeartbeats 4000000 in
theorem AclRight_any {S : Bs} (v : Value) (d : List RuleT) (w : World) (hd : SlAt ruleE S w d v) (hz : d.length + szL ruleE d ≤ 1048576) :
    Calls Try.prog 15 #[v] w fun e w' => e = .returned (.bool (aclB d)) ∧ Below w.heap.size w w' := by
  obtain ⟨ao, ca, rfl⟩ := hd.sl
  have HD := Lib.hid hd; have HL := Lib.hid hz; clear hd
  have hl : d.length ≤ 1048576 := by omega
  clear hz
  by_cases h10 : d.length ≤ 10
  rotate_left
  · have HR := Lib.hid (aclB_long h10)
    have h10' : (10 : Int) < (d.length : Int) := by omega
    go_enter Try.func15, Try.ntmps15
    go_wp2
    go_ret
    exact ⟨ret_bool HR.out.symm, Below.refl _ _⟩
  have h10' : ¬ (10 : Int) < (d.length : Int) := by omega
  go_enter Try.func15, Try.ntmps15
  go_wp2
  go_loopw [10] (fun i wr => ∃ k : Nat, k ≤ d.length ∧ i = .int .i64 k ∧ (d.take k).all ruleB = true ∧ Below w.heap.size w wr) (fun i _ => d.length - (intOf i).toNat)
  case atStart => exact ⟨0, Nat.zero_le _, rfl, rfl, Below.refl _ _⟩
  case round =>
    obtain ⟨k, hk, rfl, ha, hbel⟩ := hrel
    have Ha := Lib.hid ha; clear ha
    have hsz := hbel.size
    by_cases hlt : k < d.length
    · obtain ⟨b, off, a0, a1, a2, a3, a4, v1, v2, rfl, _, hb0, hx, ⟨hc0, hc1, hc2, hc3, hc4⟩, s1, s2, _⟩ := rule_row (HD.out.frame (Same.of_below' hbel)) hlt
      have HZ : Hid (ruleE.sz (a0, a1, a2, a3, a4) ≤ 1048576) := Lib.hid (by have h1 := szL_mem ruleE (List.getElem_mem hlt); rw [hx] at h1; have := HL.out; omega)
      have HBad : Hid (ruleB (a0, a1, a2, a3, a4) = false → aclB d = false) := Lib.hid (fun h => aclB_bad hlt (by rw [hx]; exact h))
      have HT : Hid (ruleB (a0, a1, a2, a3, a4) = true → (d.take (k + 1)).all ruleB = true) := Lib.hid (fun h => by rw [all_take ruleB d k hlt, Ha.out, hx, h]; rfl)
      clear hx Ha
      have HC : Hid (∀ W : World, Below wr.heap.size wr W → Calls Try.prog 69 #[.agg #[.string a0, v1, v2, .int .i64 a3, .bool a4]] W fun e w' => e = .returned (.bool (ruleB (a0, a1, a2, a3, a4))) ∧ Below W.heap.size W w') := Lib.hid (fun W b => ruleRight_any a0 a1 a2 a3 a4 v1 v2 W (s1.frame (Same.of_below' b)) (s2.frame (Same.of_below' b)) HZ.out)
      obtain ⟨o1, k1, rfl⟩ := s1.sl
      obtain ⟨o2, k2, rfl⟩ := s2.sl
      clear s1 s2 HZ
      generalize ruleB (a0, a1, a2, a3, a4) = r at *
      have g1 : (0 : Int) ≤ (k : Int) := by omega
      have g2 : (k : Int) < (d.length : Int) := by omega
      go_wp2_with fail
      refine (HC.out _ (more' (Below.refl _ _) _)).mono ?_
      rintro e w2 ⟨rfl, hb2⟩
      have B2 := Lib.hid ((more' hbel _).trans (hb2.mono (more' hbel _).size)); clear hb2
      cases r
      · have HR := Lib.hid (HBad.out rfl)
        go_wp2
        go_ret
        exact ⟨ret_bool HR.out.symm, B2.out⟩
      · go_wp2
        go_roundw
        case rel => exact ⟨k + 1, by omega, by go_num, HT.out (by first | rfl | trivial), B2.out⟩
        case measure => simp [intOf]; omega
    · have HR : Hid (aclB d = true) := Lib.hid (aclB_all h10 (by have := Ha.out; rw [List.take_of_length_le (by omega)] at this; exact this))
      go_wp2
      go_ret
      exact ⟨ret_bool HR.out.symm, hbel⟩
end Go.Proofs.Ytglgkocjdockdaa
/- Access control: which rules apply: the program. -/
namespace Go.Proofs.Ytglgkocjdockdaa
open Go.RowKit
attribute [local go_sem ↓] Go.wp_at_zero Go.wp_at_succ

noncomputable def appB (who : ByteArray) (dn : RdnL) (attr : ByteArray) (right : Int) (x : RuleT) : Bool :=
  (starB x.1 || (x.1.toList == who.toList)) && ((decide (x.2.2.1.length = 0) || hasS x.2.2.1 attr) && (decide (x.2.2.2.1 = right) && underB dn x.2.1))
noncomputable def grantB (l : List RuleT) (who : ByteArray) (dn : RdnL) (attr : ByteArray) (right : Int) : Bool := ((l.filter (appB who dn attr right)).head?.map fun x => x.2.2.2.2).getD false
set_option maxRecDepth 100000 in
set_option maxHeartbeats 4000000 in
theorem applies_any {S S' : Bs} (a0 : ByteArray) (a1 : List RdnT) (a2 : List ByteArray) (a3 : Int) (a4 : Bool) (v1 v2 : Value) (who : ByteArray) (dn : RdnL) (dv : Value) (attr : ByteArray) (right : Int) (w : World) (h1 : SlAt rdnE S w a1 v1) (h2 : SlAt strE S w a2 v2) (hd : SlAt rdnE S' w dn dv)
    (hz : ruleE.sz (a0, a1, a2, a3, a4) ≤ 1048576) (hzd : dn.length + szL rdnE dn ≤ 1048576) :
    Calls Try.prog 146 #[.agg #[.string a0, v1, v2, .int .i64 a3, .bool a4], .agg #[.string who, dv, .string attr, .int .i64 right]] w fun e w' => e = .returned (.bool (appB who dn attr right (a0, a1, a2, a3, a4))) ∧ Below w.heap.size w w' := by
  have HE : ruleE.sz (a0, a1, a2, a3, a4) = a0.size + ((a1.length + szL rdnE a1) + ((a2.length + szL strE a2) + (0 + (0)))) := rfl
  rw [HE] at hz
  have HB : Hid (appB who dn attr right (a0, a1, a2, a3, a4) = ((starB a0 || (a0.toList == who.toList)) && ((decide (a2.length = 0) || hasS a2 attr) && (decide (a3 = right) && underB dn a1)))) := Lib.hid rfl
  obtain ⟨o1, k1, rfl⟩ := h1.sl
  obtain ⟨o2, k2, rfl⟩ := h2.sl
  obtain ⟨o3, k3, rfl⟩ := hd.sl
  have CC : Hid (∀ W : World, Below w.heap.size w W → Calls Try.prog 163 #[.slice o2 a2.length k2, .string attr] W fun e w' => e = .returned (.bool (hasS a2 attr)) ∧ w' = W) := Lib.hid (fun W b => contains_any o2 a2 k2 attr W ((strs_of h2).below b) (by omega))
  have CU : Hid (∀ W : World, Below w.heap.size w W → Calls Try.prog 164 #[.slice o3 dn.length k3, .slice o1 a1.length k1] W fun e w' => e = .returned (.bool (underB dn a1)) ∧ Below W.heap.size W w') := Lib.hid (fun W b => DnUnder_any o3 o1 dn a1 k3 k1 W hd.cap.2.1 ((dn_of hd).below b) ((dn_of h1).below b) (fits_dn hzd) (fits_dn (by omega)))
  have hl2 : a2.length ≤ 1048576 := by omega
  clear h1 h2 hd hz hzd HE
  generalize hasS a2 attr = hs at *
  generalize underB dn a1 = un at *
  generalize hst : starB a0 = st at *
  have hst : (a0.toList == [42]) = st := hst
  generalize appB who dn attr right (a0, a1, a2, a3, a4) = R at *
  generalize hwh : (a0.toList == who.toList) = wh at *
  have B0 : Hid (∀ T1 T2, Below w.heap.size w ((w.alloc (.cells #[.string a0, .slice o1 a1.length k1, .slice o2 a2.length k2, .int .i64 a3, .bool a4] T1)).alloc (.cells #[.string who, .slice o3 dn.length k3, .string attr, .int .i64 right] T2))) := Lib.hid (fun _ _ => more' (more' (Below.refl _ _) _) _)
  have hcase : (st = false ∧ wh = false) ∨ (st || wh) = true := by cases st <;> cases wh <;> simp
  rcases hcase with ⟨e1, e2⟩ | hok
  · subst e1 e2
    have HR : Hid (R = false) := Lib.hid (by rw [HB.out]; rfl)
    go_enter Try.func146, Try.ntmps146
    go_wp2
    go_ret
    exact ⟨ret_bool HR.out.symm, B0.out _ _⟩
  rw [hok] at HB
  have HB2 : Hid (R = ((decide (a2.length = 0) || hs) && (decide (a3 = right) && un))) := Lib.hid (by rw [HB.out]; simp)
  have CW : st = false → wh = true := fun h => by subst h; simpa using hok
  clear HB hok
  have hcase2 : (¬ a2.length = 0 ∧ hs = false) ∨ (decide (a2.length = 0) || hs) = true := by
    by_cases h : a2.length = 0
    · right; simp [h]
    · cases hs
      · left; exact ⟨h, rfl⟩
      · right; simp
  rcases hcase2 with ⟨e1, e2⟩ | hok
  · subst e2
    have HR : Hid (R = false) := Lib.hid (by rw [HB2.out]; simp [e1])
    have e1' : (0 : Int) < (a2.length : Int) := by omega
    cases st
    all_goals
      try (have hw1 := CW rfl; subst hw1)
      clear CW
      go_enter Try.func146, Try.ntmps146
      go_wp2_with (first | (go_at_call 163; refine (CC.out _ (B0.out _ _)).mono ?_; rintro e w1 ⟨rfl, rfl⟩) | (fail "none"))
      go_ret
      exact ⟨ret_bool HR.out.symm, B0.out _ _⟩
  rw [hok] at HB2
  have HB3 : Hid (R = (decide (a3 = right) && un)) := Lib.hid (by rw [HB2.out]; simp)
  by_cases hr : a3 = right
  rotate_left
  · have HR : Hid (R = false) := Lib.hid (by rw [HB3.out]; simp [hr])
    have hr' : (a3 == right) = false := by simp [hr]
    by_cases hn : a2.length = 0
    · have hn' : ¬ (0 : Int) < (a2.length : Int) := by omega
      clear hn hok
      cases st
      all_goals
        try (have hw1 := CW rfl; subst hw1)
        clear CW
        go_enter Try.func146, Try.ntmps146
        go_wp2
        go_ret
        exact ⟨ret_bool HR.out.symm, B0.out _ _⟩
    · have hn' : (0 : Int) < (a2.length : Int) := by omega
      have hh : hs = true := by simpa [hn] using hok
      subst hh
      cases st
      all_goals
        try (have hw1 := CW rfl; subst hw1)
        clear CW
        go_enter Try.func146, Try.ntmps146
        go_wp2_with (first | (go_at_call 163; refine (CC.out _ (B0.out _ _)).mono ?_; rintro e w1 ⟨rfl, rfl⟩) | (fail "none"))
        go_ret
        exact ⟨ret_bool HR.out.symm, B0.out _ _⟩
  subst hr
  have HR : Hid (R = un) := Lib.hid (by rw [HB3.out]; simp)
  have hr' : (a3 == a3) = true := by simp
  by_cases hn : a2.length = 0
  · have hn' : ¬ (0 : Int) < (a2.length : Int) := by omega
    clear hn hok
    cases st
    all_goals
      try (have hw1 := CW rfl; subst hw1)
      clear CW
      go_enter Try.func146, Try.ntmps146
      go_wp2_with fail
      refine (CU.out _ (B0.out _ _)).mono ?_
      rintro e w2 ⟨rfl, hb⟩
      have b2 := (B0.out _ _).trans (hb.mono (B0.out _ _).size)
      clear hb
      go_wp2
      go_ret
      exact ⟨ret_bool HR.out.symm, b2⟩
  · have hn' : (0 : Int) < (a2.length : Int) := by omega
    have hh : hs = true := by simpa [hn] using hok
    subst hh
    cases st
    all_goals
      try (have hw1 := CW rfl; subst hw1)
      clear CW
      go_enter Try.func146, Try.ntmps146
      go_wp2_with (first | (go_at_call 163; refine (CC.out _ (B0.out _ _)).mono ?_; rintro e w1 ⟨rfl, rfl⟩) | (fail "none"))
      refine (CU.out _ (B0.out _ _)).mono ?_
      rintro e w2 ⟨rfl, hb⟩
      have b2 := (B0.out _ _).trans (hb.mono (B0.out _ _).size)
      clear hb
      go_wp2
      go_ret
      exact ⟨ret_bool HR.out.symm, b2⟩
end Go.Proofs.Ytglgkocjdockdaa
