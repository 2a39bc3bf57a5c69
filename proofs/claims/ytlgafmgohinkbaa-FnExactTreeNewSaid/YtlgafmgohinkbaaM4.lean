/- Merged texts: EntMath, Br, Mark, Mark2, CpT, JoinRF, Own7, CpClass, toString, toClass, CpsClass, CpAttr, toAttr. -/
import Derived.Test.YtlgafmgohinkbaaM3
import Derived.Test.YtlgafmgohinkbaaM2
import Derived.Test.YtlgafmgohinkbaaM1
import Derived.Laws.MakeOwn
/- Entries: names with attributes, and where they lie. -/
namespace Go.Proofs.Ytlgafmgohinkbaa
open Go.RowKit

abbrev AttrV := ByteArray × List ByteArray
/-- texts lie behind a slice -/
def StrsAt (w : World) (ao : Option Addr) (l : List ByteArray) : Prop :=
  l = [] ∨ ∃ b off, ao = some ⟨b, off, none⟩ ∧ b < w.heap.size ∧ ∀ i (h : i < l.length), w.cell? ⟨b, off + i, none⟩ = some (.string l[i])
theorem StrsAt.below {w w' : World} {ao : Option Addr} {l : List ByteArray} (h : StrsAt w ao l) (hb : Below w.heap.size w w') : StrsAt w' ao l := by
  rcases h with h | ⟨b, off, h1, h2, h3⟩
  · exact .inl h
  · exact .inr ⟨b, off, h1, Nat.lt_of_lt_of_le h2 hb.size, fun i hi => (hb.cell (p := ⟨b, off + i, none⟩) h2).trans (h3 i hi)⟩
theorem StrsAt.at {w : World} {ao : Option Addr} {l : List ByteArray} (h : StrsAt w ao l) {k : Nat} (hk : k < l.length) :
    ∃ b off, ao = some ⟨b, off, none⟩ ∧ b < w.heap.size ∧ w.cell? ⟨b, off + k, none⟩ = some (.string l[k]) := by
  rcases h with h | ⟨b, off, h1, h2, h3⟩
  · subst h; simp at hk
  · exact ⟨b, off, h1, h2, h3 k hk⟩
/-- the texts of a slice, with its capacity -/
def ValsAt (w : World) (vo : Option Addr) (vc : Nat) (l : List ByteArray) : Prop := StrsAt w vo l ∧ l.length ≤ vc ∧ (vo = none → vc = 0)
theorem ValsAt.below {w w' : World} {vo : Option Addr} {vc : Nat} {l : List ByteArray} (h : ValsAt w vo vc l) (hb : Below w.heap.size w w') : ValsAt w' vo vc l := ⟨h.1.below hb, h.2⟩
/-- attributes lie behind a slice -/
def AttrsAt (w : World) (ao : Option Addr) (l : List AttrV) : Prop :=
  l = [] ∨ ∃ b off, ao = some ⟨b, off, none⟩ ∧ b < w.heap.size ∧ ∀ i (h : i < l.length), w.cell? ⟨b, off + i * 2, none⟩ = some (.string l[i].1) ∧
    ∃ vo vc, w.cell? ⟨b, off + i * 2 + 1, none⟩ = some (.slice vo l[i].2.length vc) ∧ ValsAt w vo vc l[i].2
theorem AttrsAt.below {w w' : World} {ao : Option Addr} {l : List AttrV} (h : AttrsAt w ao l) (hb : Below w.heap.size w w') : AttrsAt w' ao l := by
  rcases h with h | ⟨b, off, h1, h2, h3⟩
  · exact .inl h
  · refine .inr ⟨b, off, h1, Nat.lt_of_lt_of_le h2 hb.size, fun i hi => ?_⟩
    obtain ⟨g1, vo, vc, g2, g3⟩ := h3 i hi
    exact ⟨(hb.cell (p := ⟨b, off + i * 2, none⟩) h2).trans g1, vo, vc, (hb.cell (p := ⟨b, off + i * 2 + 1, none⟩) h2).trans g2, g3.below hb⟩
theorem AttrsAt.at {w : World} {ao : Option Addr} {l : List AttrV} (h : AttrsAt w ao l) {k : Nat} (hk : k < l.length) :
    ∃ b off vo vc, ao = some ⟨b, off, none⟩ ∧ b < w.heap.size ∧ w.cell? ⟨b, off + k * 2, none⟩ = some (.string l[k].1) ∧ w.cell? ⟨b, off + k * 2 + 1, none⟩ = some (.slice vo l[k].2.length vc) ∧ ValsAt w vo vc l[k].2 := by
  rcases h with h | ⟨b, off, h1, h2, h3⟩
  · subst h; simp at hk
  · obtain ⟨g1, vo, vc, g2, g3⟩ := h3 k hk
    exact ⟨b, off, vo, vc, h1, h2, g1, g2, g3⟩
/-- all its strings are strings of Go -/
def LongV (l : List ByteArray) : Prop := l.length ≤ 9223372036854775807 ∧ ∀ s ∈ l, s.size ≤ maxLen
def LongA (l : List AttrV) : Prop := l.length ≤ 9223372036854775807 ∧ ∀ a ∈ l, a.1.size ≤ maxLen ∧ LongV a.2
def FitsV (l : List ByteArray) : Prop := l.length ≤ 1048576 ∧ ∀ s ∈ l, s.size ≤ 1048576
def FitsA (l : List AttrV) : Prop := l.length ≤ 1048576 ∧ ∀ a ∈ l, a.1.size ≤ 1048576 ∧ FitsV a.2
def sizeV (l : List ByteArray) : Nat := (l.map (·.size)).sum
def sizeA (a : AttrV) : Nat := a.1.size + (a.2.length + sizeV a.2)
def sizeAs (l : List AttrV) : Nat := (l.map sizeA).sum
theorem sizeV_take (d : List ByteArray) (k : Nat) (h : k < d.length) : sizeV (d.take (k + 1)) = sizeV (d.take k) + d[k].size := by
  unfold sizeV; rw [List.take_succ_eq_append_getElem h, List.map_append, List.sum_append]; simp
theorem sizeV_le (d : List ByteArray) (k : Nat) : sizeV (d.take k) ≤ sizeV d := by
  have h := List.take_append_drop k d
  have : sizeV d = sizeV (d.take k) + sizeV (d.drop k) := by
    unfold sizeV; rw [← List.sum_append, ← List.map_append, h]
  omega
theorem sum_mem {l : List Nat} {x : Nat} (h : x ∈ l) : x ≤ l.sum := by
  induction l with
  | nil => simp at h
  | cons y l ih =>
    rw [List.sum_cons]
    rcases List.mem_cons.1 h with rfl | h
    · omega
    · have := ih h; omega
theorem sizeV_mem {l : List ByteArray} {s : ByteArray} (h : s ∈ l) : s.size ≤ sizeV l := sum_mem (List.mem_map_of_mem h)
theorem sizeAs_take (d : List AttrV) (k : Nat) (h : k < d.length) : sizeAs (d.take (k + 1)) = sizeAs (d.take k) + sizeA d[k] := by
  unfold sizeAs; rw [List.take_succ_eq_append_getElem h, List.map_append, List.sum_append]; simp
theorem sizeAs_le (d : List AttrV) (k : Nat) : sizeAs (d.take k) ≤ sizeAs d := by
  have h := List.take_append_drop k d
  have : sizeAs d = sizeAs (d.take k) + sizeAs (d.drop k) := by
    unfold sizeAs; rw [← List.sum_append, ← List.map_append, h]
  omega
theorem sizeAs_mem {l : List AttrV} {a : AttrV} (h : a ∈ l) : sizeA a ≤ sizeAs l := sum_mem (List.mem_map_of_mem h)
theorem fitsV_of {l : List ByteArray} (h : l.length + sizeV l ≤ 1048576) : FitsV l := ⟨by omega, fun s hs => by have := sizeV_mem hs; omega⟩
theorem fitsA_of {l : List AttrV} (h : l.length + sizeAs l ≤ 1048576) : FitsA l :=
  ⟨by omega, fun a ha => by
    have := sizeAs_mem ha
    unfold sizeA at this
    exact ⟨by omega, fitsV_of (by omega)⟩⟩
theorem FitsA.at {l : List AttrV} (h : FitsA l) {k : Nat} (hk : k < l.length) : l[k].1.size ≤ 1048576 ∧ FitsV l[k].2 := h.2 _ (List.getElem_mem hk)
theorem FitsV.at {l : List ByteArray} (h : FitsV l) {k : Nat} (hk : k < l.length) : l[k].size ≤ 1048576 := h.2 _ (List.getElem_mem hk)
theorem FitsV.long {l : List ByteArray} (h : FitsV l) : LongV l := ⟨by have := h.1; omega, fun s hs => by have := h.2 s hs; unfold maxLen; omega⟩
end Go.Proofs.Ytlgafmgohinkbaa
/- The shapes of the types, as the earlier texts say them. -/
namespace Go.Proofs.Ytlgafmgohinkbaa
open Go.RowKit

theorem strs_of {S : Bs} {w : World} {l : List ByteArray} {ao : Option Addr} {n cap : Nat} (h : SlAt strE S w l (.slice ao n cap)) : StrsAt w ao l := by
  by_cases h0 : l = []
  · exact .inl h0
  have hl : 0 < l.length := List.length_pos_iff.2 h0
  obtain ⟨b, off, a0, e, _, hb, _, _⟩ := str_row h hl
  subst e
  refine .inr ⟨b, off, rfl, hb, fun i hi => ?_⟩
  obtain ⟨b', off', a0, e, _, _, hx, hc⟩ := str_row h hi
  cases e
  rw [hx]; exact hc
theorem dn_of {S : Bs} {w : World} {l : RdnL} {ao : Option Addr} {n cap : Nat} (h : SlAt rdnE S w l (.slice ao n cap)) : DnAt w ao l := by
  by_cases h0 : l = []
  · exact .inl h0
  have hl : 0 < l.length := List.length_pos_iff.2 h0
  obtain ⟨b, off, a0, a1, e, _, hb, _, _⟩ := rdn_row h hl
  subst e
  refine .inr ⟨b, off, rfl, hb, fun i hi => ?_⟩
  obtain ⟨b', off', a0, a1, e, _, _, hx, hc, _⟩ := rdn_row h hi
  cases e
  rw [hx]; exact hc
theorem SlAt.cap {α : Type} {e : Enc α} {S : Bs} {w : World} {l : List α} {ao : Option Addr} {n cap : Nat} (h : SlAt e S w l (.slice ao n cap)) : n = l.length ∧ l.length ≤ cap ∧ (ao = none → cap = 0) := by
  obtain ⟨ao', cap', e1, h2, h3, _⟩ := h
  injection e1 with e1 e2 e3
  subst e1 e3
  exact ⟨e2, h2, h3⟩
theorem attrs_of {S : Bs} {w : World} {l : List AttrV} {ao : Option Addr} {n cap : Nat} (h : SlAt attrE S w l (.slice ao n cap)) : AttrsAt w ao l := by
  by_cases h0 : l = []
  · exact .inl h0
  have hl : 0 < l.length := List.length_pos_iff.2 h0
  obtain ⟨b, off, a0, a1, v1, e, _, hb, _, _⟩ := attr_row h hl
  subst e
  refine .inr ⟨b, off, rfl, hb, fun i hi => ?_⟩
  obtain ⟨b', off', a0, a1, v1, e, _, _, hx, hc, hs, _⟩ := attr_row h hi
  cases e
  rw [hx]
  obtain ⟨o, c, rfl⟩ := hs.sl
  obtain ⟨q1, q2, q3⟩ := hs.cap
  exact ⟨hc.1, o, c, hc.2, strs_of hs, q2, q3⟩
theorem szL_str (l : List ByteArray) : szL strE l = sizeV l := rfl
theorem fits_dn {l : RdnL} (h : l.length + szL rdnE l ≤ 1048576) : Fits l := ⟨by omega, fun r hr => by
  have h1 : rdnE.sz r ≤ szL rdnE l := szL_mem rdnE hr
  have h2 : rdnE.sz r = r.1.size + r.2.size := rfl
  omega⟩
theorem fits_str {l : List ByteArray} (h : l.length + szL strE l ≤ 1048576) : FitsV l := fitsV_of (by rw [szL_str] at h; exact h)
theorem fits_attrs {l : List AttrV} (h : l.length + szL attrE l ≤ 1048576) : FitsA l := ⟨by omega, fun r hr => by
  have h1 : attrE.sz r ≤ szL attrE l := szL_mem attrE hr
  have h2 : attrE.sz r = r.1.size + (r.2.length + szL strE r.2) := rfl
  exact ⟨by omega, fits_str (by omega)⟩⟩
end Go.Proofs.Ytlgafmgohinkbaa
/- The helpers of the laws: marks. -/
namespace Go.Proofs.Ytlgafmgohinkbaa
open Go.RowKit
attribute [local go_sem ↓] Go.wp_at_zero Go.wp_at_succ

theorem toS_list (l : List UInt8) : (toS l).data.toList = l := by simp [toS]
theorem toS_size (l : List UInt8) : (toS l).size = l.length := by rw [← size_len, toS_list]
theorem one_str (W : World) (n : Nat) (hn : n < 256) :
    (convert 68 9 (.slice (some ⟨W.heap.size, 0, none⟩) 1 1)).run Try.prog (W.alloc (.cells #[.int .u8 (n : Int)] 5)) = .ok (.string ⟨#[UInt8.ofNat n]⟩) (W.alloc (.cells #[.int .u8 (n : Int)] 5)) := by
  refine str22 _ ⟨W.heap.size, 0, none⟩ 1 [UInt8.ofNat n] 1 rfl fun j hj => ?_
  match j, hj with
  | 0, _ =>
    rw [add_plain, World.cell?_alloc_mark]
    simp; omega
set_option maxRecDepth 100000 in
set_option maxHeartbeats 1000000 in
theorem markText_any (n : Nat) (w : World) (h0 : 0 < n) (hn : n ≤ 1000000000) :
    Calls Try.prog 80 #[.int .i64 n] w fun e w' => e = .returned (.string (mkT n)) ∧ Below w.heap.size w w' := by
  go_enter Try.func80, Try.ntmps80
  go_wp2
  go_loopw [0, 3] (fun t u wr => ∃ (f k : Nat) (o : List UInt8), k ≤ n ∧ t = .int .i64 k ∧ u = .string (toS o) ∧ digs 20 n [] = digs f k o ∧ k < 10 ^ f ∧ f ≤ 20 ∧ o.length + f ≤ 20 ∧ Below w.heap.size w wr) (fun t _ _ => (intOf t).toNat)
  case atStart => exact ⟨20, n, [], Nat.le_refl _, rfl, rfl, rfl, by omega, by omega, by simp, Below.refl _ _⟩
  case round =>
    obtain ⟨f, k, o, hk, rfl, rfl, hD, hf, hf2, ho, hbel⟩ := hrel
    have HD := Lib.hid hD; clear hD
    have hsz := hbel.size
    by_cases hk0 : 0 < k
    · obtain ⟨g, rfl⟩ : ∃ g, f = g + 1 := ⟨f - 1, by
        rcases f with _ | f
        · simp at hf; omega
        · simp⟩
      have HN : Hid (digs 20 n [] = digs g (k / 10) (UInt8.ofNat (48 + k % 10) :: o)) := Lib.hid (by rw [HD.out, digs, if_neg (by omega)])
      have HF : Hid (k / 10 < 10 ^ g) := Lib.hid (by rw [Nat.pow_succ] at hf; omega)
      have HC : Hid ((⟨#[UInt8.ofNat (48 + k % 10)]⟩ : ByteArray) ++ toS o = toS (UInt8.ofNat (48 + k % 10) :: o)) := Lib.hid (by apply ByteArray.ext; simp [toS])
      clear hf
      have hos : (toS o).size ≤ 20 := by rw [toS_size]; omega
      have hcv := one_str wr (48 + k % 10) (by omega)
      have hca := cat ⟨#[UInt8.ofNat (48 + k % 10)]⟩ (toS o) (by rw [sz1]; omega)
      have e1 : ((48 + k % 10 : Nat) : Int) = 48 + (k : Int) % 10 := by omega
      rw [e1] at hcv
      clear e1
      generalize UInt8.ofNat (48 + k % 10) = c at *
      go_wp2
      refine ⟨⟨g, k / 10, c :: o, by omega, by go_num, by rw [HC.out], HN.out, HF.out, by omega, by simp only [List.length_cons]; omega, more hbel _⟩, ?_⟩
      simp [intOf]; omega
    · have HE : Hid (⟨#[109]⟩ ++ toS o = mkT n) := Lib.hid (by
        have e : k = 0 := by omega
        subst e
        have : digs f 0 o = o := by cases f <;> simp [digs]
        unfold mkT mkL
        rw [HD.out, this]
        apply ByteArray.ext; simp [toS])
      have hos : (toS o).size ≤ 20 := by rw [toS_size]; omega
      have hca := cat ⟨#[109]⟩ (toS o) (by rw [sz1]; omega)
      go_wp2
      go_ret
      exact ⟨ret_str HE.out, hbel⟩
/-- n pairs of marks, from k on -/
def marks : Nat → Nat → RdnL
  | _, 0 => []
  | k, n + 1 => marks k n ++ [(mkT (k + 2 * n), mkT (k + 2 * n + 1))]
theorem marks_len (k n : Nat) : (marks k n).length = n := by
  induction n with
  | zero => rfl
  | succ n ih => rw [marks, List.length_append, ih]; rfl
theorem marks_get (k n i : Nat) (h : i < n) (h' : i < (marks k n).length) : (marks k n)[i] = (mkT (k + 2 * i), mkT (k + 2 * i + 1)) := by
  induction n with
  | zero => omega
  | succ n ih =>
    have hl := marks_len k n
    simp only [marks]
    by_cases e : i < n
    · rw [List.getElem_append_left (by omega)]; exact ih e (by omega)
    · have : i = n := by omega
      subst this
      rw [List.getElem_append_right (by omega)]
      simp [hl]
/-- a block of pairs, the first k marked, the rest as they were -/
def MarkTo (w : World) (g n k j : Nat) : Prop := ∃ C : Array Value, w.heap[g]? = some (.cells C 157 (0, 0)) ∧ C.size = n * 2 ∧ C.toList.take (j * 2) = rs (marks k j)
theorem MarkTo.below {w w' : World} {g n k j : Nat} (h : MarkTo w g n k j) (hb : Below w.heap.size w w') : MarkTo w' g n k j := by
  obtain ⟨C, h1, h2⟩ := h
  exact ⟨C, (hb.block g (Array.getElem?_eq_some_iff.1 h1).1).trans h1, h2⟩
end Go.Proofs.Ytlgafmgohinkbaa
/- The helpers of the laws: marks laid into a name, and found there again. -/
namespace Go.Proofs.Ytlgafmgohinkbaa
open Go.RowKit
attribute [local go_sem ↓] Go.wp_at_zero Go.wp_at_succ

theorem grown_of {a b : World} (h : Below a.heap.size a b) (row : Option Nat) : a.grownBy b row := ⟨h.os, h.tape, h.output, h.size, fun k hk _ => h.block k hk⟩
theorem grown_tr {a b c : World} {r : Option Nat} (h : a.grownBy b r) (g : b.grownBy c r) : a.grownBy c r :=
  ⟨g.os.trans h.os, g.tape.trans h.tape, g.output.trans h.output, Nat.le_trans h.size g.size, fun k hk hne => (g.block k (Nat.lt_of_lt_of_le hk h.size) hne).trans (h.block k hk hne)⟩
theorem markText_from (w0 : World) (n : Nat) (w : World) (h0 : 0 < n) (hn : n ≤ 1000000000) (hB : Below w0.heap.size w0 w) :
    Calls Try.prog 80 #[.int .i64 n] w fun e w' => e = .returned (.string (mkT n)) ∧ Below w0.heap.size w0 w' :=
  (markText_any n w h0 hn).mono fun _ _ ⟨he, hb⟩ => ⟨he, hB.trans (hb.mono hB.size)⟩
end Go.Proofs.Ytlgafmgohinkbaa
/- AttrOf: the program's copies of texts, and its map of attributes by their names. -/
namespace Go.Proofs.Ytlgafmgohinkbaa
open Go.RowKit
attribute [local go_sem ↓] Go.wp_at_zero Go.wp_at_succ

theorem concat_copy (a : ByteArray) (w : World) (h : a.size ≤ 10000000) :
    Calls Try.prog 76 #[.slice (some ⟨w.heap.size, 0, none⟩) 1 1] (w.alloc (.cells #[.string a] 9)) fun e w' => e = .returned (.string a) ∧ Below w.heap.size w w' := by
  have := concat_any w.heap.size 0 1 [a] (w.alloc (.cells #[.string a] 9)) (by simp) (by simp) (by simp [joinL]; omega) (fun i hi => by
    match i, hi with
    | 0, _ => simp)
  rw [joinS_one] at this
  exact this.mono fun e w' ⟨he, hb⟩ => ⟨he, ((Below.refl _ _).alloc (Nat.le_refl _) _).trans (hb.mono (by simp))⟩
theorem take_snoc' {α : Type} (l : List α) (k : Nat) (h : k < l.length) : l.take (k + 1) = l.take k ++ [l[k]] := List.take_succ_eq_append_getElem h
set_option maxRecDepth 100000 in
set_option maxHeartbeats 1000000 in
theorem copyTexts_any (vo : Option Addr) (V : List ByteArray) (vc : Nat) (w : World) (hd : StrsAt w vo V) (hf : FitsV V) :
    Calls Try.prog 129 #[.slice vo V.length vc] w fun e w' => (∃ v, e = .returned v ∧ w'.ownsRow w.heap.size 9 1 v V.length (ss V)) ∧ Below w.heap.size w w' := by
  have hl := hf.1
  have HD := Lib.hid hd; have HF := Lib.hid hf; clear hd hf
  go_enter Try.func129, Try.ntmps129
  go_wp2_with fail
  go_loopw [3, 8] (fun v i wr => ∃ k : Nat, k ≤ V.length ∧ i = .int .i64 k ∧ wr.ownsRow w.heap.size 9 1 v (V.take k).length (ss (V.take k)) ∧ Below w.heap.size w wr) (fun _ i _ => V.length - (intOf i).toNat)
  case atStart => exact ⟨0, Nat.zero_le _, rfl, ⟨rfl, .inl ⟨rfl, rfl⟩⟩, Below.refl _ _⟩
  case round =>
    obtain ⟨k, hk, rfl, hown, hbel⟩ := hrel
    have hsz := hbel.size
    by_cases hlt : k < V.length
    · obtain ⟨p, off, rfl, hp0, hd1⟩ := HD.out.at hlt
      have hz := HF.out.at hlt
      have c1 := (hbel.cell (p := ⟨p, off + k, none⟩) hp0).trans hd1
      have HN := Lib.hid (take_snoc' V k hlt)
      have HL : Hid ((V.take k).length ≤ 1000000000) := Lib.hid (by simp; omega)
      have g1 : (0 : Int) ≤ (k : Int) := by omega
      have g2 : (k : Int) < (V.length : Int) := by omega
      clear hd1
      generalize V[k] = x at *
      generalize V.take k = pre at *
      go_wp2_with (first
        | (go_at_call 76; refine (concat_copy x wr (by omega)).mono ?_; rintro e w3 ⟨rfl, hb3⟩; have O3 := own_below hown hb3; have L3 := Nat.le_trans hsz hb3.size; have B3 := hbel.trans (hb3.mono hsz); clear hb3)
        | (at_builtin; refine append_str w.heap.size rfl _ _ rfl _ pre rfl O3 _ rfl HL.out L3 B3 ?_; intro v4 w4 hown4 hbel4 hsz4 _ _)
        | (fail "none"))
      go_roundw
      case rel => exact ⟨k + 1, by omega, by go_num, by rw [HN.out]; exact hown4, hbel4⟩
      case measure => simp [intOf]; omega
    · obtain rfl : k = V.length := by omega
      have HO : Hid (wr.ownsRow w.heap.size 9 1 u3 V.length (ss V)) := Lib.hid (by have h := hown; rw [List.take_length] at h; exact h)
      clear hown
      go_wp2
      go_ret
      exact ⟨⟨_, rfl, HO.out⟩, hbel⟩

end Go.Proofs.Ytlgafmgohinkbaa
/- joinRdns: what the program's text returns. -/
namespace Go.Proofs.Ytlgafmgohinkbaa
open Go.RowKit
attribute [local go_sem ↓] Go.wp_at_zero Go.wp_at_succ

set_option maxRecDepth 100000 in
set_option maxHeartbeats 2000000 in
theorem joinRdns_any (pb po pc : Nat) (ps : List (Option Addr × Nat × RdnL)) (w : World) (hp : PartsAt w pb po ps) (hm : ps.length ≤ 10) :
    Calls Try.prog 123 #[.slice (some ⟨pb, po, none⟩) ps.length pc] w fun e w' => (∃ v, e = .returned v ∧ w'.ownsRow w.heap.size 157 2 v (flat ps).length (rs (flat ps))) ∧ Below w.heap.size w w' := by
  have HP := Lib.hid hp; clear hp
  go_enter Try.func123, Try.ntmps123
  go_wp2
  go_loopw [3, 9] (fun v i wr => ∃ k : Nat, k ≤ ps.length ∧ i = .int .i64 k ∧ wr.ownsRow w.heap.size 157 2 v (flat (ps.take k)).length (rs (flat (ps.take k))) ∧ Below w.heap.size w wr) (fun _ i _ => ps.length - (intOf i).toNat)
  case atStart => exact ⟨0, Nat.zero_le _, rfl, ⟨rfl, .inl ⟨rfl, rfl⟩⟩, Below.refl _ _⟩
  case round =>
    obtain ⟨k, hk, rfl, hown, hbel⟩ := hrel
    by_cases hlt : k < ps.length
    · obtain ⟨hc0, hd, hf⟩ := HP.out.2 k hlt
      have hc := (hbel.cell (p := ⟨pb, po + k, none⟩) HP.out.1).trans hc0
      have hl := hf.1
      have HF := Lib.hid (flat_succ ps k hlt)
      have hown0 : wr.ownsRow w.heap.size 157 2 u3 (flat (ps.take k) ++ ps[k].2.2.take 0).length (rs (flat (ps.take k) ++ ps[k].2.2.take 0)) := by rw [List.take_zero, List.append_nil]; exact hown
      have HO := Lib.hid hown0; have HD := Lib.hid hd; have HFi := Lib.hid hf; have HC0 := Lib.hid hc0
      clear hown hown0 hd hf hc0
      have hpl := HP.out.len hm k
      generalize flat (ps.take k) = pre at *
      generalize ps[k].1 = ao at *
      generalize ps[k].2.1 = cp at *
      generalize ps[k].2.2 = d at *
      go_wp2_with fail
      go_loopw [3, 17] (fun v i wr => ∃ j : Nat, j ≤ d.length ∧ i = .int .i64 j ∧ wr.ownsRow w.heap.size 157 2 v (pre ++ d.take j).length (rs (pre ++ d.take j)) ∧ Below w.heap.size w wr) (fun _ i _ => d.length - (intOf i).toNat)
      case atStart => exact ⟨0, Nat.zero_le _, rfl, HO.out, hbel⟩
      case round =>
        clear hc HO hbel
        obtain ⟨j, hj, rfl, hown, hbel⟩ := hrel
        have hc := (hbel.cell (p := ⟨pb, po + k, none⟩) HP.out.1).trans HC0.out
        by_cases hjlt : j < d.length
        · obtain ⟨b, off, rfl, hb0, hd1, hd2⟩ := HD.out.at hjlt
          have hc1 := (hbel.cell (p := ⟨b, off + j * 2, none⟩) hb0).trans hd1
          have hc2 := (hbel.cell (p := ⟨b, off + j * 2 + 1, none⟩) hb0).trans hd2
          have hz := HFi.out.small hjlt
          have HN : Hid (d.take (j + 1) = d.take j ++ [d[j]]) := Lib.hid (List.take_succ_eq_append_getElem hjlt)
          clear hd1 hd2
          have HR : Hid (u3.ownBlock ≠ some wr.heap.size) := Lib.hid (fun e => by have := (hown.lt _ e).2; omega)
          have HO := Lib.hid hown
          have hpl2 : Hid ((pre ++ d.take j).length ≤ 1000000000) := Lib.hid (by rw [List.length_append, List.length_take]; omega)
          have HD2 : Hid (d[j] = (d[j].1, d[j].2)) := Lib.hid rfl
          generalize d[j].1 = A at *
          generalize d[j].2 = V at *
          go_wp2_with fail
          refine wp_world (fun W => (W.cell? ⟨wr.heap.size, 0, none⟩ = some (.string A) ∧ W.cell? ⟨wr.heap.size, 1, none⟩ = some (.string V)) ∧ W.ownsRow w.heap.size 157 2 u3 (pre ++ d.take j).length (rs (pre ++ d.take j)) ∧ Below w.heap.size w W)
            ⟨⟨by simp, by simp⟩, HO.out.alloc _, more hbel _⟩ ?_
          rintro W0 ⟨hW1, hW2, hW3⟩
          have HO2 := Lib.hid hW2
          generalize wr.heap.size = R at *
          clear hown HO hW2 hc hc1 hc2 hbel
          have hW4 : Below W0.heap.size W0 W0.drew := (Below.refl _ _).drew
          obtain ⟨hz1, hz2⟩ := hz
          go_region_held3 (fun W => W.cell? ⟨R, 0, none⟩ = some (.string A) ∧ W.cell? ⟨R, 1, none⟩ = some (.string V))
            (first | go_keep | exact keep_far hg5 HR.out (by assumption) | exact keep_two hb2 (by assumption))
            (first
              | (go_at_call 76; refine (concat_at W0 _ A _ hz1 ?_ ?_ ?_).mono ?_; (focus (first | (simp; done) | (simp; omega) | (exact Nat.lt_of_lt_of_le (by first | (simp; done) | (simp; omega)) hb2.size))); (focus (first | (simp; done) | (rw [bc _ _ (by first | (simp; done) | (simp; omega))]; simp; done))); (focus (first | assumption | exact more (by assumption) _ | exact (more (Below.refl _ _) _).drew | exact (more (more (Below.refl _ _) _) _).drew)); rintro e w2 ⟨rfl, hq2, hb2⟩; obtain ⟨bc, bf⟩ := bcell hb2)
              | (go_at_call 76; refine (concat_at W0 _ V _ hz2 ?_ ?_ ?_).mono ?_; (focus (first | (simp; done) | (simp; omega) | (exact Nat.lt_of_lt_of_le (by first | (simp; done) | (simp; omega)) hb2.size))); (focus (first | (simp; done) | (rw [bc _ _ (by first | (simp; done) | (simp; omega))]; simp; done))); (focus (first | assumption | exact more (by assumption) _ | exact (more (Below.refl _ _) _).drew | exact (more (more (Below.refl _ _) _) _).drew)); rintro e w2 ⟨rfl, hq2, hb2⟩; obtain ⟨bc, bf⟩ := bcell hb2)
              | (refine step_rdn2 w.heap.size (by rfl) _ _ (by rfl) _ (pre ++ d.take j) (by rfl) (own_below HO2.out hq2) _ _ (by rfl) hpl2.out (Nat.le_trans hW3.size hq2.size) (hW3.trans (hq2.mono hW3.size)) ?_; intro g cp5 w5 hown5 hbel5 hg5)
              | (fail "none"))
          all_goals
            rw [show (pre ++ d.take j).length + 1 = pre.length + j + 1 by rw [List.length_append, List.length_take]; omega] at hown5
            have HO5 := Lib.hid hown5
            clear hown5 bc bf
            go_wp2
            go_roundw
            case rel => exact ⟨j + 1, by omega, by go_num, by rw [HN.out, HD2.out, ← List.append_assoc]; exact HO5.out, hbel5⟩
            case measure => simp [intOf]; omega
        · have e : d.take j = d := List.take_of_length_le (by omega)
          rw [e] at hown
          have HO := Lib.hid hown
          clear hown e
          go_wp2
          go_roundw
          case rel => exact ⟨k + 1, by omega, by go_num, by rw [HF.out]; exact HO.out, hbel⟩
          case measure => simp [intOf]; omega
    · have e : ps.take k = ps := List.take_of_length_le (by omega)
      rw [e] at hown
      have HO := Lib.hid hown
      clear hown e
      go_wp2
      go_ret
      exact ⟨⟨_, rfl, HO.out⟩, hbel⟩
end Go.Proofs.Ytlgafmgohinkbaa
/- Rows that the program makes, as owned ones; names joined. -/
namespace Go.Proofs.Ytlgafmgohinkbaa
open Go.RowKit

theorem own_rdns {T : TypeId} {B : Nat} {w : World} {v : Value} {l : RdnL} (h : w.ownsRow B T 2 v l.length (rs l)) : SlOwn rdnE (fun b => B ≤ b ∧ b < w.heap.size) w l v :=
  Grow.own (e := rdnE) (T := T) (xs := rs l) ⟨h, fun _ => Nil, fun i _ => ⟨fun b x => x.elim, fun _ _ x => x⟩, fun _ _ _ _ _ _ x => x.elim, fun i hi => ⟨[.string l[i].1, .string l[i].2], fun j hj => by
    obtain ⟨g0, g1⟩ := rs_get l i hi
    match j, hj with
    | 0, _ => exact g0
    | 1, _ => exact g1, rdn_pack (S := Nil) (w := w) l[i].1 l[i].2 trivial⟩⟩
theorem own_nilS {α : Type} (e : Enc α) (S : Bs) (w : World) : SlOwn e S w [] (.slice none 0 0) := ⟨none, 0, rfl, Nat.le_refl _, fun _ => rfl, .inl rfl⟩
/-- one name joined is a copy of it -/
theorem joinOne_any (o k : _) (dn : RdnL) (W : World) (T : TypeId) (hd : DnAt W o dn) (hf : Fits dn) : Calls Try.prog 123 #[.slice (some ⟨W.heap.size, 0, none⟩) 1 1] (W.alloc (.cells #[.slice o dn.length k] T)) fun e w' => ∃ u, e = .returned u ∧ SlOwn rdnE (Fresh W w') w' dn u ∧ Below W.heap.size W w' := by
  have := joinRdns_any W.heap.size 0 1 [(o, k, dn)] (W.alloc (.cells #[.slice o dn.length k] T)) ⟨by simp, fun i hi => by
    match i, hi with
    | 0, _ => exact ⟨by simp, hd.below (more' (Below.refl _ _) _), hf⟩⟩ (by simp)
  have e : flat [(o, k, dn)] = dn := by simp [flat]
  rw [e] at this
  exact this.mono fun e w' ⟨⟨v, he, ho⟩, hb⟩ => ⟨v, he, (own_rdns ho).wide (fun b h => ⟨by have h1 : (W.alloc (.cells #[.slice o dn.length k] T)).heap.size ≤ b := h.1; have h2 : (W.alloc (.cells #[.slice o dn.length k] T)).heap.size = W.heap.size + 1 := World.size_alloc W _; omega, h.2⟩), (more' (Below.refl _ _) _).trans (hb.mono (by simp))⟩
end Go.Proofs.Ytlgafmgohinkbaa
/- The program copies a Class. -/
namespace Go.Proofs.Ytlgafmgohinkbaa
open Go.RowKit
attribute [local go_sem ↓] Go.wp_at_zero Go.wp_at_succ

set_option maxRecDepth 100000 in
set_option maxHeartbeats 4000000 in
theorem cpyClass_any {S : Bs} (a0 : ByteArray) (a1 : (List ByteArray)) (a2 : (List ByteArray)) (a3 : (List ByteArray)) (v1 v2 v3 : Value) (w : World) (h1 : SlAt strE S w a1 v1) (h2 : SlAt strE S w a2 v2) (h3 : SlAt strE S w a3 v3) (hz : classE.sz (a0, a1, a2, a3) ≤ 1048576) :
    Calls Try.prog 107 #[.agg #[.string a0, v1, v2, v3]] w fun e w' => ∃ u1 u2 u3, e = .returned (.agg #[.string a0, u1, u2, u3]) ∧ classE.Own (Fresh w w') w' (a0, a1, a2, a3) [.string a0, u1, u2, u3] ∧ Below w.heap.size w w' := by
  have HE : classE.sz (a0, a1, a2, a3) = a0.size + ((a1.length + szL strE a1) + ((a2.length + szL strE a2) + ((a3.length + szL strE a3)))) := rfl
  rw [HE] at hz
  obtain ⟨o1, k1, rfl⟩ := h1.sl
  obtain ⟨o2, k2, rfl⟩ := h2.sl
  obtain ⟨o3, k3, rfl⟩ := h3.sl
  have z0 : a0.size ≤ 1048576 := by omega
  have CT1 : Hid (∀ W : World, Below w.heap.size w W → Calls Try.prog 129 #[.slice o1 a1.length k1] W fun e w' => ∃ u, e = .returned u ∧ SlOwn strE (Fresh W w') w' a1 u ∧ Below W.heap.size W w') := Lib.hid (fun W b => (copyTexts_any o1 a1 k1 W ((strs_of h1).below b) (fits_str (by omega))).mono fun e w' ⟨⟨v, he, ho⟩, hb⟩ => ⟨v, he, own_texts ho, hb⟩)
  have CT2 : Hid (∀ W : World, Below w.heap.size w W → Calls Try.prog 129 #[.slice o2 a2.length k2] W fun e w' => ∃ u, e = .returned u ∧ SlOwn strE (Fresh W w') w' a2 u ∧ Below W.heap.size W w') := Lib.hid (fun W b => (copyTexts_any o2 a2 k2 W ((strs_of h2).below b) (fits_str (by omega))).mono fun e w' ⟨⟨v, he, ho⟩, hb⟩ => ⟨v, he, own_texts ho, hb⟩)
  have CT3 : Hid (∀ W : World, Below w.heap.size w W → Calls Try.prog 129 #[.slice o3 a3.length k3] W fun e w' => ∃ u, e = .returned u ∧ SlOwn strE (Fresh W w') w' a3 u ∧ Below W.heap.size W w') := Lib.hid (fun W b => (copyTexts_any o3 a3 k3 W ((strs_of h3).below b) (fits_str (by omega))).mono fun e w' ⟨⟨v, he, ho⟩, hb⟩ => ⟨v, he, own_texts ho, hb⟩)
  clear h1 h2 h3 hz HE
  go_enter Try.func107, Try.ntmps107
  go_wp2
  refine wp_world (fun W => Below w.heap.size w W ∧ Blk W w.heap.size [.string a0, .slice o1 a1.length k1, .slice o2 a2.length k2, .slice o3 a3.length k3] ∧ Blk W (w.heap.size + 1) [.string ⟨#[]⟩, .slice none 0 0, .slice none 0 0, .slice none 0 0]) ⟨more' (more' (Below.refl _ _) _) _, (Blk.new _ _ _).alloc _, blk_at _ _ _ (by simp)⟩ ?_
  rintro W0 ⟨B, ta, tr⟩
  have TA := Lib.hid ta; have TR := Lib.hid tr
  have hn : w.heap.size + 1 < W0.heap.size := tr.lt
  clear ta tr
  have SK : Hid (∀ Z' : World, Below W0.heap.size W0 Z' → Z'.cell? ⟨w.heap.size, 0, none⟩ = some (.string a0) ∧ Z'.cell? ⟨w.heap.size, 1, none⟩ = some (.slice o1 a1.length k1) ∧ Z'.cell? ⟨w.heap.size, 2, none⟩ = some (.slice o2 a2.length k2) ∧ Z'.cell? ⟨w.heap.size, 3, none⟩ = some (.slice o3 a3.length k3)) := Lib.hid (fun Z' h => ⟨(TA.out.below h).cell 0 rfl, (TA.out.below h).cell 1 rfl, (TA.out.below h).cell 2 rfl, (TA.out.below h).cell 3 rfl⟩)
  have BD : Below W0.heap.size W0 W0.drew := (Below.refl _ _).drew
  refine wp_region_held_drew (S := (fun Z' => Z'.cell? ⟨w.heap.size, 0, none⟩ = some (.string a0) ∧ Z'.cell? ⟨w.heap.size, 1, none⟩ = some (.slice o1 a1.length k1) ∧ Z'.cell? ⟨w.heap.size, 2, none⟩ = some (.slice o2 a2.length k2) ∧ Z'.cell? ⟨w.heap.size, 3, none⟩ = some (.slice o3 a3.length k3))) (by kernel_rfl) ?_ (fun hHeld => ?_)
  · (try dsimp only)
    first | exact SK.out _ (by assumption) | exact SK.out _ BD | exact SK.out _ (more' (by assumption) _) | exact SK.out _ (more' BD _) | exact SX.out _ _ _ _
  refine wpAnyH_take (i := 0) (oi := { dst := some 3, op := Op.fieldAddr 63 (Operand.tmp 1) 0, type := 0, pos := "l05_schema.go:102", after := #[], guard := none }) (v := ?_) rfl (by kernel_rfl) (by kernel_rfl) (by kernel_rfl) (fun _ _ _ h => h) (Or.inl ⟨by rfl, ?_⟩) (by assumption) ?_
  rotate_left
  · intro w hSw; (try dsimp only at hSw); go_simp; (try with_reducible rfl)
  (try simp only [Act.put, List.setIfInBounds_toArray, List.set_cons_zero, List.set_cons_succ])
  refine wpAnyH_take (i := 1) (oi := { dst := some 4, op := Op.load 9 (Operand.tmp 3), type := 9, pos := "l05_schema.go:102", after := #[{ on := 0, ground := Ground.data }], guard := none }) (v := ?_) rfl (by kernel_rfl) (by kernel_rfl) (by kernel_rfl) (fun _ _ _ h => h) (Or.inl ⟨by rfl, ?_⟩) (by assumption) ?_
  rotate_left
  · intro w hSw; (try dsimp only at hSw); go_simp; (try with_reducible rfl)
  (try simp only [Act.put, List.setIfInBounds_toArray, List.set_cons_zero, List.set_cons_succ])
  refine wpAnyH_take (i := 4) (oi := { dst := some 7, op := Op.fieldAddr 63 (Operand.tmp 1) 1, type := 0, pos := "l05_schema.go:102", after := #[], guard := none }) (v := ?_) rfl (by kernel_rfl) (by kernel_rfl) (by kernel_rfl) (fun _ _ _ h => h) (Or.inl ⟨by rfl, ?_⟩) (by assumption) ?_
  rotate_left
  · intro w hSw; (try dsimp only at hSw); go_simp; (try with_reducible rfl)
  (try simp only [Act.put, List.setIfInBounds_toArray, List.set_cons_zero, List.set_cons_succ])
  refine wpAnyH_take (i := 5) (oi := { dst := some 8, op := Op.load 29 (Operand.tmp 7), type := 29, pos := "l05_schema.go:102", after := #[{ on := 4, ground := Ground.data }], guard := none }) (v := ?_) rfl (by kernel_rfl) (by kernel_rfl) (by kernel_rfl) (fun _ _ _ h => h) (Or.inl ⟨by rfl, ?_⟩) (by assumption) ?_
  rotate_left
  · intro w hSw; (try dsimp only at hSw); go_simp; (try with_reducible rfl)
  (try simp only [Act.put, List.setIfInBounds_toArray, List.set_cons_zero, List.set_cons_succ])
  refine wpAnyH_take (i := 7) (oi := { dst := some 10, op := Op.fieldAddr 63 (Operand.tmp 1) 2, type := 0, pos := "l05_schema.go:102", after := #[], guard := none }) (v := ?_) rfl (by kernel_rfl) (by kernel_rfl) (by kernel_rfl) (fun _ _ _ h => h) (Or.inl ⟨by rfl, ?_⟩) (by assumption) ?_
  rotate_left
  · intro w hSw; (try dsimp only at hSw); go_simp; (try with_reducible rfl)
  (try simp only [Act.put, List.setIfInBounds_toArray, List.set_cons_zero, List.set_cons_succ])
  refine wpAnyH_take (i := 8) (oi := { dst := some 11, op := Op.load 29 (Operand.tmp 10), type := 29, pos := "l05_schema.go:102", after := #[{ on := 7, ground := Ground.data }], guard := none }) (v := ?_) rfl (by kernel_rfl) (by kernel_rfl) (by kernel_rfl) (fun _ _ _ h => h) (Or.inl ⟨by rfl, ?_⟩) (by assumption) ?_
  rotate_left
  · intro w hSw; (try dsimp only at hSw); go_simp; (try with_reducible rfl)
  (try simp only [Act.put, List.setIfInBounds_toArray, List.set_cons_zero, List.set_cons_succ])
  refine wpAnyH_take (i := 10) (oi := { dst := some 13, op := Op.fieldAddr 63 (Operand.tmp 1) 3, type := 0, pos := "l05_schema.go:102", after := #[], guard := none }) (v := ?_) rfl (by kernel_rfl) (by kernel_rfl) (by kernel_rfl) (fun _ _ _ h => h) (Or.inl ⟨by rfl, ?_⟩) (by assumption) ?_
  rotate_left
  · intro w hSw; (try dsimp only at hSw); go_simp; (try with_reducible rfl)
  (try simp only [Act.put, List.setIfInBounds_toArray, List.set_cons_zero, List.set_cons_succ])
  refine wpAnyH_take (i := 11) (oi := { dst := some 14, op := Op.load 29 (Operand.tmp 13), type := 29, pos := "l05_schema.go:102", after := #[{ on := 10, ground := Ground.data }], guard := none }) (v := ?_) rfl (by kernel_rfl) (by kernel_rfl) (by kernel_rfl) (fun _ _ _ h => h) (Or.inl ⟨by rfl, ?_⟩) (by assumption) ?_
  rotate_left
  · intro w hSw; (try dsimp only at hSw); go_simp; (try with_reducible rfl)
  (try simp only [Act.put, List.setIfInBounds_toArray, List.set_cons_zero, List.set_cons_succ])
  refine wpAnyH_ready (rs := [2]) (by kernel_rfl) (by simp) ?_
  refine AllReadyH.cons (o := { dst := some 5, op := Op.buildSlice 29 1 #[(0, Operand.tmp 4)], type := 29, pos := "l05_schema.go:102", after := #[{ on := 1, ground := Ground.data }], guard := none }) rfl (fun K hK => ?_) (AllReadyH.nil)
  go_simp
  clear hHeld
  refine hK.out _ _ ?_ (fun hHeld => ?_)
  · (try dsimp only)
    first | exact SK.out _ (by assumption) | exact SK.out _ BD | exact SK.out _ (more' (by assumption) _) | exact SK.out _ (more' BD _) | exact SX.out _ _ _ _
  clear hK K
  (try simp only [Act.put, List.setIfInBounds_toArray, List.set_cons_zero, List.set_cons_succ])
  refine wpAnyH_ready (rs := [3]) (by kernel_rfl) (by simp) ?_
  refine AllReadyH.cons (o := { dst := some 6, op := Op.call { callee := Callee.value (Operand.func 76), args := #[Operand.tmp 5], argTypes := #[29] }, type := 9, pos := "l05_schema.go:102", after := #[{ on := 2, ground := Ground.data }], guard := none }) rfl (fun K hK => ?_) (AllReadyH.nil)
  go_simp
  refine (concat_copy a0 W0.drew (by omega)).mono ?_
  rintro e w1 ⟨rfl, hb⟩
  have D1 : Below W0.heap.size W0 w1 := BD.trans (hb.mono BD.size)
  have b1 : Below w.heap.size w w1 := B.trans (D1.mono B.size)
  have hs1 : W0.heap.size ≤ w1.heap.size := hb.size
  clear hb
  clear hHeld
  refine hK.out _ _ ?_ (fun hHeld => ?_)
  · (try dsimp only)
    first | exact SK.out _ (by assumption) | exact SK.out _ BD | exact SK.out _ (more' (by assumption) _) | exact SK.out _ (more' BD _) | exact SX.out _ _ _ _
  clear hK K
  (try simp only [Act.put, List.setIfInBounds_toArray, List.set_cons_zero, List.set_cons_succ])
  refine wpAnyH_ready (rs := [6]) (by kernel_rfl) (by simp) ?_
  refine AllReadyH.cons (o := { dst := some 9, op := Op.call { callee := Callee.value (Operand.func 129), args := #[Operand.tmp 8], argTypes := #[29] }, type := 29, pos := "l05_schema.go:102", after := #[{ on := 5, ground := Ground.data }, { on := 3, ground := Ground.chain }], guard := none }) rfl (fun K hK => ?_) (AllReadyH.nil)
  go_simp
  refine (CT1.out w1 b1).mono ?_
  rintro e w2 ⟨u1, rfl, q1, hb⟩
  have D2 : Below W0.heap.size W0 w2 := D1.trans (hb.mono D1.size)
  have b2 : Below w.heap.size w w2 := B.trans (D2.mono B.size)
  have hs2 : w1.heap.size ≤ w2.heap.size := hb.size
  have Q1 := Lib.hid q1; obtain ⟨p1, e1, rfl⟩ := q1.at.sl; clear q1
  clear hb
  clear hHeld
  refine hK.out _ _ ?_ (fun hHeld => ?_)
  · (try dsimp only)
    first | exact SK.out _ (by assumption) | exact SK.out _ BD | exact SK.out _ (more' (by assumption) _) | exact SK.out _ (more' BD _) | exact SX.out _ _ _ _
  clear hK K
  (try simp only [Act.put, List.setIfInBounds_toArray, List.set_cons_zero, List.set_cons_succ])
  refine wpAnyH_ready (rs := [9]) (by kernel_rfl) (by simp) ?_
  refine AllReadyH.cons (o := { dst := some 12, op := Op.call { callee := Callee.value (Operand.func 129), args := #[Operand.tmp 11], argTypes := #[29] }, type := 29, pos := "l05_schema.go:102", after := #[{ on := 8, ground := Ground.data }, { on := 6, ground := Ground.chain }], guard := none }) rfl (fun K hK => ?_) (AllReadyH.nil)
  go_simp
  refine (CT2.out w2 b2).mono ?_
  rintro e w3 ⟨u2, rfl, q2, hb⟩
  have D3 : Below W0.heap.size W0 w3 := D2.trans (hb.mono D2.size)
  have b3 : Below w.heap.size w w3 := B.trans (D3.mono B.size)
  have hs3 : w2.heap.size ≤ w3.heap.size := hb.size
  have P := Lib.hid (Q1.out.frame (Same.of_below' hb)); clear Q1; have Q1 := P; clear P
  have Q2 := Lib.hid q2; obtain ⟨p2, e2, rfl⟩ := q2.at.sl; clear q2
  clear hb
  clear hHeld
  refine hK.out _ _ ?_ (fun hHeld => ?_)
  · (try dsimp only)
    first | exact SK.out _ (by assumption) | exact SK.out _ BD | exact SK.out _ (more' (by assumption) _) | exact SK.out _ (more' BD _) | exact SX.out _ _ _ _
  clear hK K
  (try simp only [Act.put, List.setIfInBounds_toArray, List.set_cons_zero, List.set_cons_succ])
  refine wpAnyH_ready (rs := [12]) (by kernel_rfl) (by simp) ?_
  refine AllReadyH.cons (o := { dst := some 15, op := Op.call { callee := Callee.value (Operand.func 129), args := #[Operand.tmp 14], argTypes := #[29] }, type := 29, pos := "l05_schema.go:102", after := #[{ on := 11, ground := Ground.data }, { on := 9, ground := Ground.chain }], guard := none }) rfl (fun K hK => ?_) (AllReadyH.nil)
  go_simp
  refine (CT3.out w3 b3).mono ?_
  rintro e w4 ⟨u3, rfl, q3, hb⟩
  have D4 : Below W0.heap.size W0 w4 := D3.trans (hb.mono D3.size)
  have b4 : Below w.heap.size w w4 := B.trans (D4.mono B.size)
  have hs4 : w3.heap.size ≤ w4.heap.size := hb.size
  have P := Lib.hid (Q1.out.frame (Same.of_below' hb)); clear Q1; have Q1 := P; clear P
  have P := Lib.hid (Q2.out.frame (Same.of_below' hb)); clear Q2; have Q2 := P; clear P
  have Q3 := Lib.hid q3; obtain ⟨p3, e3, rfl⟩ := q3.at.sl; clear q3
  clear hb
  have TX := Lib.hid (TA.out.below D4); have RX := Lib.hid (TR.out.below D4)
  have x0 := RX.out.cell 0 rfl; have f0 := RX.out.soft 0
  have x1 := RX.out.cell 1 rfl; have f1 := RX.out.soft 1
  have x2 := RX.out.cell 2 rfl; have f2 := RX.out.soft 2
  have x3 := RX.out.cell 3 rfl; have f3 := RX.out.soft 3
  have SX : Hid (∀ y0 y1 y2 y3 : Value, ((((w4.setCell ⟨w.heap.size + 1, 0, none⟩ y0).setCell ⟨w.heap.size + 1, 1, none⟩ y1).setCell ⟨w.heap.size + 1, 2, none⟩ y2).setCell ⟨w.heap.size + 1, 3, none⟩ y3).cell? ⟨w.heap.size, 0, none⟩ = some (.string a0) ∧ ((((w4.setCell ⟨w.heap.size + 1, 0, none⟩ y0).setCell ⟨w.heap.size + 1, 1, none⟩ y1).setCell ⟨w.heap.size + 1, 2, none⟩ y2).setCell ⟨w.heap.size + 1, 3, none⟩ y3).cell? ⟨w.heap.size, 1, none⟩ = some (.slice o1 a1.length k1) ∧ ((((w4.setCell ⟨w.heap.size + 1, 0, none⟩ y0).setCell ⟨w.heap.size + 1, 1, none⟩ y1).setCell ⟨w.heap.size + 1, 2, none⟩ y2).setCell ⟨w.heap.size + 1, 3, none⟩ y3).cell? ⟨w.heap.size, 2, none⟩ = some (.slice o2 a2.length k2) ∧ ((((w4.setCell ⟨w.heap.size + 1, 0, none⟩ y0).setCell ⟨w.heap.size + 1, 1, none⟩ y1).setCell ⟨w.heap.size + 1, 2, none⟩ y2).setCell ⟨w.heap.size + 1, 3, none⟩ y3).cell? ⟨w.heap.size, 3, none⟩ = some (.slice o3 a3.length k3)) := Lib.hid (fun y0 y1 y2 y3 => ⟨((((TX.out.far (by omega) y0).far (by omega) y1).far (by omega) y2).far (by omega) y3).cell 0 rfl, ((((TX.out.far (by omega) y0).far (by omega) y1).far (by omega) y2).far (by omega) y3).cell 1 rfl, ((((TX.out.far (by omega) y0).far (by omega) y1).far (by omega) y2).far (by omega) y3).cell 2 rfl, ((((TX.out.far (by omega) y0).far (by omega) y1).far (by omega) y2).far (by omega) y3).cell 3 rfl⟩)
  clear hHeld
  refine hK.out _ _ ?_ (fun hHeld => ?_)
  · (try dsimp only)
    first | exact SK.out _ (by assumption) | exact SK.out _ BD | exact SK.out _ (more' (by assumption) _) | exact SK.out _ (more' BD _) | exact SX.out _ _ _ _
  clear hK K
  (try simp only [Act.put, List.setIfInBounds_toArray, List.set_cons_zero, List.set_cons_succ])
  refine wpAnyH_take (i := 13) (oi := { dst := some 16, op := Op.build 63 #[(0, Operand.tmp 6), (1, Operand.tmp 9), (2, Operand.tmp 12), (3, Operand.tmp 15)], type := 63, pos := "l05_schema.go:102", after := #[{ on := 3, ground := Ground.data }, { on := 6, ground := Ground.data }, { on := 9, ground := Ground.data }, { on := 12, ground := Ground.data }], guard := none }) (v := ?_) rfl (by kernel_rfl) (by kernel_rfl) (by kernel_rfl) (fun _ _ _ h => h) (Or.inl ⟨by rfl, ?_⟩) (by assumption) ?_
  rotate_left
  · intro w hSw; (try dsimp only at hSw); go_simp; (try with_reducible rfl)
  (try simp only [Act.put, List.setIfInBounds_toArray, List.set_cons_zero, List.set_cons_succ])
  refine wpAnyH_ready (rs := [14]) (by kernel_rfl) (by simp) ?_
  refine AllReadyH.cons (o := { dst := none, op := Op.store 63 (Operand.tmp 2) (Operand.tmp 16), type := 0, pos := "l05_schema.go:102", after := #[{ on := 13, ground := Ground.data }, { on := 12, ground := Ground.chain }, { on := 0, ground := Ground.phase }, { on := 1, ground := Ground.phase }, { on := 2, ground := Ground.phase }, { on := 3, ground := Ground.phase }, { on := 4, ground := Ground.phase }, { on := 5, ground := Ground.phase }, { on := 6, ground := Ground.phase }, { on := 7, ground := Ground.phase }, { on := 8, ground := Ground.phase }, { on := 9, ground := Ground.phase }, { on := 10, ground := Ground.phase }, { on := 11, ground := Ground.phase }, { on := 12, ground := Ground.phase }, { on := 13, ground := Ground.phase }], guard := none }) rfl (fun K hK => ?_) (AllReadyH.nil)
  go_simp
  clear hHeld
  refine hK.out _ _ ?_ (fun hHeld => ?_)
  · (try dsimp only)
    first | exact SK.out _ (by assumption) | exact SK.out _ BD | exact SK.out _ (more' (by assumption) _) | exact SK.out _ (more' BD _) | exact SX.out _ _ _ _
  clear hK K
  (try simp only [Act.put, List.setIfInBounds_toArray, List.set_cons_zero, List.set_cons_succ])
  refine wpAnyH_done (by kernel_rfl) ?_ _
  have TE := ((((RX.out.set 0 (.string a0)).set 1 (.slice p1 a1.length e1)).set 2 (.slice p2 a2.length e2)).set 3 (.slice p3 a3.length e3))
  have j0 := TE.cell 0 rfl
  have j1 := TE.cell 1 rfl
  have j2 := TE.cell 2 rfl
  have j3 := TE.cell 3 rfl
  clear TE
  go_wp2
  refine bodyPost_ret (v := .agg #[.string a0, .slice p1 a1.length e1, .slice p2 a2.length e2, .slice p3 a3.length e3]) (by simp [results, Try.results107, go_sem, j0, j1, j2, j3]) rfl ⟨_, _, _, rfl, ?_, ?_⟩
  · have hdr : W0.drew.heap.size = W0.heap.size := rfl
    have g1 := ((((Q1.out.frame (Same.set _ (g := w.heap.size + 1) 0 (.string a0) (by intro h; have := h.1; omega))).frame (Same.set _ (g := w.heap.size + 1) 1 (.slice p1 a1.length e1) (by intro h; have := h.1; omega))).frame (Same.set _ (g := w.heap.size + 1) 2 (.slice p2 a2.length e2) (by intro h; have := h.1; omega))).frame (Same.set _ (g := w.heap.size + 1) 3 (.slice p3 a3.length e3) (by intro h; have := h.1; omega)))
    have g2 := ((((Q2.out.frame (Same.set _ (g := w.heap.size + 1) 0 (.string a0) (by intro h; have := h.1; omega))).frame (Same.set _ (g := w.heap.size + 1) 1 (.slice p1 a1.length e1) (by intro h; have := h.1; omega))).frame (Same.set _ (g := w.heap.size + 1) 2 (.slice p2 a2.length e2) (by intro h; have := h.1; omega))).frame (Same.set _ (g := w.heap.size + 1) 3 (.slice p3 a3.length e3) (by intro h; have := h.1; omega)))
    have g3 := ((((Q3.out.frame (Same.set _ (g := w.heap.size + 1) 0 (.string a0) (by intro h; have := h.1; omega))).frame (Same.set _ (g := w.heap.size + 1) 1 (.slice p1 a1.length e1) (by intro h; have := h.1; omega))).frame (Same.set _ (g := w.heap.size + 1) 2 (.slice p2 a2.length e2) (by intro h; have := h.1; omega))).frame (Same.set _ (g := w.heap.size + 1) 3 (.slice p3 a3.length e3) (by intro h; have := h.1; omega)))
    exact class_pack a0 a1 a2 a3 _ _ _ (Fresh w1 w2) (Fresh w2 w3) (Fresh w3 w4) ⟨g1, fun k z => ⟨by have := z.1; omega, by have := z.2; show _ < (World.heap _).size; simp only [setCell_size]; omega⟩, g2, fun k z => ⟨by have := z.1; omega, by have := z.2; show _ < (World.heap _).size; simp only [setCell_size]; omega⟩, g3, fun k z => ⟨by have := z.1; omega, by have := z.2; show _ < (World.heap _).size; simp only [setCell_size]; omega⟩, fun k h1 h2 => by have := h1.2; have := h2.1; omega, fun k h1 h2 => by have := h1.2; have := h2.1; omega, fun k h1 h2 => by have := h1.2; have := h2.1; omega, trivial⟩
  · exact ((((b4.setCell (p := ⟨w.heap.size + 1, 0, none⟩) (by show w.heap.size ≤ w.heap.size + 1; omega) _).setCell (p := ⟨w.heap.size + 1, 1, none⟩) (by show w.heap.size ≤ w.heap.size + 1; omega) _).setCell (p := ⟨w.heap.size + 1, 2, none⟩) (by show w.heap.size ≤ w.heap.size + 1; omega) _).setCell (p := ⟨w.heap.size + 1, 3, none⟩) (by show w.heap.size ≤ w.heap.size + 1; omega) _)
end Go.Proofs.Ytlgafmgohinkbaa
/- The helpers of the laws: copies. -/
namespace Go.Proofs.Ytlgafmgohinkbaa
open Go.RowKit
attribute [local go_sem ↓] Go.wp_at_zero Go.wp_at_succ

theorem Try.infoTString : (Try.prog.info? 9).map (fun i => (i.zero, i.size, i.bytes)) = some (some (.string ByteArray.empty), 1, 16) := by kernel_rfl
theorem mkString (n : Nat) (hn : n ≤ 1048576) (W : World) : ∃ C : Array Value, C.size = n * 1 ∧
    (Instr.makeSlice 29 (.int .i64 (n : Int)) (.int .i64 (n : Int))).run Try.prog W = .ok (.slice (some ⟨W.heap.size, 0, none⟩) n n) (W.alloc (.cells C 9)) := by
  obtain ⟨i0, hi, hz0, hz1, hz2⟩ := info_parts Try.infoTString
  have := run_make (P := Try.prog) W 29 9 i0 _ Try.underlying29 hi hz0 .i64 .i64 (n : Int) (n : Int) (by omega) (by omega) (by rw [hz2]; omega) (by omega)
  rw [hz1] at this
  refine ⟨madeCells (Value.cells (.string ByteArray.empty)) (n * 1), size_madeCells _ _, ?_⟩
  simpa using this
set_option maxRecDepth 100000 in
set_option maxHeartbeats 4000000 in
theorem toStringS_at {S : Bs} (v : Value) (d : List ByteArray) (w : World) (hd : SlAt strE S w d v) (hz : d.length + szL strE d ≤ 1048576) :
    Calls Try.prog 84 #[v] w fun e w' => ∃ u, e = .returned u ∧ SlOwn strE (Fresh w w') w' d u ∧ Below w.heap.size w w' := by
  obtain ⟨ao, cap, rfl⟩ := hd.sl
  have HD := Lib.hid hd; clear hd
  have HL := Lib.hid hz
  have hl : d.length ≤ 1048576 := by omega
  clear hz
  obtain ⟨C, hC, hmk⟩ := mkString d.length hl w
  have HC := Lib.hid hC; clear hC
  go_enter Try.func84, Try.ntmps84
  go_wp2
  clear hmk
  go_loopw [4] (fun i wr => ∃ k : Nat, k ≤ d.length ∧ i = .int .i64 k ∧ Build strE wr w.heap.size d.length (d.take k) ∧ Below w.heap.size w wr) (fun i _ => d.length - (intOf i).toNat)
  case atStart => exact ⟨0, Nat.zero_le _, rfl, Build.new _ _ _ _ HC.out, (Below.refl _ _).alloc (Nat.le_refl _) _⟩
  case round =>
    obtain ⟨k, hk, rfl, hR, hbel⟩ := hrel
    have HR := Lib.hid hR; clear hR
    have hsz := hbel.size
    by_cases hlt : k < d.length
    · obtain ⟨b, off, A, rfl, _, hb0, hx, hc1⟩ := str_row (HD.out.frame (Same.of_below' hbel)) hlt
      have HT : Hid (d.take (k + 1) = d.take k ++ [A]) := Lib.hid (by rw [List.take_succ_eq_append_getElem hlt, hx])
      have HK : Hid ((d.take k).length = k) := Lib.hid (by rw [List.length_take]; omega)
      clear hx
      obtain ⟨x, c0⟩ := HR.out.cell (k := k) (u := 0) hlt (by decide)
      have c0 : wr.cell? ⟨w.heap.size, k, none⟩ = some x := by have e1 : k * strE.n + 0 = k := by (show k * 1 + 0 = k); omega
                                                               rw [e1] at c0; exact c0
      have f0 := HR.out.soft k
      go_wp2
      go_roundw
      case rel => exact ⟨k + 1, by omega, by go_num, by rw [HT.out]; exact HR.out.row (o := k) (cs := [.string A]) (by rw [HK.out]; exact hlt) (by rw [HK.out]; show k = k * 1; omega) (Below.refl _ _) rfl, hbel.setCell (Nat.le_refl _) _⟩
      case measure => simp [intOf]; omega
    · have e : d.take k = d := List.take_of_length_le (by omega)
      rw [e] at HR
      clear e
      go_wp2
      go_ret
      exact ⟨_, rfl, HR.out.own, hbel⟩
end Go.Proofs.Ytlgafmgohinkbaa
/- The helpers of the laws: copies. -/
namespace Go.Proofs.Ytlgafmgohinkbaa
open Go.RowKit
attribute [local go_sem ↓] Go.wp_at_zero Go.wp_at_succ

theorem Try.infoTClass : (Try.prog.info? 63).map (fun i => (i.zero, i.size, i.bytes)) = some (some (.agg #[.string ByteArray.empty, .slice none 0 0, .slice none 0 0, .slice none 0 0]), 4, 88) := by kernel_rfl
theorem mkClass (n : Nat) (hn : n ≤ 1048576) (W : World) : ∃ C : Array Value, C.size = n * 4 ∧
    (Instr.makeSlice 52 (.int .i64 (n : Int)) (.int .i64 (n : Int))).run Try.prog W = .ok (.slice (some ⟨W.heap.size, 0, none⟩) n n) (W.alloc (.cells C 63)) := by
  obtain ⟨i0, hi, hz0, hz1, hz2⟩ := info_parts Try.infoTClass
  have := run_make (P := Try.prog) W 52 63 i0 _ Try.underlying52 hi hz0 .i64 .i64 (n : Int) (n : Int) (by omega) (by omega) (by rw [hz2]; omega) (by omega)
  rw [hz1] at this
  refine ⟨madeCells (Value.cells (.agg #[.string ByteArray.empty, .slice none 0 0, .slice none 0 0, .slice none 0 0])) (n * 4), size_madeCells _ _, ?_⟩
  simpa using this
set_option maxRecDepth 100000 in
set_option maxHeartbeats 4000000 in
theorem toClass_at {S : Bs} (a0 : ByteArray) (a1 : (List ByteArray)) (a2 : (List ByteArray)) (a3 : (List ByteArray)) (v1 v2 v3 : Value) (w : World) (h1 : SlAt strE S w a1 v1) (h2 : SlAt strE S w a2 v2) (h3 : SlAt strE S w a3 v3) (hz : classE.sz (a0, a1, a2, a3) ≤ 1048576) :
    Calls Try.prog 101 #[.agg #[.string a0, v1, v2, v3]] w fun e w' => ∃ u1 u2 u3, e = .returned (.agg #[.string a0, u1, u2, u3]) ∧ classE.Own (Fresh w w') w' (a0, a1, a2, a3) [.string a0, u1, u2, u3] ∧ Below w.heap.size w w' := by
  have HE : classE.sz (a0, a1, a2, a3) = a0.size + ((a1.length + szL strE a1) + ((a2.length + szL strE a2) + ((a3.length + szL strE a3)))) := rfl
  rw [HE] at hz
  have C1 : Hid (∀ W : World, Below w.heap.size w W → Calls Try.prog 84 #[v1] W fun e w' => ∃ u, e = .returned u ∧ SlOwn strE (Fresh W w') w' a1 u ∧ Below W.heap.size W w') := Lib.hid (fun W b => toStringS_at v1 a1 W (h1.frame (Same.of_below' b)) (by omega))
  have C2 : Hid (∀ W : World, Below w.heap.size w W → Calls Try.prog 84 #[v2] W fun e w' => ∃ u, e = .returned u ∧ SlOwn strE (Fresh W w') w' a2 u ∧ Below W.heap.size W w') := Lib.hid (fun W b => toStringS_at v2 a2 W (h2.frame (Same.of_below' b)) (by omega))
  have C3 : Hid (∀ W : World, Below w.heap.size w W → Calls Try.prog 84 #[v3] W fun e w' => ∃ u, e = .returned u ∧ SlOwn strE (Fresh W w') w' a3 u ∧ Below W.heap.size W w') := Lib.hid (fun W b => toStringS_at v3 a3 W (h3.frame (Same.of_below' b)) (by omega))
  obtain ⟨o1, k1, rfl⟩ := h1.sl
  obtain ⟨o2, k2, rfl⟩ := h2.sl
  obtain ⟨o3, k3, rfl⟩ := h3.sl
  clear hz HE h1 h2 h3
  go_enter Try.func101, Try.ntmps101
  go_wp2_with fail
  refine calls_by (fun W => Below w.heap.size w W ∧ Blk W w.heap.size [.string a0, .slice o1 a1.length k1, .slice o2 a2.length k2, .slice o3 a3.length k3] ∧ Blk W (w.heap.size + 1) [.string ⟨#[]⟩, .slice none 0 0, .slice none 0 0, .slice none 0 0] ∧ Blk W (w.heap.size + 1 + 1) [.string a0, .slice none 0 0, .slice none 0 0, .slice none 0 0]) ⟨more' (more' (more' (Below.refl _ _) _) _) _, ((Blk.new _ _ _).alloc _).alloc _, (blk_at _ _ _ (by simp)).alloc _, blk_at _ _ _ (by simp)⟩ ?_
  rintro W0 ⟨b0, t0, r0, s0⟩
  have hn : w.heap.size + 1 + 1 < W0.heap.size := s0.lt
  refine (C1.out W0 b0).mono ?_
  rintro e y1 ⟨u1, rfl, q1, hb⟩
  obtain ⟨p1, j1, rfl⟩ := q1.at.sl
  have T := Lib.hid (t0.below hb); have Rr := Lib.hid (r0.below hb); have U := Lib.hid (s0.below hb); have B := Lib.hid (b0.trans (hb.mono b0.size)); have hs1 := hb.size
  have Q1 := Lib.hid q1
  clear t0 r0 s0 b0 hb q1 C1
  have m0 := T.out.cell 0 rfl
  have c0 := U.out.cell 0 rfl
  have f0 := U.out.soft 0
  have m1 := T.out.cell 1 rfl
  have c1 := U.out.cell 1 rfl
  have f1 := U.out.soft 1
  have m2 := T.out.cell 2 rfl
  have c2 := U.out.cell 2 rfl
  have f2 := U.out.soft 2
  have m3 := T.out.cell 3 rfl
  have c3 := U.out.cell 3 rfl
  have f3 := U.out.soft 3
  go_wp2_with fail
  have hW : y1.heap.size = y1.heap.size := rfl
  refine calls_by (fun W => y1.heap.size ≤ W.heap.size ∧ Below w.heap.size w W ∧ Blk W w.heap.size [.string a0, .slice o1 a1.length k1, .slice o2 a2.length k2, .slice o3 a3.length k3] ∧ Blk W (w.heap.size + 1) [.string ⟨#[]⟩, .slice none 0 0, .slice none 0 0, .slice none 0 0] ∧ Blk W (w.heap.size + 1 + 1) [.string a0, .slice p1 a1.length j1, .slice none 0 0, .slice none 0 0] ∧ SlOwn strE (Fresh W0 y1) W a1 (.slice p1 a1.length j1)) ⟨by simp [World.setCell], (B.out.setCell (p := ⟨w.heap.size + 1 + 1, 1, none⟩) (by show w.heap.size ≤ w.heap.size + 1 + 1; omega) _), (T.out.far (by omega) _), (Rr.out.far (by omega) _), (U.out.set 1 _), (Q1.out.frame (Same.set _ _ _ (by intro h; have := h.1; omega)))⟩ ?_
  clear T Rr U B Q1
  rintro W1 ⟨hl1, b1, t1, r1, s1, q1⟩
  have Q1 := Lib.hid q1; clear q1
  refine (C2.out W1 b1).mono ?_
  rintro e y2 ⟨u2, rfl, q2, hb⟩
  obtain ⟨p2, j2, rfl⟩ := q2.at.sl
  have T := Lib.hid (t1.below hb); have Rr := Lib.hid (r1.below hb); have U := Lib.hid (s1.below hb); have B := Lib.hid (b1.trans (hb.mono b1.size)); have hs2 := hb.size
  have Q2 := Lib.hid q2
  have Q1 := Lib.hid (Q1.out.frame (Same.of_below' hb))
  clear t1 r1 s1 b1 hb q2 C2
  clear c0 f0 m0 c1 f1 m1 c2 f2 m2 c3 f3 m3
  have m0 := T.out.cell 0 rfl
  have c0 := U.out.cell 0 rfl
  have f0 := U.out.soft 0
  have m1 := T.out.cell 1 rfl
  have c1 := U.out.cell 1 rfl
  have f1 := U.out.soft 1
  have m2 := T.out.cell 2 rfl
  have c2 := U.out.cell 2 rfl
  have f2 := U.out.soft 2
  have m3 := T.out.cell 3 rfl
  have c3 := U.out.cell 3 rfl
  have f3 := U.out.soft 3
  go_wp2_with fail
  have hW : y2.heap.size = y2.heap.size := rfl
  refine calls_by (fun W => y2.heap.size ≤ W.heap.size ∧ Below w.heap.size w W ∧ Blk W w.heap.size [.string a0, .slice o1 a1.length k1, .slice o2 a2.length k2, .slice o3 a3.length k3] ∧ Blk W (w.heap.size + 1) [.string ⟨#[]⟩, .slice none 0 0, .slice none 0 0, .slice none 0 0] ∧ Blk W (w.heap.size + 1 + 1) [.string a0, .slice p1 a1.length j1, .slice p2 a2.length j2, .slice none 0 0] ∧ SlOwn strE (Fresh W0 y1) W a1 (.slice p1 a1.length j1) ∧ SlOwn strE (Fresh W1 y2) W a2 (.slice p2 a2.length j2)) ⟨by simp [World.setCell], (B.out.setCell (p := ⟨w.heap.size + 1 + 1, 2, none⟩) (by show w.heap.size ≤ w.heap.size + 1 + 1; omega) _), (T.out.far (by omega) _), (Rr.out.far (by omega) _), (U.out.set 2 _), (Q1.out.frame (Same.set _ _ _ (by intro h; have := h.1; omega))), (Q2.out.frame (Same.set _ _ _ (by intro h; have := h.1; omega)))⟩ ?_
  clear T Rr U B Q1 Q2
  rintro W2 ⟨hl2, b2, t2, r2, s2, q1, q2⟩
  have Q1 := Lib.hid q1; clear q1
  have Q2 := Lib.hid q2; clear q2
  refine (C3.out W2 b2).mono ?_
  rintro e y3 ⟨u3, rfl, q3, hb⟩
  obtain ⟨p3, j3, rfl⟩ := q3.at.sl
  have T := Lib.hid (t2.below hb); have Rr := Lib.hid (r2.below hb); have U := Lib.hid (s2.below hb); have B := Lib.hid (b2.trans (hb.mono b2.size)); have hs3 := hb.size
  have Q3 := Lib.hid q3
  have Q1 := Lib.hid (Q1.out.frame (Same.of_below' hb))
  have Q2 := Lib.hid (Q2.out.frame (Same.of_below' hb))
  clear t2 r2 s2 b2 hb q3 C3
  clear c0 f0 m0 c1 f1 m1 c2 f2 m2 c3 f3 m3
  have m0 := T.out.cell 0 rfl
  have c0 := U.out.cell 0 rfl
  have f0 := U.out.soft 0
  have m1 := T.out.cell 1 rfl
  have c1 := U.out.cell 1 rfl
  have f1 := U.out.soft 1
  have m2 := T.out.cell 2 rfl
  have c2 := U.out.cell 2 rfl
  have f2 := U.out.soft 2
  have m3 := T.out.cell 3 rfl
  have c3 := U.out.cell 3 rfl
  have f3 := U.out.soft 3
  have TE := (((((Rr.out.far (R := w.heap.size + 1 + 1) (j := 3) (by omega) (.slice p3 a3.length j3)).set 0 (.string a0)).set 1 (.slice p1 a1.length j1)).set 2 (.slice p2 a2.length j2)).set 3 (.slice p3 a3.length j3))
  have d0 := Rr.out.cell 0 rfl
  have g0 := Rr.out.soft 0
  have k100 := TE.cell 0 rfl
  have d1 := Rr.out.cell 1 rfl
  have g1 := Rr.out.soft 1
  have k101 := TE.cell 1 rfl
  have d2 := Rr.out.cell 2 rfl
  have g2 := Rr.out.soft 2
  have k102 := TE.cell 2 rfl
  have d3 := Rr.out.cell 3 rfl
  have g3 := Rr.out.soft 3
  have k103 := TE.cell 3 rfl
  clear TE
  go_wp2_with fail
  refine bodyPost_ret (v := .agg #[.string a0, .slice p1 a1.length j1, .slice p2 a2.length j2, .slice p3 a3.length j3]) (by simp [results, Try.results101, go_sem, k100, k101, k102, k103]) rfl ⟨_, _, _, rfl, ?_, ?_⟩
  · exact class_pack a0 a1 a2 a3 _ _ _ (Fresh W0 y1) (Fresh W1 y2) (Fresh W2 y3) ⟨(((((Q1.out.frame (Same.set _ _ _ (by intro h; have := h.1; omega))).frame (Same.set _ _ _ (by intro h; have := h.1; omega))).frame (Same.set _ _ _ (by intro h; have := h.1; omega))).frame (Same.set _ _ _ (by intro h; have := h.1; omega))).frame (Same.set _ _ _ (by intro h; have := h.1; omega))), (fun k z => ⟨by have := z.1; omega, by have := z.2; show _ < (World.heap _).size; simp only [setCell_size]; omega⟩), (((((Q2.out.frame (Same.set _ _ _ (by intro h; have := h.1; omega))).frame (Same.set _ _ _ (by intro h; have := h.1; omega))).frame (Same.set _ _ _ (by intro h; have := h.1; omega))).frame (Same.set _ _ _ (by intro h; have := h.1; omega))).frame (Same.set _ _ _ (by intro h; have := h.1; omega))), (fun k z => ⟨by have := z.1; omega, by have := z.2; show _ < (World.heap _).size; simp only [setCell_size]; omega⟩), (((((Q3.out.frame (Same.set _ _ _ (by intro h; have := h.1; omega))).frame (Same.set _ _ _ (by intro h; have := h.1; omega))).frame (Same.set _ _ _ (by intro h; have := h.1; omega))).frame (Same.set _ _ _ (by intro h; have := h.1; omega))).frame (Same.set _ _ _ (by intro h; have := h.1; omega))), (fun k z => ⟨by have := z.1; omega, by have := z.2; show _ < (World.heap _).size; simp only [setCell_size]; omega⟩), (fun k z y => by have := z.2; have := y.1; omega), (fun k z y => by have := z.2; have := y.1; omega), (fun k z y => by have := z.2; have := y.1; omega), trivial⟩
  · exact (((((B.out.setCell (p := ⟨w.heap.size + 1 + 1, 3, none⟩) (by show w.heap.size ≤ w.heap.size + 1 + 1; omega) _).setCell (p := ⟨w.heap.size + 1, 0, none⟩) (by show w.heap.size ≤ w.heap.size + 1; omega) _).setCell (p := ⟨w.heap.size + 1, 1, none⟩) (by show w.heap.size ≤ w.heap.size + 1; omega) _).setCell (p := ⟨w.heap.size + 1, 2, none⟩) (by show w.heap.size ≤ w.heap.size + 1; omega) _).setCell (p := ⟨w.heap.size + 1, 3, none⟩) (by show w.heap.size ≤ w.heap.size + 1; omega) _)
set_option maxRecDepth 100000 in
set_option maxHeartbeats 4000000 in
theorem toClassS_at {S : Bs} (v : Value) (d : List ClassT) (w : World) (hd : SlAt classE S w d v) (hz : d.length + szL classE d ≤ 1048576) :
    Calls Try.prog 36 #[v] w fun e w' => ∃ u, e = .returned u ∧ SlOwn classE (Fresh w w') w' d u ∧ Below w.heap.size w w' := by
  obtain ⟨ao, cap, rfl⟩ := hd.sl
  have HD := Lib.hid hd; clear hd
  have HL := Lib.hid hz
  have hl : d.length ≤ 1048576 := by omega
  clear hz
  obtain ⟨C, hC, hmk⟩ := mkClass d.length hl w
  have HC := Lib.hid hC; clear hC
  go_enter Try.func36, Try.ntmps36
  go_wp2
  clear hmk
  go_loopw [4] (fun i wr => ∃ k : Nat, k ≤ d.length ∧ i = .int .i64 k ∧ Build classE wr w.heap.size d.length (d.take k) ∧ Below w.heap.size w wr) (fun i _ => d.length - (intOf i).toNat)
  case atStart => exact ⟨0, Nat.zero_le _, rfl, Build.new _ _ _ _ HC.out, (Below.refl _ _).alloc (Nat.le_refl _) _⟩
  case round =>
    obtain ⟨k, hk, rfl, hR, hbel⟩ := hrel
    have HR := Lib.hid hR; clear hR
    have hsz := hbel.size
    by_cases hlt : k < d.length
    · obtain ⟨b, off, a0, a1, a2, a3, v1, v2, v3, rfl, _, hb0, hx, ⟨hc0, hc1, hc2, hc3⟩, s1, s2, s3, _⟩ := class_row (HD.out.frame (Same.of_below' hbel)) hlt
      have HT : Hid (d.take (k + 1) = d.take k ++ [(a0, a1, a2, a3)]) := Lib.hid (by rw [List.take_succ_eq_append_getElem hlt, hx])
      have HK : Hid ((d.take k).length = k) := Lib.hid (by rw [List.length_take]; omega)
      have HZ : Hid (classE.sz (a0, a1, a2, a3) ≤ 1048576) := Lib.hid (by have h1 := szL_mem classE (List.getElem_mem hlt); rw [hx] at h1; have := HL.out; omega)
      clear hx
      have HV1 := Lib.hid s1; clear s1
      have HV2 := Lib.hid s2; clear s2
      have HV3 := Lib.hid s3; clear s3
      obtain ⟨o1, k1, rfl⟩ := HV1.out.sl
      obtain ⟨o2, k2, rfl⟩ := HV2.out.sl
      obtain ⟨o3, k3, rfl⟩ := HV3.out.sl
      go_wp2_with fail
      refine (toClass_at a0 a1 a2 a3 _ _ _ wr HV1.out HV2.out HV3.out HZ.out).mono ?_
      rintro e w2 ⟨u1, u2, u3, rfl, hq, hb2⟩
      have HR2 := Lib.hid (HR.out.below hb2)
      have B2 := Lib.hid (hbel.trans (hb2.mono hsz))
      have HQ := Lib.hid hq
      have HB := Lib.hid hb2
      clear hb2 hq hc0 hc1 hc2 hc3
      have hsl := class_sl HQ.out rfl
      obtain ⟨⟨p1, l1, j1, rfl⟩, ⟨p2, l2, j2, rfl⟩, ⟨p3, l3, j3, rfl⟩⟩ := hsl
      obtain ⟨x0, c0⟩ := HR2.out.cell (k := k) (u := 0) hlt (by decide)
      have c0 : w2.cell? ⟨w.heap.size, k * 4, none⟩ = some x0 := c0
      have f0 := HR2.out.soft (k * 4)
      obtain ⟨x1, c1⟩ := HR2.out.cell (k := k) (u := 1) hlt (by decide)
      have c1 : w2.cell? ⟨w.heap.size, k * 4 + 1, none⟩ = some x1 := c1
      have f1 := HR2.out.soft (k * 4 + 1)
      obtain ⟨x2, c2⟩ := HR2.out.cell (k := k) (u := 2) hlt (by decide)
      have c2 : w2.cell? ⟨w.heap.size, k * 4 + 2, none⟩ = some x2 := c2
      have f2 := HR2.out.soft (k * 4 + 2)
      obtain ⟨x3, c3⟩ := HR2.out.cell (k := k) (u := 3) hlt (by decide)
      have c3 : w2.cell? ⟨w.heap.size, k * 4 + 3, none⟩ = some x3 := c3
      have f3 := HR2.out.soft (k * 4 + 3)
      go_wp2
      go_roundw
      case rel => exact ⟨k + 1, by omega, by go_num, by rw [HT.out]; exact HR.out.row (o := k * 4) (cs := [.string a0, .slice p1 l1 j1, .slice p2 l2 j2, .slice p3 l3 j3]) (by rw [HK.out]; exact hlt) (by rw [HK.out]; rfl) HB.out HQ.out, ((((B2.out.setCell (Nat.le_refl _) _).setCell (Nat.le_refl _) _).setCell (Nat.le_refl _) _).setCell (Nat.le_refl _) _)⟩
      case measure => simp [intOf]; omega
    · have e : d.take k = d := List.take_of_length_le (by omega)
      rw [e] at HR
      clear e
      go_wp2
      go_ret
      exact ⟨_, rfl, HR.out.own, hbel⟩
end Go.Proofs.Ytlgafmgohinkbaa
/- The program copies a list of Class. -/
namespace Go.Proofs.Ytlgafmgohinkbaa
open Go.RowKit
attribute [local go_sem ↓] Go.wp_at_zero Go.wp_at_succ

section
variable {ops : Array Oper} {rest : List Oper} {o : Oper} {a : Act} {Q : Exit → Act → World → Prop} {w3 : World}
theorem app_class (B : Nat) (hgd : o.guard = none) (s x : Operand)
    (ho : o.op = .call { callee := .builtin .append, args := #[s, x], argTypes := #[52, 52] }) (v : Value) (n : Nat) (xs : List Value) (hs : a.eval s = v) (hown : w3.ownsRow B 63 4 v n xs)
    (a0 : ByteArray) (p1 : Option Addr) (m1 c1 : Nat) (p2 : Option Addr) (m2 c2 : Nat) (p3 : Option Addr) (m3 c3 : Nat) (N : Nat) (hN : N = w3.heap.size) (hx : a.eval x = .slice (some ⟨N, 0, none⟩) 1 1) (hlen : n ≤ 100000000) (hB : B ≤ w3.heap.size)
    (h : ∀ g cap w', w'.ownsRow B 63 4 (.slice (some ⟨g, 0, none⟩) (n + 1) cap) (n + 1) (xs ++ [.string a0, .slice p1 m1 c1, .slice p2 m2 c2, .slice p3 m3 c3]) → (w3.alloc (.cells #[.string a0, .slice p1 m1 c1, .slice p2 m2 c2, .slice p3 m3 c3] 63)).grownBy w' v.ownBlock → (v.ownBlock = some g ∨ g = w3.heap.size + 1) → wpList Try.prog ops Q rest (a.put o.dst (.slice (some ⟨g, 0, none⟩) (n + 1) cap)) w') :
    wpList Try.prog ops Q (o :: rest) a (w3.alloc (.cells #[.string a0, .slice p1 m1 c1, .slice p2 m2 c2, .slice p3 m3 c3] 63)) := by
  subst hN
  obtain ⟨i0, hi, hz0, hz1, hz2⟩ := info_parts Try.infoTClass
  refine wpList_append_lies _ hgd s x 52 ho B 63 i0 _ 4 88 Try.underlying52 hi hz0 hz1 hz2 rfl (by decide) v n xs hs (hown.alloc _) ⟨w3.heap.size, 0, none⟩ 1 1 [.string a0, .slice p1 m1 c1, .slice p2 m2 c2, .slice p3 m3 c3] hx rfl (World.news_of_block (cs := #[.string a0, .slice p1 m1 c1, .slice p2 m2 c2, .slice p3 m3 c3]) (t := 63) (fr := (0, 0)) (heap_alloc_new _ _)) ?_ (by omega) ?_ ?_ ?_ (w3.heap.size + 1) (by simp) ?_
  · intro u hu; simp at hu; rcases hu with rfl | rfl | rfl | rfl <;> rfl
  · unfold maxLen; omega
  · omega
  · simp; omega
  · intro g cap w' h1 h2 h3 _
    exact h g cap w' h1 h2 h3
end
set_option maxRecDepth 100000 in
set_option maxHeartbeats 4000000 in
theorem cpysClass_any {S : Bs} (v : Value) (d : List ClassT) (w : World) (hd : SlAt classE S w d v) (hz : d.length + szL classE d ≤ 1048576) :
    Calls Try.prog 160 #[v, .func (.func 107) #[] #[]] w fun e w' => (∃ u, e = .returned u ∧ SlOwn classE (Fresh w w') w' d u) ∧ Below w.heap.size w w' := by
  obtain ⟨ao, ca, rfl⟩ := hd.sl
  have HA := Lib.hid hd
  have HZ : Hid (∀ x ∈ d, classE.sz x ≤ 1048576) := Lib.hid (fun x h => by have h1 := szL_mem classE h; omega)
  have hl : d.length ≤ 1048576 := by omega
  clear hd hz
  go_enter Try.func160, Try.ntmps160
  go_wp2
  go_loopw [5, 10] (fun v i wr => ∃ k : Nat, k ≤ d.length ∧ i = .int .i64 k ∧ (∃ xs, Grow classE 63 w.heap.size wr v (d.take k) xs) ∧ Below w.heap.size w wr) (fun _ i _ => d.length - (intOf i).toNat)
  case atStart => exact ⟨0, Nat.zero_le _, rfl, ⟨[], Grow.nil _ _ _ _⟩, Below.refl _ _⟩
  case round =>
    obtain ⟨k, hk, rfl, ⟨xs, hg⟩, hbel⟩ := hrel
    have HG := Lib.hid hg; clear hg
    obtain ⟨p7, n7, q7, hv7⟩ := own_slice3' HG.out.row
    subst hv7
    by_cases hlt : k < d.length
    · obtain ⟨b, off, a0, a1, a2, a3, v1, v2, v3, rfl, _, hb0, hx, ⟨hc0, hc1, hc2, hc3⟩, s1, s2, s3, _⟩ := class_row (HA.out.frame (Same.of_below' hbel)) hlt
      have HZ1 : Hid (classE.sz (a0, a1, a2, a3) ≤ 1048576) := Lib.hid (by have := HZ.out _ (List.getElem_mem hlt); rw [hx] at this; exact this)
      have HT : Hid (d.take (k + 1) = d.take k ++ [(a0, a1, a2, a3)]) := Lib.hid (by rw [List.take_succ_eq_append_getElem hlt, hx])
      have HC : Hid (∀ W : World, Below wr.heap.size wr W → Calls Try.prog 107 #[.agg #[.string a0, v1, v2, v3]] W fun e w' => ∃ u1 u2 u3, e = .returned (.agg #[.string a0, u1, u2, u3]) ∧ classE.Own (Fresh W w') w' (a0, a1, a2, a3) [.string a0, u1, u2, u3] ∧ Below W.heap.size W w') := Lib.hid (fun W b => cpyClass_any a0 a1 a2 a3 v1 v2 v3 W (s1.frame (Same.of_below' b)) (s2.frame (Same.of_below' b)) (s3.frame (Same.of_below' b)) HZ1.out)
      obtain ⟨o1, k1, rfl⟩ := s1.sl
      obtain ⟨o2, k2, rfl⟩ := s2.sl
      obtain ⟨o3, k3, rfl⟩ := s3.sl
      clear s1 s2 s3 hx
      have hrl : (d.take k).length ≤ 100000000 := by rw [List.length_take]; omega
      have hrl2 := Lib.hid hrl
      clear hrl
      generalize d.take k = pre at *
      have g1 : (0 : Int) ≤ (k : Int) := by omega
      have g2 : (k : Int) < (d.length : Int) := by omega
      go_wp2_with fail
      refine calls_by (fun W => Below wr.heap.size wr W) (more' (Below.refl _ _) _) ?_
      intro W1 d1
      refine (HC.out W1 d1).mono ?_
      clear hc0 hc1 hc2 hc3
      rintro e w3 ⟨u1, u2, u3, rfl, q, hb1⟩
      have hb : Below wr.heap.size wr w3 := d1.trans (hb1.mono d1.size)
      obtain ⟨⟨p1, n1, j1, rfl⟩, ⟨p2, n2, j2, rfl⟩, ⟨p3, n3, j3, rfl⟩⟩ := class_sl q rfl
      have Q3 := Lib.hid (Enc.ownWide _ q (fun b h => (⟨Nat.le_trans d1.size h.1, h.2⟩ : Fresh wr w3 b)))
      have b3 := hbel.trans (hb.mono hbel.size); have D3 := Lib.hid hb
      have R3 := Lib.hid (HG.out.below hb).row
      have hs3 := hb.size; have hs2 := hbel.size
      clear hb1 d1
      have hB3 : w.heap.size ≤ w3.heap.size := b3.size
      clear hb q
      go_wp2_with (first
        | (at_builtin; refine app_class w.heap.size rfl _ _ rfl _ _ xs rfl R3.out a0 p1 n1 j1 p2 n2 j2 p3 n3 j3 _ rfl rfl hrl2.out hB3 ?_; intro g cap w5 h1 h2 h3)
        | (fail "none"))
      have HG5 : Hid (Grow classE 63 w.heap.size w5 (.slice (some ⟨g, 0, none⟩) (pre.length + 1) cap) (pre ++ [(a0, a1, a2, a3)]) (xs ++ [.string a0, .slice p1 n1 j1, .slice p2 n2 j2, .slice p3 n3 j3])) := Lib.hid (Grow.step HG.out hs2 D3.out Q3.out (more' (Below.refl _ _) _) h1 h2 (fun g' hg' => by
        have e : g = g' := by simpa [Value.ownBlock] using hg'
        subst e
        rcases h3 with h | h
        · exact .inl h
        · exact .inr (by omega)))
      have B5 : Below w.heap.size w w5 := (b3.alloc b3.size _).grown h2 (by simp; omega) (fun r hr => by have := (R3.out.lt r hr).1; omega)
      clear h1 h2 h3 R3
      go_wp2
      go_roundw
      case rel => exact ⟨k + 1, by omega, by go_num, ⟨_, by rw [HT.out]; exact HG5.out⟩, B5⟩
      case measure => simp [intOf]; omega
    · have e : d.take k = d := List.take_of_length_le (by omega)
      have HO : Hid (SlOwn classE (Fresh w wr) wr d (.slice p7 n7 q7)) := Lib.hid (by have := HG.out.own; rw [e] at this; exact this)
      clear e
      go_wp2
      go_ret
      exact ⟨⟨_, rfl, HO.out⟩, hbel⟩
end Go.Proofs.Ytlgafmgohinkbaa
/- The program copies a Attr. -/
namespace Go.Proofs.Ytlgafmgohinkbaa
open Go.RowKit
attribute [local go_sem ↓] Go.wp_at_zero Go.wp_at_succ

set_option maxRecDepth 100000 in
set_option maxHeartbeats 4000000 in
theorem cpyAttr_any {S : Bs} (a0 : ByteArray) (a1 : (List ByteArray)) (v1 : Value) (w : World) (h1 : SlAt strE S w a1 v1) (hz : attrE.sz (a0, a1) ≤ 1048576) :
    Calls Try.prog 153 #[.agg #[.string a0, v1]] w fun e w' => ∃ u1, e = .returned (.agg #[.string a0, u1]) ∧ attrE.Own (Fresh w w') w' (a0, a1) [.string a0, u1] ∧ Below w.heap.size w w' := by
  have HE : attrE.sz (a0, a1) = a0.size + ((a1.length + szL strE a1)) := rfl
  rw [HE] at hz
  obtain ⟨o1, k1, rfl⟩ := h1.sl
  have z0 : a0.size ≤ 1048576 := by omega
  have CT1 : Hid (∀ W : World, Below w.heap.size w W → Calls Try.prog 129 #[.slice o1 a1.length k1] W fun e w' => ∃ u, e = .returned u ∧ SlOwn strE (Fresh W w') w' a1 u ∧ Below W.heap.size W w') := Lib.hid (fun W b => (copyTexts_any o1 a1 k1 W ((strs_of h1).below b) (fits_str (by omega))).mono fun e w' ⟨⟨v, he, ho⟩, hb⟩ => ⟨v, he, own_texts ho, hb⟩)
  clear h1 hz HE
  go_enter Try.func153, Try.ntmps153
  go_wp2
  refine wp_world (fun W => Below w.heap.size w W ∧ Blk W w.heap.size [.string a0, .slice o1 a1.length k1] ∧ Blk W (w.heap.size + 1) [.string ⟨#[]⟩, .slice none 0 0]) ⟨more' (more' (Below.refl _ _) _) _, (Blk.new _ _ _).alloc _, blk_at _ _ _ (by simp)⟩ ?_
  rintro W0 ⟨B, ta, tr⟩
  have TA := Lib.hid ta; have TR := Lib.hid tr
  have hn : w.heap.size + 1 < W0.heap.size := tr.lt
  clear ta tr
  have SK : Hid (∀ Z' : World, Below W0.heap.size W0 Z' → Z'.cell? ⟨w.heap.size, 0, none⟩ = some (.string a0) ∧ Z'.cell? ⟨w.heap.size, 1, none⟩ = some (.slice o1 a1.length k1)) := Lib.hid (fun Z' h => ⟨(TA.out.below h).cell 0 rfl, (TA.out.below h).cell 1 rfl⟩)
  have BD : Below W0.heap.size W0 W0.drew := (Below.refl _ _).drew
  refine wp_region_held_drew (S := (fun Z' => Z'.cell? ⟨w.heap.size, 0, none⟩ = some (.string a0) ∧ Z'.cell? ⟨w.heap.size, 1, none⟩ = some (.slice o1 a1.length k1))) (by kernel_rfl) ?_ (fun hHeld => ?_)
  · (try dsimp only)
    first | exact SK.out _ (by assumption) | exact SK.out _ BD | exact SK.out _ (more' (by assumption) _) | exact SK.out _ (more' BD _) | exact SX.out _ _
  refine wpAnyH_take (i := 0) (oi := { dst := some 3, op := Op.fieldAddr 97 (Operand.tmp 1) 0, type := 0, pos := "l03_entry.go:112", after := #[], guard := none }) (v := ?_) rfl (by kernel_rfl) (by kernel_rfl) (by kernel_rfl) (fun _ _ _ h => h) (Or.inl ⟨by rfl, ?_⟩) (by assumption) ?_
  rotate_left
  · intro w hSw; (try dsimp only at hSw); go_simp; (try with_reducible rfl)
  (try simp only [Act.put, List.setIfInBounds_toArray, List.set_cons_zero, List.set_cons_succ])
  refine wpAnyH_take (i := 1) (oi := { dst := some 4, op := Op.load 9 (Operand.tmp 3), type := 9, pos := "l03_entry.go:112", after := #[{ on := 0, ground := Ground.data }], guard := none }) (v := ?_) rfl (by kernel_rfl) (by kernel_rfl) (by kernel_rfl) (fun _ _ _ h => h) (Or.inl ⟨by rfl, ?_⟩) (by assumption) ?_
  rotate_left
  · intro w hSw; (try dsimp only at hSw); go_simp; (try with_reducible rfl)
  (try simp only [Act.put, List.setIfInBounds_toArray, List.set_cons_zero, List.set_cons_succ])
  refine wpAnyH_take (i := 4) (oi := { dst := some 7, op := Op.fieldAddr 97 (Operand.tmp 1) 1, type := 0, pos := "l03_entry.go:112", after := #[], guard := none }) (v := ?_) rfl (by kernel_rfl) (by kernel_rfl) (by kernel_rfl) (fun _ _ _ h => h) (Or.inl ⟨by rfl, ?_⟩) (by assumption) ?_
  rotate_left
  · intro w hSw; (try dsimp only at hSw); go_simp; (try with_reducible rfl)
  (try simp only [Act.put, List.setIfInBounds_toArray, List.set_cons_zero, List.set_cons_succ])
  refine wpAnyH_take (i := 5) (oi := { dst := some 8, op := Op.load 29 (Operand.tmp 7), type := 29, pos := "l03_entry.go:112", after := #[{ on := 4, ground := Ground.data }], guard := none }) (v := ?_) rfl (by kernel_rfl) (by kernel_rfl) (by kernel_rfl) (fun _ _ _ h => h) (Or.inl ⟨by rfl, ?_⟩) (by assumption) ?_
  rotate_left
  · intro w hSw; (try dsimp only at hSw); go_simp; (try with_reducible rfl)
  (try simp only [Act.put, List.setIfInBounds_toArray, List.set_cons_zero, List.set_cons_succ])
  refine wpAnyH_ready (rs := [2]) (by kernel_rfl) (by simp) ?_
  refine AllReadyH.cons (o := { dst := some 5, op := Op.buildSlice 29 1 #[(0, Operand.tmp 4)], type := 29, pos := "l03_entry.go:112", after := #[{ on := 1, ground := Ground.data }], guard := none }) rfl (fun K hK => ?_) (AllReadyH.nil)
  go_simp
  clear hHeld
  refine hK.out _ _ ?_ (fun hHeld => ?_)
  · (try dsimp only)
    first | exact SK.out _ (by assumption) | exact SK.out _ BD | exact SK.out _ (more' (by assumption) _) | exact SK.out _ (more' BD _) | exact SX.out _ _
  clear hK K
  (try simp only [Act.put, List.setIfInBounds_toArray, List.set_cons_zero, List.set_cons_succ])
  refine wpAnyH_ready (rs := [3]) (by kernel_rfl) (by simp) ?_
  refine AllReadyH.cons (o := { dst := some 6, op := Op.call { callee := Callee.value (Operand.func 76), args := #[Operand.tmp 5], argTypes := #[29] }, type := 9, pos := "l03_entry.go:112", after := #[{ on := 2, ground := Ground.data }], guard := none }) rfl (fun K hK => ?_) (AllReadyH.nil)
  go_simp
  refine (concat_copy a0 W0.drew (by omega)).mono ?_
  rintro e w1 ⟨rfl, hb⟩
  have D1 : Below W0.heap.size W0 w1 := BD.trans (hb.mono BD.size)
  have b1 : Below w.heap.size w w1 := B.trans (D1.mono B.size)
  have hs1 : W0.heap.size ≤ w1.heap.size := hb.size
  clear hb
  clear hHeld
  refine hK.out _ _ ?_ (fun hHeld => ?_)
  · (try dsimp only)
    first | exact SK.out _ (by assumption) | exact SK.out _ BD | exact SK.out _ (more' (by assumption) _) | exact SK.out _ (more' BD _) | exact SX.out _ _
  clear hK K
  (try simp only [Act.put, List.setIfInBounds_toArray, List.set_cons_zero, List.set_cons_succ])
  refine wpAnyH_ready (rs := [6]) (by kernel_rfl) (by simp) ?_
  refine AllReadyH.cons (o := { dst := some 9, op := Op.call { callee := Callee.value (Operand.func 129), args := #[Operand.tmp 8], argTypes := #[29] }, type := 29, pos := "l03_entry.go:112", after := #[{ on := 5, ground := Ground.data }, { on := 3, ground := Ground.chain }], guard := none }) rfl (fun K hK => ?_) (AllReadyH.nil)
  go_simp
  refine (CT1.out w1 b1).mono ?_
  rintro e w2 ⟨u1, rfl, q1, hb⟩
  have D2 : Below W0.heap.size W0 w2 := D1.trans (hb.mono D1.size)
  have b2 : Below w.heap.size w w2 := B.trans (D2.mono B.size)
  have hs2 : w1.heap.size ≤ w2.heap.size := hb.size
  have Q1 := Lib.hid q1; obtain ⟨p1, e1, rfl⟩ := q1.at.sl; clear q1
  clear hb
  have TX := Lib.hid (TA.out.below D2); have RX := Lib.hid (TR.out.below D2)
  have x0 := RX.out.cell 0 rfl; have f0 := RX.out.soft 0
  have x1 := RX.out.cell 1 rfl; have f1 := RX.out.soft 1
  have SX : Hid (∀ y0 y1 : Value, ((w2.setCell ⟨w.heap.size + 1, 0, none⟩ y0).setCell ⟨w.heap.size + 1, 1, none⟩ y1).cell? ⟨w.heap.size, 0, none⟩ = some (.string a0) ∧ ((w2.setCell ⟨w.heap.size + 1, 0, none⟩ y0).setCell ⟨w.heap.size + 1, 1, none⟩ y1).cell? ⟨w.heap.size, 1, none⟩ = some (.slice o1 a1.length k1)) := Lib.hid (fun y0 y1 => ⟨((TX.out.far (by omega) y0).far (by omega) y1).cell 0 rfl, ((TX.out.far (by omega) y0).far (by omega) y1).cell 1 rfl⟩)
  clear hHeld
  refine hK.out _ _ ?_ (fun hHeld => ?_)
  · (try dsimp only)
    first | exact SK.out _ (by assumption) | exact SK.out _ BD | exact SK.out _ (more' (by assumption) _) | exact SK.out _ (more' BD _) | exact SX.out _ _
  clear hK K
  (try simp only [Act.put, List.setIfInBounds_toArray, List.set_cons_zero, List.set_cons_succ])
  refine wpAnyH_take (i := 7) (oi := { dst := some 10, op := Op.build 97 #[(0, Operand.tmp 6), (1, Operand.tmp 9)], type := 97, pos := "l03_entry.go:112", after := #[{ on := 3, ground := Ground.data }, { on := 6, ground := Ground.data }], guard := none }) (v := ?_) rfl (by kernel_rfl) (by kernel_rfl) (by kernel_rfl) (fun _ _ _ h => h) (Or.inl ⟨by rfl, ?_⟩) (by assumption) ?_
  rotate_left
  · intro w hSw; (try dsimp only at hSw); go_simp; (try with_reducible rfl)
  (try simp only [Act.put, List.setIfInBounds_toArray, List.set_cons_zero, List.set_cons_succ])
  refine wpAnyH_ready (rs := [8]) (by kernel_rfl) (by simp) ?_
  refine AllReadyH.cons (o := { dst := none, op := Op.store 97 (Operand.tmp 2) (Operand.tmp 10), type := 0, pos := "l03_entry.go:112", after := #[{ on := 7, ground := Ground.data }, { on := 6, ground := Ground.chain }, { on := 0, ground := Ground.phase }, { on := 1, ground := Ground.phase }, { on := 2, ground := Ground.phase }, { on := 3, ground := Ground.phase }, { on := 4, ground := Ground.phase }, { on := 5, ground := Ground.phase }, { on := 6, ground := Ground.phase }, { on := 7, ground := Ground.phase }], guard := none }) rfl (fun K hK => ?_) (AllReadyH.nil)
  go_simp
  clear hHeld
  refine hK.out _ _ ?_ (fun hHeld => ?_)
  · (try dsimp only)
    first | exact SK.out _ (by assumption) | exact SK.out _ BD | exact SK.out _ (more' (by assumption) _) | exact SK.out _ (more' BD _) | exact SX.out _ _
  clear hK K
  (try simp only [Act.put, List.setIfInBounds_toArray, List.set_cons_zero, List.set_cons_succ])
  refine wpAnyH_done (by kernel_rfl) ?_ _
  have TE := ((RX.out.set 0 (.string a0)).set 1 (.slice p1 a1.length e1))
  have j0 := TE.cell 0 rfl
  have j1 := TE.cell 1 rfl
  clear TE
  go_wp2
  refine bodyPost_ret (v := .agg #[.string a0, .slice p1 a1.length e1]) (by simp [results, Try.results153, go_sem, j0, j1]) rfl ⟨_, rfl, ?_, ?_⟩
  · have hdr : W0.drew.heap.size = W0.heap.size := rfl
    have g1 := ((Q1.out.frame (Same.set _ (g := w.heap.size + 1) 0 (.string a0) (by intro h; have := h.1; omega))).frame (Same.set _ (g := w.heap.size + 1) 1 (.slice p1 a1.length e1) (by intro h; have := h.1; omega)))
    exact attr_pack a0 a1 _ (Fresh w1 w2) ⟨g1, fun k z => ⟨by have := z.1; omega, by have := z.2; show _ < (World.heap _).size; simp only [setCell_size]; omega⟩, trivial⟩
  · exact ((b2.setCell (p := ⟨w.heap.size + 1, 0, none⟩) (by show w.heap.size ≤ w.heap.size + 1; omega) _).setCell (p := ⟨w.heap.size + 1, 1, none⟩) (by show w.heap.size ≤ w.heap.size + 1; omega) _)
end Go.Proofs.Ytlgafmgohinkbaa
/- The helpers of the laws: copies. -/
namespace Go.Proofs.Ytlgafmgohinkbaa
open Go.RowKit
attribute [local go_sem ↓] Go.wp_at_zero Go.wp_at_succ

theorem Try.infoTAttr : (Try.prog.info? 97).map (fun i => (i.zero, i.size, i.bytes)) = some (some (.agg #[.string ByteArray.empty, .slice none 0 0]), 2, 40) := by kernel_rfl
theorem mkAttr (n : Nat) (hn : n ≤ 1048576) (W : World) : ∃ C : Array Value, C.size = n * 2 ∧
    (Instr.makeSlice 75 (.int .i64 (n : Int)) (.int .i64 (n : Int))).run Try.prog W = .ok (.slice (some ⟨W.heap.size, 0, none⟩) n n) (W.alloc (.cells C 97)) := by
  obtain ⟨i0, hi, hz0, hz1, hz2⟩ := info_parts Try.infoTAttr
  have := run_make (P := Try.prog) W 75 97 i0 _ Try.underlying75 hi hz0 .i64 .i64 (n : Int) (n : Int) (by omega) (by omega) (by rw [hz2]; omega) (by omega)
  rw [hz1] at this
  refine ⟨madeCells (Value.cells (.agg #[.string ByteArray.empty, .slice none 0 0])) (n * 2), size_madeCells _ _, ?_⟩
  simpa using this
set_option maxRecDepth 100000 in
set_option maxHeartbeats 4000000 in
theorem toAttr_at {S : Bs} (a0 : ByteArray) (a1 : (List ByteArray)) (v1 : Value) (w : World) (h1 : SlAt strE S w a1 v1) (hz : attrE.sz (a0, a1) ≤ 1048576) :
    Calls Try.prog 192 #[.agg #[.string a0, v1]] w fun e w' => ∃ u1, e = .returned (.agg #[.string a0, u1]) ∧ attrE.Own (Fresh w w') w' (a0, a1) [.string a0, u1] ∧ Below w.heap.size w w' := by
  have HE : attrE.sz (a0, a1) = a0.size + ((a1.length + szL strE a1)) := rfl
  rw [HE] at hz
  have C1 : Hid (∀ W : World, Below w.heap.size w W → Calls Try.prog 84 #[v1] W fun e w' => ∃ u, e = .returned u ∧ SlOwn strE (Fresh W w') w' a1 u ∧ Below W.heap.size W w') := Lib.hid (fun W b => toStringS_at v1 a1 W (h1.frame (Same.of_below' b)) (by omega))
  obtain ⟨o1, k1, rfl⟩ := h1.sl
  clear hz HE h1
  go_enter Try.func192, Try.ntmps192
  go_wp2_with fail
  refine calls_by (fun W => Below w.heap.size w W ∧ Blk W w.heap.size [.string a0, .slice o1 a1.length k1] ∧ Blk W (w.heap.size + 1) [.string ⟨#[]⟩, .slice none 0 0] ∧ Blk W (w.heap.size + 1 + 1) [.string a0, .slice none 0 0]) ⟨more' (more' (more' (Below.refl _ _) _) _) _, ((Blk.new _ _ _).alloc _).alloc _, (blk_at _ _ _ (by simp)).alloc _, blk_at _ _ _ (by simp)⟩ ?_
  rintro W0 ⟨b0, t0, r0, s0⟩
  have hn : w.heap.size + 1 + 1 < W0.heap.size := s0.lt
  refine (C1.out W0 b0).mono ?_
  rintro e y1 ⟨u1, rfl, q1, hb⟩
  obtain ⟨p1, j1, rfl⟩ := q1.at.sl
  have T := Lib.hid (t0.below hb); have Rr := Lib.hid (r0.below hb); have U := Lib.hid (s0.below hb); have B := Lib.hid (b0.trans (hb.mono b0.size)); have hs1 := hb.size
  have Q1 := Lib.hid q1
  clear t0 r0 s0 b0 hb q1 C1
  have m0 := T.out.cell 0 rfl
  have c0 := U.out.cell 0 rfl
  have f0 := U.out.soft 0
  have m1 := T.out.cell 1 rfl
  have c1 := U.out.cell 1 rfl
  have f1 := U.out.soft 1
  have TE := (((Rr.out.far (R := w.heap.size + 1 + 1) (j := 1) (by omega) (.slice p1 a1.length j1)).set 0 (.string a0)).set 1 (.slice p1 a1.length j1))
  have d0 := Rr.out.cell 0 rfl
  have g0 := Rr.out.soft 0
  have k100 := TE.cell 0 rfl
  have d1 := Rr.out.cell 1 rfl
  have g1 := Rr.out.soft 1
  have k101 := TE.cell 1 rfl
  clear TE
  go_wp2_with fail
  refine bodyPost_ret (v := .agg #[.string a0, .slice p1 a1.length j1]) (by simp [results, Try.results192, go_sem, k100, k101]) rfl ⟨_, rfl, ?_, ?_⟩
  · exact attr_pack a0 a1 _ (Fresh W0 y1) ⟨(((Q1.out.frame (Same.set _ _ _ (by intro h; have := h.1; omega))).frame (Same.set _ _ _ (by intro h; have := h.1; omega))).frame (Same.set _ _ _ (by intro h; have := h.1; omega))), (fun k z => ⟨by have := z.1; omega, by have := z.2; show _ < (World.heap _).size; simp only [setCell_size]; omega⟩), trivial⟩
  · exact (((B.out.setCell (p := ⟨w.heap.size + 1 + 1, 1, none⟩) (by show w.heap.size ≤ w.heap.size + 1 + 1; omega) _).setCell (p := ⟨w.heap.size + 1, 0, none⟩) (by show w.heap.size ≤ w.heap.size + 1; omega) _).setCell (p := ⟨w.heap.size + 1, 1, none⟩) (by show w.heap.size ≤ w.heap.size + 1; omega) _)
set_option maxRecDepth 100000 in
set_option maxHeartbeats 4000000 in
theorem toAttrS_at {S : Bs} (v : Value) (d : List AttrT) (w : World) (hd : SlAt attrE S w d v) (hz : d.length + szL attrE d ≤ 1048576) :
    Calls Try.prog 151 #[v] w fun e w' => ∃ u, e = .returned u ∧ SlOwn attrE (Fresh w w') w' d u ∧ Below w.heap.size w w' := by
  obtain ⟨ao, cap, rfl⟩ := hd.sl
  have HD := Lib.hid hd; clear hd
  have HL := Lib.hid hz
  have hl : d.length ≤ 1048576 := by omega
  clear hz
  obtain ⟨C, hC, hmk⟩ := mkAttr d.length hl w
  have HC := Lib.hid hC; clear hC
  go_enter Try.func151, Try.ntmps151
  go_wp2
  clear hmk
  go_loopw [4] (fun i wr => ∃ k : Nat, k ≤ d.length ∧ i = .int .i64 k ∧ Build attrE wr w.heap.size d.length (d.take k) ∧ Below w.heap.size w wr) (fun i _ => d.length - (intOf i).toNat)
  case atStart => exact ⟨0, Nat.zero_le _, rfl, Build.new _ _ _ _ HC.out, (Below.refl _ _).alloc (Nat.le_refl _) _⟩
  case round =>
    obtain ⟨k, hk, rfl, hR, hbel⟩ := hrel
    have HR := Lib.hid hR; clear hR
    have hsz := hbel.size
    by_cases hlt : k < d.length
    · obtain ⟨b, off, a0, a1, v1, rfl, _, hb0, hx, ⟨hc0, hc1⟩, s1, _⟩ := attr_row (HD.out.frame (Same.of_below' hbel)) hlt
      have HT : Hid (d.take (k + 1) = d.take k ++ [(a0, a1)]) := Lib.hid (by rw [List.take_succ_eq_append_getElem hlt, hx])
      have HK : Hid ((d.take k).length = k) := Lib.hid (by rw [List.length_take]; omega)
      have HZ : Hid (attrE.sz (a0, a1) ≤ 1048576) := Lib.hid (by have h1 := szL_mem attrE (List.getElem_mem hlt); rw [hx] at h1; have := HL.out; omega)
      clear hx
      have HV1 := Lib.hid s1; clear s1
      obtain ⟨o1, k1, rfl⟩ := HV1.out.sl
      go_wp2_with fail
      refine (toAttr_at a0 a1 _ wr HV1.out HZ.out).mono ?_
      rintro e w2 ⟨u1, rfl, hq, hb2⟩
      have HR2 := Lib.hid (HR.out.below hb2)
      have B2 := Lib.hid (hbel.trans (hb2.mono hsz))
      have HQ := Lib.hid hq
      have HB := Lib.hid hb2
      clear hb2 hq hc0 hc1
      have hsl := attr_sl HQ.out rfl
      obtain ⟨p1, l1, j1, rfl⟩ := hsl
      obtain ⟨x0, c0⟩ := HR2.out.cell (k := k) (u := 0) hlt (by decide)
      have c0 : w2.cell? ⟨w.heap.size, k * 2, none⟩ = some x0 := c0
      have f0 := HR2.out.soft (k * 2)
      obtain ⟨x1, c1⟩ := HR2.out.cell (k := k) (u := 1) hlt (by decide)
      have c1 : w2.cell? ⟨w.heap.size, k * 2 + 1, none⟩ = some x1 := c1
      have f1 := HR2.out.soft (k * 2 + 1)
      go_wp2
      go_roundw
      case rel => exact ⟨k + 1, by omega, by go_num, by rw [HT.out]; exact HR.out.row (o := k * 2) (cs := [.string a0, .slice p1 l1 j1]) (by rw [HK.out]; exact hlt) (by rw [HK.out]; rfl) HB.out HQ.out, ((B2.out.setCell (Nat.le_refl _) _).setCell (Nat.le_refl _) _)⟩
      case measure => simp [intOf]; omega
    · have e : d.take k = d := List.take_of_length_le (by omega)
      rw [e] at HR
      clear e
      go_wp2
      go_ret
      exact ⟨_, rfl, HR.out.own, hbel⟩
end Go.Proofs.Ytlgafmgohinkbaa
