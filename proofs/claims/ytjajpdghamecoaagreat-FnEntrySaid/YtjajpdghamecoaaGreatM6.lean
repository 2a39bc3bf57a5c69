/- Merged texts: EntSz, EntCopy, EntCopy2, Open, EntEq, EntOpen, EntRightW, EntHelp, EntA1, EntM2, SortM, Mark, Mark2. -/
import Derived.Test.YtjajpdghamecoaaGreatM3
import Derived.Deep.SlicePairs
import Derived.OpenShut
import Derived.ProofKit
import Derived.SliceStrings
import Derived.Lib.SmallJoins
import Derived.Test.YtjajpdghamecoaaGreatM5
import Derived.Maps.OwnOps
import Derived.Maps.Views
/- The helpers of the laws over entries: sizes. -/
namespace Go.Proofs.YtjajpdghamecoaaGreat
open Go.RowKit
attribute [local go_sem ↓] Go.wp_at_zero Go.wp_at_succ

set_option maxRecDepth 100000 in
set_option maxHeartbeats 1000000 in
theorem szStringS_any (ao : Option Addr) (d : List ByteArray) (cap : Nat) (left : Int) (w : World) (hd : StrsAt w ao d) (hf : LongV d) (h0 : 0 ≤ left) (h1 : left ≤ 1048576) :
    Calls Tryz.prog 37 #[.slice ao d.length cap, .int .i64 left] w fun e w' => e = .returned (.int .i64 (leftR (d.length + sizeV d) left)) ∧ Below w.heap.size w w' := by
  have hl := hf.1
  have HD := Lib.hid hd; have HF := Lib.hid hf; clear hd hf
  by_cases g : (d.length : Int) ≤ left
  · have c1 : ¬ left - (d.length : Int) < 0 := by omega
    go_enter Tryz.func37, Tryz.ntmps37
    go_wp2
    go_loopw [1, 5] (fun t i wr => ∃ k : Nat, k ≤ d.length ∧ i = .int .i64 k ∧ ((d.length + sizeV (d.take k) : Nat) : Int) ≤ left ∧ t = .int .i64 (left - (d.length + sizeV (d.take k) : Nat)) ∧ Below w.heap.size w wr) (fun _ i _ => d.length - (intOf i).toNat)
    case atStart => exact ⟨0, Nat.zero_le _, rfl, by simp [sizeV]; omega, by simp [sizeV], Below.refl _ _⟩
    case round =>
      clear c1
      obtain ⟨k, hk, rfl, hle, rfl, hbel⟩ := hrel
      have hsz := hbel.size
      by_cases hlt : k < d.length
      · obtain ⟨b, off, rfl, hb0, hd1⟩ := HD.out.at hlt
        have hc1 := (hbel.cell (p := ⟨b, off + k, none⟩) hb0).trans hd1
        have hz := HF.out.2 _ (List.getElem_mem hlt)
        unfold maxLen at hz
        have HT := Lib.hid (sizeV_take d k hlt)
        have HTl := Lib.hid (sizeV_le d (k + 1))
        clear hd1
        generalize d[k] = A at *
        generalize hq : d.length + sizeV (d.take k) = q at *
        have Hq := Lib.hid hq; clear hq
        by_cases hfit : ((A.size : Nat) : Int) ≤ left - (q : Int)
        · have c2 : ¬ left - (q : Int) - (A.size : Int) < 0 := by omega
          go_wp2
          go_roundw
          case rel =>
            have e := HT.out
            have e3 := Hq.out
            exact ⟨k + 1, by omega, by go_num, by omega, by rw [e]; congr 1; omega, hbel⟩
          case measure => simp [intOf]; omega
        · have c2 : left - (q : Int) - (A.size : Int) < 0 := by omega
          have HR : Hid (leftR (d.length + sizeV d) left = -1) := Lib.hid (leftR_neg (by
            have := HT.out; have := HTl.out; have := Hq.out; omega))
          go_wp2
          go_ret
          exact ⟨ret_int' (by rw [HR.out]), hbel⟩
      · have HR : Hid (leftR (d.length + sizeV d) left = left - (d.length + sizeV (d.take k) : Nat)) := Lib.hid (by
          rw [List.take_of_length_le (by omega)] at hle ⊢
          exact leftR_pos hle)
        go_wp2
        go_ret
        exact ⟨ret_int' (by rw [HR.out]), hbel⟩
  · have HR : Hid (leftR (d.length + sizeV d) left = -1) := Lib.hid (leftR_neg (by omega))
    have c1 : left - (d.length : Int) < 0 := by omega
    go_enter Tryz.func37, Tryz.ntmps37
    go_wp2
    go_ret
    exact ⟨ret_int' (by rw [HR.out]), Below.refl _ _⟩
set_option maxHeartbeats 400000 in
theorem szAttr_any (A : ByteArray) (vo : Option Addr) (l : List ByteArray) (vc : Nat) (left : Int) (w : World) (hA : A.size ≤ maxLen) (hd : StrsAt w vo l) (hf : LongV l) (h0 : 0 ≤ left) (h1 : left ≤ 1048576) :
    Calls Tryz.prog 117 #[.agg #[.string A, .slice vo l.length vc], .int .i64 left] w fun e w' => e = .returned (.int .i64 (leftR (sizeA (A, l)) left)) ∧ Below w.heap.size w w' := by
  unfold maxLen at hA
  have HD := Lib.hid hd; have HF := Lib.hid hf; clear hd hf
  have HE : Hid (sizeA (A, l) = A.size + (l.length + sizeV l)) := Lib.hid rfl
  by_cases g1 : (A.size : Int) ≤ left
  · have c1 : ¬ left - (A.size : Int) < 0 := by omega
    go_enter Tryz.func117, Tryz.ntmps117
    go_wp2_with fail
    refine (szStringS_any vo l vc (left - (A.size : Int)) _ (HD.out.below ((Below.refl _ _).alloc (Nat.le_refl _) _)) HF.out (by omega) (by omega)).mono ?_
    rintro e w2 ⟨rfl, hb2⟩
    have B2 := Lib.hid (((Below.refl _ w).alloc (Nat.le_refl _) _).trans (hb2.mono (by simp))); clear hb2
    by_cases hfit : ((l.length + sizeV l : Nat) : Int) ≤ left - (A.size : Int)
    · rw [leftR_pos hfit]
      have HR : Hid (leftR (sizeA (A, l)) left = left - (A.size : Int) - ((l.length + sizeV l : Nat) : Int)) := Lib.hid (by rw [leftR_pos (by rw [HE.out]; omega), HE.out]; omega)
      generalize l.length + sizeV l = r at *
      have c2 : ¬ left - (A.size : Int) - (r : Int) < 0 := by omega
      go_wp2
      go_ret
      exact ⟨ret_int' (by rw [HR.out]), B2.out⟩
    · rw [leftR_neg hfit]
      have HR : Hid (leftR (sizeA (A, l)) left = -1) := Lib.hid (leftR_neg (by rw [HE.out]; omega))
      go_wp2
      go_ret
      exact ⟨ret_int' (by rw [HR.out]), B2.out⟩
  · have HR : Hid (leftR (sizeA (A, l)) left = -1) := Lib.hid (leftR_neg (by rw [HE.out]; omega))
    have c1 : left - (A.size : Int) < 0 := by omega
    go_enter Tryz.func117, Tryz.ntmps117
    go_wp2
    go_ret
    exact ⟨ret_int' (by rw [HR.out]), (Below.refl _ _).alloc (Nat.le_refl _) _⟩
set_option maxRecDepth 100000 in
set_option maxHeartbeats 1000000 in
theorem szAttrS_any (ao : Option Addr) (d : List AttrV) (cap : Nat) (left : Int) (w : World) (hd : AttrsAt w ao d) (hf : LongA d) (h0 : 0 ≤ left) (h1 : left ≤ 1048576) :
    Calls Tryz.prog 78 #[.slice ao d.length cap, .int .i64 left] w fun e w' => e = .returned (.int .i64 (leftR (d.length + sizeAs d) left)) ∧ Below w.heap.size w w' := by
  have hl := hf.1
  have HD := Lib.hid hd; have HF := Lib.hid hf; clear hd hf
  by_cases g : (d.length : Int) ≤ left
  · have c1 : ¬ left - (d.length : Int) < 0 := by omega
    go_enter Tryz.func78, Tryz.ntmps78
    go_wp2
    go_loopw [1, 5] (fun t i wr => ∃ k : Nat, k ≤ d.length ∧ i = .int .i64 k ∧ ((d.length + sizeAs (d.take k) : Nat) : Int) ≤ left ∧ t = .int .i64 (left - (d.length + sizeAs (d.take k) : Nat)) ∧ Below w.heap.size w wr) (fun _ i _ => d.length - (intOf i).toNat)
    case atStart => exact ⟨0, Nat.zero_le _, rfl, by simp [sizeAs]; omega, by simp [sizeAs], Below.refl _ _⟩
    case round =>
      clear c1
      obtain ⟨k, hk, rfl, hle, rfl, hbel⟩ := hrel
      have hsz := hbel.size
      by_cases hlt : k < d.length
      · obtain ⟨b, off, vo, vc, rfl, hb0, hc1, hc2, hv⟩ := (HD.out.below hbel).at hlt
        have HV := Lib.hid hv; clear hv
        have hz := HF.out.2 _ (List.getElem_mem hlt)
        have HZ := Lib.hid hz; clear hz
        have HT := Lib.hid (sizeAs_take d k hlt)
        have HTl := Lib.hid (sizeAs_le d (k + 1))
        have HE : Hid (sizeA d[k] = sizeA (d[k].1, d[k].2)) := Lib.hid rfl
        generalize d[k].1 = A at *
        generalize d[k].2 = V at *
        generalize hq : d.length + sizeAs (d.take k) = q at *
        have Hq := Lib.hid hq; clear hq
        go_wp2_with fail
        refine (szAttr_any A vo V vc (left - (q : Int)) wr HZ.out.1 HV.out.1 HZ.out.2 (by omega) (by omega)).mono ?_
        rintro e w2 ⟨rfl, hb2⟩
        have B2 := Lib.hid (hbel.trans (hb2.mono hsz)); clear hb2
        by_cases hfit : ((sizeA (A, V) : Nat) : Int) ≤ left - (q : Int)
        · rw [leftR_pos hfit]
          generalize hr : sizeA (A, V) = r at *
          have Hr := Lib.hid hr; clear hr
          have c2 : ¬ left - (q : Int) - (r : Int) < 0 := by omega
          go_wp2
          go_roundw
          case rel =>
            have e := HT.out
            have e2 := HE.out
            have e3 := Hq.out
            have e4 := Hr.out
            exact ⟨k + 1, by omega, by go_num, by omega, by rw [e]; congr 1; omega, B2.out⟩
          case measure => simp [intOf]; omega
        · rw [leftR_neg hfit]
          have HR : Hid (leftR (d.length + sizeAs d) left = -1) := Lib.hid (leftR_neg (by
            have := HT.out; have := HTl.out; have := HE.out; have := Hq.out; omega))
          go_wp2
          go_ret
          exact ⟨ret_int' (by rw [HR.out]), B2.out⟩
      · have HR : Hid (leftR (d.length + sizeAs d) left = left - (d.length + sizeAs (d.take k) : Nat)) := Lib.hid (by
          rw [List.take_of_length_le (by omega)] at hle ⊢
          exact leftR_pos hle)
        go_wp2
        go_ret
        exact ⟨ret_int' (by rw [HR.out]), hbel⟩
  · have HR : Hid (leftR (d.length + sizeAs d) left = -1) := Lib.hid (leftR_neg (by omega))
    have c1 : left - (d.length : Int) < 0 := by omega
    go_enter Tryz.func78, Tryz.ntmps78
    go_wp2
    go_ret
    exact ⟨ret_int' (by rw [HR.out]), Below.refl _ _⟩
def sizeE (d : RdnL) (l : List AttrV) : Nat := d.length + sizeS d + (l.length + sizeAs l)
set_option maxHeartbeats 400000 in
theorem szEntry_any (ao bo : Option Addr) (d : RdnL) (l : List AttrV) (ca cb : Nat) (left : Int) (w : World) (hd : DnAt w ao d) (hl : AttrsAt w bo l) (hfd : Long d) (hfl : LongA l) (h0 : 0 ≤ left) (h1 : left ≤ 1048576) :
    Calls Tryz.prog 30 #[.agg #[.slice ao d.length ca, .slice bo l.length cb], .int .i64 left] w fun e w' => e = .returned (.int .i64 (leftR (sizeE d l) left)) ∧ Below w.heap.size w w' := by
  have HD := Lib.hid hd; have HF := Lib.hid hfd; have HL := Lib.hid hl; have HG := Lib.hid hfl; clear hd hfd hl hfl
  have HE : Hid (sizeE d l = d.length + sizeS d + (l.length + sizeAs l)) := Lib.hid rfl
  have hb0 : Below w.heap.size w (w.alloc (.cells #[.slice ao d.length ca, .slice bo l.length cb] 52)) := (Below.refl _ _).alloc (Nat.le_refl _) _
  have B0 := Lib.hid hb0; clear hb0
  go_enter Tryz.func30, Tryz.ntmps30
  go_wp2_with fail
  refine (szRdnS_any ao d ca left _ (HD.out.below B0.out) HF.out h0 h1).mono ?_
  rintro e w1 ⟨rfl, hb1⟩
  have B1 := Lib.hid (B0.out.trans (hb1.mono B0.out.size))
  have c0 : w1.cell? ⟨w.heap.size, 1, none⟩ = some (.slice bo l.length cb) := (hb1.cell (p := ⟨w.heap.size, 1, none⟩) (by simp)).trans (by unfold World.cell?; rw [heap_alloc_new]; rfl)
  clear hb1
  by_cases g1 : ((d.length + sizeS d : Nat) : Int) ≤ left
  · rw [leftR_pos g1]
    generalize hq : d.length + sizeS d = q at *
    have Hq := Lib.hid hq; clear hq
    have c1 : ¬ left - (q : Int) < 0 := by omega
    go_wp2_with fail
    refine (szAttrS_any bo l cb (left - (q : Int)) w1 (HL.out.below B1.out) HG.out (by omega) (by omega)).mono ?_
    rintro e w2 ⟨rfl, hb2⟩
    have B2 := Lib.hid (B1.out.trans (hb2.mono B1.out.size)); clear hb2
    by_cases g2 : ((l.length + sizeAs l : Nat) : Int) ≤ left - (q : Int)
    · rw [leftR_pos g2]
      have HR : Hid (leftR (sizeE d l) left = left - (q : Int) - ((l.length + sizeAs l : Nat) : Int)) := Lib.hid (by rw [leftR_pos (by rw [HE.out]; omega), HE.out]; omega)
      generalize l.length + sizeAs l = r at *
      have c2 : ¬ left - (q : Int) - (r : Int) < 0 := by omega
      go_wp2
      go_ret
      exact ⟨ret_int' (by rw [HR.out]), B2.out⟩
    · rw [leftR_neg g2]
      have HR : Hid (leftR (sizeE d l) left = -1) := Lib.hid (leftR_neg (by rw [HE.out]; omega))
      go_wp2
      go_ret
      exact ⟨ret_int' (by rw [HR.out]), B2.out⟩
  · rw [leftR_neg g1]
    have HR : Hid (leftR (sizeE d l) left = -1) := Lib.hid (leftR_neg (by rw [HE.out]; omega))
    go_wp2
    go_ret
    exact ⟨ret_int' (by rw [HR.out]), B1.out⟩
end Go.Proofs.YtjajpdghamecoaaGreat
/- The helpers of the laws over entries: copies. -/
namespace Go.Proofs.YtjajpdghamecoaaGreat
open Go.RowKit
attribute [local go_sem ↓] Go.wp_at_zero Go.wp_at_succ

theorem Tryz.info48 : (Tryz.prog.info? 48).map (fun i => (i.zero, i.size, i.bytes)) = some (some (.agg #[.string ByteArray.empty, .slice none 0 0]), 2, 40) := by kernel_rfl
theorem make47 (n : Nat) (hn : n ≤ 1048576) (W : World) : ∃ C : Array Value, C.size = n ∧
    (Instr.makeSlice 36 (.int .i64 (n : Int)) (.int .i64 (n : Int))).run Tryz.prog W = .ok (.slice (some ⟨W.heap.size, 0, none⟩) n n) (W.alloc (.cells C 9)) := by
  obtain ⟨i0, hi, hz0, hz1, hz2⟩ := info_parts Tryz.info9
  have := run_make (P := Tryz.prog) W 36 9 i0 _ Tryz.underlying36 hi hz0 .i64 .i64 (n : Int) (n : Int) (by omega) (by omega) (by rw [hz2]; omega) (by omega)
  rw [hz1] at this
  refine ⟨madeCells (Value.string ByteArray.empty).cells (n * 1), by rw [size_madeCells]; omega, ?_⟩
  simpa using this
theorem make41 (n : Nat) (hn : n ≤ 1048576) (W : World) : ∃ C : Array Value, C.size = n * 2 ∧
    (Instr.makeSlice 24 (.int .i64 (n : Int)) (.int .i64 (n : Int))).run Tryz.prog W = .ok (.slice (some ⟨W.heap.size, 0, none⟩) n n) (W.alloc (.cells C 48)) := by
  obtain ⟨i0, hi, hz0, hz1, hz2⟩ := info_parts Tryz.info48
  have := run_make (P := Tryz.prog) W 24 48 i0 _ Tryz.underlying24 hi hz0 .i64 .i64 (n : Int) (n : Int) (by omega) (by omega) (by rw [hz2]; omega) (by omega)
  rw [hz1] at this
  refine ⟨madeCells (Value.agg #[.string ByteArray.empty, .slice none 0 0]).cells (n * 2), size_madeCells _ _, ?_⟩
  simpa using this
/-- a block of texts, the first of them known -/
def RowS (w : World) (g n : Nat) (l : List ByteArray) : Prop := ∃ C : Array Value, w.heap[g]? = some (.cells C 9 (0, 0)) ∧ C.size = n ∧ ∀ i (h : i < l.length), C[i]? = some (.string l[i])
theorem RowS.at {w : World} {g n k : Nat} {l : List ByteArray} (h : RowS w g n l) (hk : k < n) : (∃ x, w.cell? ⟨g, k, none⟩ = some x) ∧ w.frozen? ⟨g, k, none⟩ = false := by
  obtain ⟨C, h1, h2, _⟩ := h
  refine ⟨⟨C[k]'(by omega), ?_⟩, ?_⟩
  · rw [cell_of_row w g _ C 9 (0, 0) h1]; exact Array.getElem?_eq_getElem (by omega)
  · simp [World.frozen?, h1]
theorem RowS.set {w : World} {g n k : Nat} {l : List ByteArray} (h : RowS w g n l) (hl : l.length = k) (hk : k < n) (s : ByteArray) : RowS (w.setCell ⟨g, k, none⟩ (.string s)) g n (l ++ [s]) := by
  obtain ⟨C, h1, h2, h3⟩ := h
  refine ⟨_, heap_set _ h1, by simp [h2], fun i hi => ?_⟩
  rw [Array.getElem?_setIfInBounds]
  by_cases e : k = i
  · subst e
    rw [if_pos rfl, if_pos (by omega), List.getElem_append_right (by omega)]
    simp
  · have hi' : i < l.length := by simp at hi; omega
    rw [if_neg e, List.getElem_append_left hi']
    exact h3 i hi'
theorem RowS.strs {w : World} {g n : Nat} {l : List ByteArray} (h : RowS w g n l) : StrsAt w (some ⟨g, 0, none⟩) l := by
  obtain ⟨C, h1, h2, h3⟩ := h
  refine .inr ⟨g, 0, rfl, (Array.getElem?_eq_some_iff.1 h1).1, fun i hi => ?_⟩
  rw [cell_of_row w g _ C 9 (0, 0) h1, Nat.zero_add]
  exact h3 i hi
/-- a copy of texts, in a new block -/
def CopyV (w : World) (l : List ByteArray) (v : Value) (w' : World) : Prop := ∃ g, v = .slice (some ⟨g, 0, none⟩) l.length l.length ∧ w.heap.size ≤ g ∧ g < w'.heap.size ∧ StrsAt w' (some ⟨g, 0, none⟩) l ∧ Below w.heap.size w w'
set_option maxRecDepth 100000 in
set_option maxHeartbeats 1000000 in
theorem toStringS_any (ao : Option Addr) (d : List ByteArray) (cap : Nat) (w : World) (hd : StrsAt w ao d) (hl : d.length ≤ 1048576) :
    Calls Tryz.prog 38 #[.slice ao d.length cap] w fun e w' => ∃ v, e = .returned v ∧ CopyV w d v w' := by
  have HD := Lib.hid hd; clear hd
  obtain ⟨C, hC, hmk⟩ := make47 d.length hl w
  have HC := Lib.hid hC; clear hC
  go_enter Tryz.func38, Tryz.ntmps38
  go_wp2
  clear hmk
  go_loopw [4] (fun i wr => ∃ k : Nat, k ≤ d.length ∧ i = .int .i64 k ∧ RowS wr w.heap.size d.length (d.take k) ∧ Below w.heap.size w wr) (fun i _ => d.length - (intOf i).toNat)
  case atStart => exact ⟨0, Nat.zero_le _, rfl, ⟨C, heap_alloc_new w _, HC.out, fun i h => by simp at h⟩, (Below.refl _ _).alloc (Nat.le_refl _) _⟩
  case round =>
    obtain ⟨k, hk, rfl, hR, hbel⟩ := hrel
    have HR := Lib.hid hR; clear hR
    have hsz := hbel.size
    by_cases hlt : k < d.length
    · obtain ⟨b, off, rfl, hb0, hd1⟩ := HD.out.at hlt
      have hc1 := (hbel.cell (p := ⟨b, off + k, none⟩) hb0).trans hd1
      have HT : Hid (d.take (k + 1) = d.take k ++ [d[k]]) := Lib.hid (List.take_succ_eq_append_getElem hlt)
      have HK : Hid ((d.take k).length = k) := Lib.hid (by rw [List.length_take]; omega)
      clear hd1
      generalize d[k] = A at *
      obtain ⟨⟨x, c0⟩, f0⟩ := HR.out.at hlt
      go_wp2
      go_roundw
      case rel => exact ⟨k + 1, by omega, by go_num, by rw [HT.out]; exact HR.out.set HK.out hlt A, hbel.setCell (Nat.le_refl _) _⟩
      case measure => simp [intOf]; omega
    · have e : d.take k = d := List.take_of_length_le (by omega)
      rw [e] at HR
      clear e
      go_wp2
      go_ret
      exact ⟨_, rfl, w.heap.size, rfl, Nat.le_refl _, (by obtain ⟨C, h1, _⟩ := HR.out; exact (Array.getElem?_eq_some_iff.1 h1).1), HR.out.strs, hbel⟩
theorem StrsAt.set {w : World} {b off R j : Nat} {l : List ByteArray} (h : StrsAt w (some ⟨b, off, none⟩) l) (hne : b ≠ R) (v : Value) : StrsAt (w.setCell ⟨R, j, none⟩ v) (some ⟨b, off, none⟩) l := by
  rcases h with h | ⟨b', off', h1, h2, h3⟩
  · exact .inl h
  · cases h1
    refine .inr ⟨b, off, rfl, by simpa [World.setCell] using h2, fun i hi => ?_⟩
    have e : (w.setCell ⟨R, j, none⟩ v).heap[b]? = w.heap[b]? := Below.heap_setCell _ _ _ _ hne
    have := h3 i hi
    unfold World.cell? at this ⊢
    rw [e]; exact this
theorem calls_any' {P : Program} {f : Nat} {args : Array Value} {w : World} {Q : Ending → World → Prop} (R : World → Prop) (h : R w) (k : ∀ W, R W → Calls P f args W Q) : Calls P f args w Q := k w h
/-- two cells of a block -/
def Two (w : World) (g : Nat) (T : TypeId) (a b : Value) : Prop := w.heap[g]? = some (.cells #[a, b] T (0, 0))
theorem Two.cells {w : World} {g : Nat} {T : TypeId} {a b : Value} (h : Two w g T a b) : (w.cell? ⟨g, 0, none⟩ = some a ∧ w.cell? ⟨g, 1, none⟩ = some b) ∧ (w.frozen? ⟨g, 0, none⟩ = false ∧ w.frozen? ⟨g, 1, none⟩ = false) := by
  unfold Two at h
  refine ⟨⟨?_, ?_⟩, ?_, ?_⟩
  · rw [cell_of_row w g _ _ T (0, 0) h]; rfl
  · rw [cell_of_row w g _ _ T (0, 0) h]; rfl
  · simp [World.frozen?, h]
  · simp [World.frozen?, h]
theorem Two.lt {w : World} {g : Nat} {T : TypeId} {a b : Value} (h : Two w g T a b) : g < w.heap.size := (Array.getElem?_eq_some_iff.1 h).1
theorem Two.below {w w' : World} {g : Nat} {T : TypeId} {a b : Value} (h : Two w g T a b) (hb : Below w.heap.size w w') : Two w' g T a b := (hb.block g h.lt).trans h
theorem Two.set0 {w : World} {g : Nat} {T : TypeId} {a b : Value} (h : Two w g T a b) (v : Value) : Two (w.setCell ⟨g, 0, none⟩ v) g T v b := heap_set v h
theorem Two.set1 {w : World} {g : Nat} {T : TypeId} {a b : Value} (h : Two w g T a b) (v : Value) : Two (w.setCell ⟨g, 1, none⟩ v) g T a v := heap_set v h
theorem Two.far {w : World} {g R j : Nat} {T : TypeId} {a b : Value} (h : Two w g T a b) (hne : g ≠ R) (v : Value) : Two (w.setCell ⟨R, j, none⟩ v) g T a b := (Below.heap_setCell _ _ _ _ hne).trans h
theorem twoNew (w : World) (T : TypeId) (a b : Value) : Two (w.alloc (.cells #[a, b] T)) w.heap.size T a b := heap_alloc_new w _
theorem Two.alloc {w : World} {g : Nat} {T : TypeId} {a b : Value} (h : Two w g T a b) (o : Obj) : Two (w.alloc o) g T a b := (heap_alloc_old w o h.lt).trans h
theorem CopyV.low {w w0 w' : World} {l : List ByteArray} {v : Value} (h : CopyV w l v w') (hb : Below w0.heap.size w0 w) : CopyV w0 l v w' := by
  obtain ⟨g, h1, h2, h3, h4, h5⟩ := h
  exact ⟨g, h1, Nat.le_trans hb.size h2, h3, h4, hb.trans (h5.mono hb.size)⟩
set_option maxRecDepth 100000 in
set_option maxHeartbeats 1000000 in
theorem toAttr_any (A : ByteArray) (vo : Option Addr) (l : List ByteArray) (vc : Nat) (w : World) (hd : StrsAt w vo l) (hl : l.length ≤ 1048576) :
    Calls Tryz.prog 119 #[.agg #[.string A, .slice vo l.length vc]] w fun e w' => ∃ v, e = .returned (.agg #[.string A, v]) ∧ CopyV w l v w' := by
  have HD := Lib.hid hd; clear hd
  go_enter Tryz.func119, Tryz.ntmps119
  go_wp2_with fail
  refine calls_any' (fun W => Below w.heap.size w W ∧ StrsAt W vo l ∧ Two W (w.heap.size + 1) 48 (.string ⟨#[]⟩) (.slice none 0 0) ∧ Two W (w.heap.size + 1 + 1) 48 (.string A) (.slice none 0 0)) ⟨more (more (more (Below.refl _ _) _) _) _, HD.out.below (more (more (more (Below.refl _ _) _) _) _), ?_, ?_⟩ ?_
  · exact Two.alloc (by have := twoNew (w.alloc (Obj.cells #[Value.string A, Value.slice vo l.length vc] 120)) 48 (.string ⟨#[]⟩) (.slice none 0 0); simpa using this) _
  · have := twoNew ((w.alloc (Obj.cells #[Value.string A, Value.slice vo l.length vc] 120)).alloc (Obj.cells #[Value.string ⟨#[]⟩, Value.slice none 0 0] 48)) 48 (.string A) (.slice none 0 0); simpa using this
  rintro W ⟨hbW, hsW, ht1, ht2⟩
  refine (toStringS_any vo l vc W hsW hl).mono ?_
  rintro e w2 ⟨v, rfl, g, rfl, hg1, hg2, hst, hb2⟩
  have T1 := Lib.hid (ht1.below hb2); have T2 := Lib.hid (ht2.below hb2); have ST := Lib.hid hst
  have B2 := Lib.hid (hbW.trans (hb2.mono hbW.size))
  have hn1 : w.heap.size + 1 + 1 < W.heap.size := ht2.lt
  clear ht1 ht2 hst hb2 hsW
  obtain ⟨⟨c0, c1⟩, f0, f1⟩ := T2.out.cells
  obtain ⟨⟨d0, d1⟩, g0, g1⟩ := T1.out.cells
  have TE := ((T1.out.far (R := w.heap.size + 1 + 1) (j := 1) (by omega) (.slice (some ⟨g, 0, none⟩) l.length l.length)).set0 (.string A)).set1 (.slice (some ⟨g, 0, none⟩) l.length l.length)
  obtain ⟨⟨k0, k1⟩, _⟩ := TE.cells
  clear TE
  go_wp2_with fail
  refine bodyPost_ret (v := .agg #[.string A, .slice (some ⟨g, 0, none⟩) l.length l.length]) (by simp [results, Tryz.results119, go_sem, k0, k1]) rfl ⟨_, rfl, g, rfl, ?_, ?_, ?_, ?_⟩
  · have := hbW.size; omega
  · simpa [World.setCell] using hg2
  · exact ((ST.out.set (by omega) _).set (by omega) _).set (by omega) _
  · exact ((B2.out.setCell (p := ⟨w.heap.size + 1 + 1, 1, none⟩) (by show w.heap.size ≤ w.heap.size + 1 + 1; omega) _).setCell (p := ⟨w.heap.size + 1, 0, none⟩) (by show w.heap.size ≤ w.heap.size + 1; omega) _).setCell (p := ⟨w.heap.size + 1, 1, none⟩) (by show w.heap.size ≤ w.heap.size + 1; omega) _
/-- a block of attributes, the first of them known -/
def RowA (w : World) (g n : Nat) (l : List AttrV) : Prop := ∃ C : Array Value, w.heap[g]? = some (.cells C 48 (0, 0)) ∧ C.size = n * 2 ∧
  ∀ i (h : i < l.length), C[i * 2]? = some (.string l[i].1) ∧ ∃ b, C[i * 2 + 1]? = some (.slice (some ⟨b, 0, none⟩) l[i].2.length l[i].2.length) ∧ g < b ∧ StrsAt w (some ⟨b, 0, none⟩) l[i].2
theorem RowA.lt {w : World} {g n : Nat} {l : List AttrV} (h : RowA w g n l) : g < w.heap.size := by obtain ⟨C, h1, _⟩ := h; exact (Array.getElem?_eq_some_iff.1 h1).1
theorem RowA.below {w w' : World} {g n : Nat} {l : List AttrV} (h : RowA w g n l) (hb : Below w.heap.size w w') : RowA w' g n l := by
  obtain ⟨C, h1, h2, h3⟩ := h
  refine ⟨C, (hb.block g (Array.getElem?_eq_some_iff.1 h1).1).trans h1, h2, fun i hi => ?_⟩
  obtain ⟨p, b, q, r, s⟩ := h3 i hi
  exact ⟨p, b, q, r, s.below hb⟩
theorem RowA.at {w : World} {g n k : Nat} {l : List AttrV} (h : RowA w g n l) (hk : k < n) :
    (∃ x y, w.cell? ⟨g, k * 2, none⟩ = some x ∧ w.cell? ⟨g, k * 2 + 1, none⟩ = some y) ∧ w.frozen? ⟨g, k * 2, none⟩ = false ∧ w.frozen? ⟨g, k * 2 + 1, none⟩ = false := by
  obtain ⟨C, h1, h2, _⟩ := h
  refine ⟨⟨C[k * 2]'(by omega), C[k * 2 + 1]'(by omega), ?_, ?_⟩, ?_, ?_⟩
  · rw [cell_of_row w g _ C 48 (0, 0) h1]; exact Array.getElem?_eq_getElem (by omega)
  · rw [cell_of_row w g _ C 48 (0, 0) h1]; exact Array.getElem?_eq_getElem (by omega)
  · simp [World.frozen?, h1]
  · simp [World.frozen?, h1]
theorem RowA.set {w : World} {g n k b : Nat} {l : List AttrV} {A : ByteArray} {V : List ByteArray} (h : RowA w g n l) (hl : l.length = k) (hk : k < n) (hb : g < b) (hs : StrsAt w (some ⟨b, 0, none⟩) V) :
    RowA ((w.setCell ⟨g, k * 2, none⟩ (.string A)).setCell ⟨g, k * 2 + 1, none⟩ (.slice (some ⟨b, 0, none⟩) V.length V.length)) g n (l ++ [(A, V)]) := by
  obtain ⟨C, h1, h2, h3⟩ := h
  refine ⟨_, heap_set _ (heap_set _ h1), by simp [h2], fun i hi => ?_⟩
  rw [Array.getElem?_setIfInBounds, Array.getElem?_setIfInBounds, Array.getElem?_setIfInBounds, Array.getElem?_setIfInBounds]
  by_cases e : i = k
  · subst e
    have hL : (l ++ [(A, V)])[i] = (A, V) := by rw [List.getElem_append_right (by omega)]; simp
    rw [hL, if_neg (by omega), if_pos rfl, if_pos (by omega), if_pos rfl, if_pos (by simp; omega)]
    exact ⟨rfl, b, rfl, hb, (hs.set (by omega) _).set (by omega) _⟩
  · have hi' : i < l.length := by simp at hi; omega
    rw [List.getElem_append_left hi', if_neg (by omega), if_neg (by omega), if_neg (by omega), if_neg (by omega)]
    obtain ⟨p, b', q, r, s⟩ := h3 i hi'
    exact ⟨p, b', q, r, (s.set (by omega) _).set (by omega) _⟩
theorem RowA.attrs {w : World} {g n : Nat} {l : List AttrV} (h : RowA w g n l) : AttrsAt w (some ⟨g, 0, none⟩) l := by
  obtain ⟨C, h1, h2, h3⟩ := h
  refine .inr ⟨g, 0, rfl, (Array.getElem?_eq_some_iff.1 h1).1, fun i hi => ?_⟩
  obtain ⟨p, b, q, r, s⟩ := h3 i hi
  refine ⟨?_, some ⟨b, 0, none⟩, l[i].2.length, ?_, s, Nat.le_refl _, fun e => by cases e⟩
  · rw [cell_of_row w g _ C 48 (0, 0) h1, Nat.zero_add]; exact p
  · rw [cell_of_row w g _ C 48 (0, 0) h1, Nat.zero_add]; exact q
/-- a copy of attributes, in new blocks -/
def CopyA (w : World) (l : List AttrV) (v : Value) (w' : World) : Prop := ∃ g, v = .slice (some ⟨g, 0, none⟩) l.length l.length ∧ w.heap.size ≤ g ∧ RowA w' g l.length l ∧ Below w.heap.size w w'
set_option maxRecDepth 100000 in
set_option maxHeartbeats 1000000 in
theorem toAttrS_any (ao : Option Addr) (d : List AttrV) (cap : Nat) (w : World) (hd : AttrsAt w ao d) (hf : FitsA d) :
    Calls Tryz.prog 80 #[.slice ao d.length cap] w fun e w' => ∃ v, e = .returned v ∧ CopyA w d v w' := by
  have hl := hf.1
  have HD := Lib.hid hd; have HF := Lib.hid hf; clear hd hf
  obtain ⟨C, hC, hmk⟩ := make41 d.length hl w
  have HC := Lib.hid hC; clear hC
  go_enter Tryz.func80, Tryz.ntmps80
  go_wp2
  clear hmk
  go_loopw [4] (fun i wr => ∃ k : Nat, k ≤ d.length ∧ i = .int .i64 k ∧ RowA wr w.heap.size d.length (d.take k) ∧ Below w.heap.size w wr) (fun i _ => d.length - (intOf i).toNat)
  case atStart => exact ⟨0, Nat.zero_le _, rfl, ⟨C, heap_alloc_new w _, HC.out, fun i h => by simp at h⟩, (Below.refl _ _).alloc (Nat.le_refl _) _⟩
  case round =>
    obtain ⟨k, hk, rfl, hR, hbel⟩ := hrel
    have HR := Lib.hid hR; clear hR
    have hsz := hbel.size
    by_cases hlt : k < d.length
    · obtain ⟨b, off, vo, vc, rfl, hb0, hc1, hc2, hv⟩ := (HD.out.below hbel).at hlt
      have HV := Lib.hid hv.1; clear hv
      have hz := (HF.out.at hlt).2.1
      have HT : Hid (d.take (k + 1) = d.take k ++ [(d[k].1, d[k].2)]) := Lib.hid (List.take_succ_eq_append_getElem hlt)
      have HK : Hid ((d.take k).length = k) := Lib.hid (by rw [List.length_take]; omega)
      have hgw : w.heap.size < wr.heap.size := HR.out.lt
      generalize d[k].1 = A at *
      generalize d[k].2 = V at *
      go_wp2_with fail
      refine (toAttr_any A vo V vc wr HV.out hz).mono ?_
      rintro e w2 ⟨v, rfl, g, rfl, hg1, hg2, hst, hb2⟩
      have HR2 := Lib.hid (HR.out.below hb2)
      have B2 := Lib.hid (hbel.trans (hb2.mono hsz))
      have ST := Lib.hid hst
      clear hb2 hc1 hc2 hst
      obtain ⟨⟨x, y, c0, c1⟩, f0, f1⟩ := HR2.out.at hlt
      go_wp2
      go_roundw
      case rel => exact ⟨k + 1, by omega, by go_num, by rw [HT.out]; exact HR2.out.set HK.out hlt (by omega) ST.out, (B2.out.setCell (Nat.le_refl _) _).setCell (Nat.le_refl _) _⟩
      case measure => simp [intOf]; omega
    · have e : d.take k = d := List.take_of_length_le (by omega)
      rw [e] at HR
      clear e
      go_wp2
      go_ret
      exact ⟨_, rfl, w.heap.size, rfl, Nat.le_refl _, HR.out, hbel⟩
end Go.Proofs.YtjajpdghamecoaaGreat
/- The helpers of the laws over entries: copies of entries. -/
namespace Go.Proofs.YtjajpdghamecoaaGreat
open Go.RowKit
attribute [local go_sem ↓] Go.wp_at_zero Go.wp_at_succ

theorem DnAt.set {w : World} {b off R j : Nat} {d : RdnL} (h : DnAt w (some ⟨b, off, none⟩) d) (hne : b ≠ R) (v : Value) : DnAt (w.setCell ⟨R, j, none⟩ v) (some ⟨b, off, none⟩) d := by
  rcases h with h | ⟨b', off', h1, h2, h3⟩
  · exact .inl h
  · cases h1
    refine .inr ⟨b, off, rfl, by simpa [World.setCell] using h2, fun i hi => ?_⟩
    have e : (w.setCell ⟨R, j, none⟩ v).heap[b]? = w.heap[b]? := Below.heap_setCell _ _ _ _ hne
    have := h3 i hi
    unfold World.cell? at this ⊢
    rw [e]; exact this
theorem RowA.far {w : World} {g n R j : Nat} {l : List AttrV} (h : RowA w g n l) (hR : R < g) (v : Value) : RowA (w.setCell ⟨R, j, none⟩ v) g n l := by
  obtain ⟨C, h1, h2, h3⟩ := h
  refine ⟨C, (Below.heap_setCell _ _ _ _ (show g ≠ R by omega)).trans h1, h2, fun i hi => ?_⟩
  obtain ⟨p, b, q, r, s⟩ := h3 i hi
  exact ⟨p, b, q, r, s.set (by omega) _⟩
/-- an entry lies behind two slices -/
def EntAt (w : World) (v : Value) (d : RdnL) (l : List AttrV) : Prop := ∃ ao ca bo cb, v = .agg #[.slice ao d.length ca, .slice bo l.length cb] ∧ DnAt w ao d ∧ AttrsAt w bo l ∧ d.length ≤ ca ∧ l.length ≤ cb
set_option maxRecDepth 100000 in
set_option maxHeartbeats 1000000 in
theorem toEntry_any (ao bo : Option Addr) (d : RdnL) (l : List AttrV) (ca cb : Nat) (w : World) (hd : DnAt w ao d) (hl : AttrsAt w bo l) (hfd : d.length ≤ 1048576) (hfl : FitsA l) :
    Calls Tryz.prog 31 #[.agg #[.slice ao d.length ca, .slice bo l.length cb]] w fun e w' => ∃ v, e = .returned v ∧ EntAt w' v d l ∧ Below w.heap.size w w' := by
  have HD := Lib.hid hd; have HL := Lib.hid hl; have HF := Lib.hid hfl; clear hd hl hfl
  go_enter Tryz.func31, Tryz.ntmps31
  go_wp2_with fail
  refine calls_any' (fun W => Below w.heap.size w W ∧ Two W w.heap.size 52 (.slice ao d.length ca) (.slice bo l.length cb) ∧ Two W (w.heap.size + 1) 26 (.slice none 0 0) (.slice none 0 0) ∧ Two W (w.heap.size + 1 + 1) 26 (.slice none 0 0) (.slice none 0 0)) ⟨more (more (more (Below.refl _ _) _) _) _, ((twoNew w 52 _ _).alloc _).alloc _, ?_, ?_⟩ ?_
  · exact Two.alloc (by have := twoNew (w.alloc (Obj.cells #[.slice ao d.length ca, .slice bo l.length cb] 52)) 26 (.slice none 0 0) (.slice none 0 0); simpa using this) _
  · have := twoNew ((w.alloc (Obj.cells #[.slice ao d.length ca, .slice bo l.length cb] 52)).alloc (Obj.cells #[.slice none 0 0, .slice none 0 0] 26)) 26 (.slice none 0 0) (.slice none 0 0); simpa using this
  rintro W ⟨hbW, ht0, ht1, ht2⟩
  have hn2 : w.heap.size + 1 + 1 < W.heap.size := ht2.lt
  refine (toRdnS_any ao d ca W (HD.out.below hbW) hfd).mono ?_
  rintro e w2 ⟨rfl, ho2, hb2⟩
  have T0 := Lib.hid (ht0.below hb2); have T1 := Lib.hid (ht1.below hb2); have T2 := Lib.hid (ht2.below hb2)
  have X2 := Lib.hid (own_dn ho2)
  have B2 := Lib.hid (hbW.trans (hb2.mono hbW.size))
  have hsz2 := hb2.size
  clear ht0 ht1 ht2 ho2 hb2
  generalize W.heap.size = G at *
  clear hbW
  obtain ⟨⟨p0, p1⟩, _⟩ := T0.out.cells
  obtain ⟨⟨c0, c1⟩, f0, f1⟩ := T2.out.cells
  go_wp2_with fail
  refine calls_any' (fun W => Below w.heap.size w W ∧ DnAt W (some ⟨G, 0, none⟩) d ∧ Two W (w.heap.size + 1) 26 (.slice none 0 0) (.slice none 0 0) ∧ Two W (w.heap.size + 1 + 1) 26 (.slice (some ⟨G, 0, none⟩) d.length d.length) (.slice none 0 0)) ⟨B2.out.setCell (p := ⟨w.heap.size + 1 + 1, 0, none⟩) (by show w.heap.size ≤ w.heap.size + 1 + 1; omega) _, X2.out.set (by omega) _, T1.out.far (by omega) _, T2.out.set0 _⟩ ?_
  clear T0 T1 T2 X2 B2 p0 p1 c0 c1 f0 f1 hsz2
  rintro V ⟨hbV, hxV, ht1, ht2⟩
  have hnV : w.heap.size + 1 + 1 < V.heap.size := ht2.lt
  refine (toAttrS_any bo l cb V (HL.out.below hbV) HF.out).mono ?_
  rintro e w3 ⟨v, rfl, g, rfl, hg1, hra, hb3⟩
  have T1 := Lib.hid (ht1.below hb3); have T2 := Lib.hid (ht2.below hb3); have X3 := Lib.hid (hxV.below hb3); have RA := Lib.hid hra
  have B3 := Lib.hid (hbV.trans (hb3.mono hbV.size))
  clear ht1 ht2 hxV hra hb3 hbV
  obtain ⟨⟨c0, c1⟩, f0, f1⟩ := T2.out.cells
  obtain ⟨⟨d0, d1⟩, g0, g1⟩ := T1.out.cells
  have TE := ((T1.out.far (R := w.heap.size + 1 + 1) (j := 1) (by omega) (.slice (some ⟨g, 0, none⟩) l.length l.length)).set0 (.slice (some ⟨G, 0, none⟩) d.length d.length)).set1 (.slice (some ⟨g, 0, none⟩) l.length l.length)
  obtain ⟨⟨k0, k1⟩, _⟩ := TE.cells
  clear TE
  go_wp2_with fail
  refine bodyPost_ret (v := .agg #[.slice (some ⟨G, 0, none⟩) d.length d.length, .slice (some ⟨g, 0, none⟩) l.length l.length]) (by simp [results, Tryz.results31, go_sem, k0, k1]) rfl ⟨_, rfl, ⟨_, _, _, _, rfl, ?_, ?_, Nat.le_refl _, Nat.le_refl _⟩, ?_⟩
  · exact ((X3.out.set (by omega) _).set (by omega) _).set (by omega) _
  · exact (((RA.out.far (by omega) _).far (by omega) _).far (by omega) _).attrs
  · exact ((B3.out.setCell (p := ⟨w.heap.size + 1 + 1, 1, none⟩) (by show w.heap.size ≤ w.heap.size + 1 + 1; omega) _).setCell (p := ⟨w.heap.size + 1, 0, none⟩) (by show w.heap.size ≤ w.heap.size + 1; omega) _).setCell (p := ⟨w.heap.size + 1, 1, none⟩) (by show w.heap.size ≤ w.heap.size + 1; omega) _
end Go.Proofs.YtjajpdghamecoaaGreat
/- Arguments that are names: where they lie. -/
namespace Go.Proofs.YtjajpdghamecoaaGreat
open Go.RowKit Go.ChangeShapes Go.WideShapes Go.Deep

theorem Tryz.struct118 : ∃ f0 f1 : Field, Tryz.prog.underlying 118 = some (.struct #[f0, f1]) ∧ f0.offset = 0 ∧ f1.offset = 1 ∧ Tryz.prog.underlying f0.type = some .string ∧ Tryz.prog.underlying f1.type = some .string ∧ Tryz.prog.cellsOf f0.type = 1 ∧ Tryz.prog.cellsOf f1.type = 1 := by
  refine ⟨_, _, Tryz.underlying118, ?_, ?_, ?_, ?_, ?_, ?_⟩
  all_goals kernel_rfl
theorem Tryz.cells118 : Tryz.prog.cellsOf 118 = 2 := by kernel_rfl
section
variable {H : Type} {enc : TypeId × Value → H} {w : World} {base : Nat} {spare : Nat → Bool} {held : Bool}
theorem open_dn {fuel : Nat} {ao : Option Addr} {len cap : Nat} {x : DataW H × List MemPlace} (h : DataW.trod enc Tryz.prog w base spare held fuel 49 [.slice ao len cap] = some x) :
    ∃ d : RdnL, len = d.length ∧ DnAt w ao d ∧ Long d ∧ len ≤ cap ∧ (ao = none → cap = 0) := by
  obtain ⟨f0, f1, hst, o0, o1, u0, u1, c0, c1⟩ := Tryz.struct118
  rcases open_slice_pairs Tryz.underlying49 hst Tryz.cells118 o0 o1 c0 c1 h with ⟨hcs, _⟩ | ⟨a, l, c, m, n, V0, V1, D0, D1, P0, P1, hcs, hb, hl, hm, hmm, _, hx⟩
  · simp at hcs
    obtain ⟨rfl, rfl, rfl⟩ := hcs
    exact ⟨[], rfl, .inl rfl, ⟨by simp, by simp⟩, Nat.le_refl _, fun _ => rfl⟩
  · simp at hcs
    obtain ⟨rfl, rfl, rfl⟩ := hcs
    have hle : len ≤ m := by rw [hmm]; split <;> omega
    have hs : ∀ i, i < len → ∃ s t : ByteArray, V0 i = .string s ∧ V1 i = .string t ∧ s.size ≤ maxLen ∧ t.size ≤ maxLen := by
      intro i hi
      obtain ⟨_, _, h1, h2⟩ := hx i (by omega)
      obtain ⟨s, e1, _, z1⟩ := DataW.trod_string u0 h1
      obtain ⟨t, e2, _, z2⟩ := DataW.trod_string u1 h2
      simp at e1 e2
      exact ⟨s, t, e1, e2, z1, z2⟩
    refine ⟨(List.range len).map fun i => (strOf (V0 i), strOf (V1 i)), by simp, ?_, ⟨by simp; unfold maxLen at hm; omega, ?_⟩, hl, fun h => by cases h⟩
    · by_cases h0 : len = 0
      · subst h0; exact .inl rfl
      · obtain ⟨b, off, spot⟩ := a
        have hspot : spot = none := by
          have := (hx 0 (by omega)).1
          simpa [Addr.add] using World.cell?_spot this
        subst hspot
        refine .inr ⟨b, off, rfl, ?_, fun i hi => ?_⟩
        · have := World.block_lt_of_cell? w _ (hx 0 (by omega)).1
          simpa [Addr.add] using this
        · have hi' : i < len := by simpa using hi
          obtain ⟨s, t, e1, e2, _, _⟩ := hs i hi'
          obtain ⟨h1, h2, _, _⟩ := hx i (by omega)
          rw [Go.WideShapes.add_plain] at h1 h2
          rw [List.getElem_map, List.getElem_range, e1, e2]
          rw [e1] at h1
          rw [e2] at h2
          exact ⟨h1, h2⟩
    · intro r hr
      obtain ⟨i, hi, rfl⟩ := List.mem_map.1 hr
      obtain ⟨s, t, e1, e2, z1, z2⟩ := hs i (by simpa using hi)
      rw [e1, e2]
      exact ⟨z1, z2⟩
end
end Go.Proofs.YtjajpdghamecoaaGreat
/- The helpers of the laws over entries: comparisons; arguments that are entries. -/
namespace Go.Proofs.YtjajpdghamecoaaGreat
open Go.RowKit
attribute [local go_sem ↓] Go.wp_at_zero Go.wp_at_succ

set_option maxRecDepth 100000 in
set_option maxHeartbeats 1000000 in
theorem eqStringS_same (ao bo : Option Addr) (d : List ByteArray) (ca cb : Nat) (w : World) (hda : StrsAt w ao d) (hdb : StrsAt w bo d) (hl : d.length ≤ 1048576) :
    Calls Tryz.prog 39 #[.slice ao d.length ca, .slice bo d.length cb] w fun e w' => e = .returned (.bool true) ∧ Below w.heap.size w w' := by
  have HA := Lib.hid hda; have HB := Lib.hid hdb; clear hda hdb
  go_enter Tryz.func39, Tryz.ntmps39
  go_wp2
  go_loopw [5] (fun i wr => ∃ k : Nat, k ≤ d.length ∧ i = .int .i64 k ∧ Below w.heap.size w wr) (fun i _ => d.length - (intOf i).toNat)
  case atStart => exact ⟨0, Nat.zero_le _, rfl, Below.refl _ _⟩
  case round =>
    obtain ⟨k, hk, rfl, hbel⟩ := hrel
    have hsz := hbel.size
    by_cases hlt : k < d.length
    · obtain ⟨p, off, rfl, hp0, hd1⟩ := HA.out.at hlt
      obtain ⟨q, off', rfl, hq0, he1⟩ := HB.out.at hlt
      generalize d[k] = A at *
      have c1 := (hbel.cell (p := ⟨p, off + k, none⟩) hp0).trans hd1
      have c2 := (hbel.cell (p := ⟨q, off' + k, none⟩) hq0).trans he1
      have hkk : (A.toList == A.toList) = true := by simp
      clear hd1 he1
      have g1 : (0 : Int) ≤ (k : Int) := by omega
      have g2 : (k : Int) < (d.length : Int) := by omega
      have hbd := hbel.drew
      have c1' : wr.drew.cell? ⟨p, off + k, none⟩ = some (.string A) := c1
      have c2' : wr.drew.cell? ⟨q, off' + k, none⟩ = some (.string A) := c2
      go_wp2_with fail
      go_region_held3 (fun W => Below w.heap.size w W ∧ W.cell? ⟨p, off + k, none⟩ = some (.string A) ∧ W.cell? ⟨q, off' + k, none⟩ = some (.string A))
        (first | exact ⟨hbel, c1, c2⟩ | exact ⟨hbd, c1', c2'⟩)
        (fail "none")
      all_goals
        go_wp2
        go_roundw
        case rel => exact ⟨k + 1, by omega, by go_num, by first | exact hbel | exact hbd⟩
        case measure => simp [intOf]; omega
    · go_wp2
      go_ret
      exact ⟨rfl, hbel⟩
theorem eqStringS_from (w0 : World) (ao bo : Option Addr) (d : List ByteArray) (ca cb : Nat) (w : World) (hB : Below w0.heap.size w0 w) (hda : StrsAt w ao d) (hdb : StrsAt w bo d) (hl : d.length ≤ 1048576) :
    Calls Tryz.prog 39 #[.slice ao d.length ca, .slice bo d.length cb] w fun e w' => e = .returned (.bool true) ∧ Below w0.heap.size w0 w' :=
  (eqStringS_same ao bo d ca cb w hda hdb hl).mono fun _ _ h => ⟨h.1, hB.trans (h.2.mono hB.size)⟩
set_option maxRecDepth 100000 in
set_option maxHeartbeats 1000000 in
theorem eqAttr_same (w0 : World) (A : ByteArray) (vo uo : Option Addr) (l : List ByteArray) (vc uc : Nat) (w : World) (hB : Below w0.heap.size w0 w) (hv : StrsAt w0 vo l) (hu : StrsAt w0 uo l) (hl : l.length ≤ 1048576) :
    Calls Tryz.prog 121 #[.agg #[.string A, .slice vo l.length vc], .agg #[.string A, .slice uo l.length uc]] w fun e w' => e = .returned (.bool true) ∧ Below w0.heap.size w0 w' := by
  have HV := Lib.hid hv; have HU := Lib.hid hu; have HB := Lib.hid hB; clear hv hu hB
  have hkk : (A.toList == A.toList) = true := by simp
  go_enter Tryz.func121, Tryz.ntmps121
  go_wp2_with fail
  have hb1 := more (more HB.out (.cells #[.string A, .slice vo l.length vc] 48)) (.cells #[.string A, .slice uo l.length uc] 48)
  refine (eqStringS_from w0 vo uo l vc uc _ hb1 (HV.out.below hb1) (HU.out.below hb1) hl).mono ?_
  rintro e w2 ⟨rfl, hb2⟩
  clear hb1
  go_wp2
  go_ret
  exact ⟨rfl, hb2⟩
set_option maxRecDepth 100000 in
set_option maxHeartbeats 1000000 in
theorem eqAttrS_same (ao bo : Option Addr) (d : List AttrV) (ca cb : Nat) (w : World) (hda : AttrsAt w ao d) (hdb : AttrsAt w bo d) (hf : FitsA d) :
    Calls Tryz.prog 82 #[.slice ao d.length ca, .slice bo d.length cb] w fun e w' => e = .returned (.bool true) ∧ Below w.heap.size w w' := by
  have hl := hf.1
  have HA := Lib.hid hda; have HB := Lib.hid hdb; have HF := Lib.hid hf; clear hda hdb hf
  go_enter Tryz.func82, Tryz.ntmps82
  go_wp2
  go_loopw [5] (fun i wr => ∃ k : Nat, k ≤ d.length ∧ i = .int .i64 k ∧ Below w.heap.size w wr) (fun i _ => d.length - (intOf i).toNat)
  case atStart => exact ⟨0, Nat.zero_le _, rfl, Below.refl _ _⟩
  case round =>
    obtain ⟨k, hk, rfl, hbel⟩ := hrel
    have hsz := hbel.size
    by_cases hlt : k < d.length
    · obtain ⟨p, off, vo, vc, rfl, hp0, hd1, hd2, hv⟩ := HA.out.at hlt
      obtain ⟨q, off', uo, uc, rfl, hq0, he1, he2, hu⟩ := HB.out.at hlt
      have hz := (HF.out.at hlt).2.1
      have HV := Lib.hid hv.1; have HU := Lib.hid hu.1; clear hv hu
      generalize d[k].1 = A at *
      generalize d[k].2 = V at *
      have SK : Hid (∀ W : World, Below w.heap.size w W → (Below w.heap.size w W ∧ W.cell? ⟨p, off + k * 2, none⟩ = some (.string A) ∧ W.cell? ⟨p, off + k * 2 + 1, none⟩ = some (.slice vo V.length vc) ∧ W.cell? ⟨q, off' + k * 2, none⟩ = some (.string A) ∧ W.cell? ⟨q, off' + k * 2 + 1, none⟩ = some (.slice uo V.length uc))) :=
        Lib.hid (fun W h => ⟨h, (h.cell (p := ⟨p, _, none⟩) hp0).trans hd1, (h.cell (p := ⟨p, _, none⟩) hp0).trans hd2, (h.cell (p := ⟨q, _, none⟩) hq0).trans he1, (h.cell (p := ⟨q, _, none⟩) hq0).trans he2⟩)
      have hbd := hbel.drew
      clear hd1 hd2 he1 he2
      have g1 : (0 : Int) ≤ (k : Int) := by omega
      have g2 : (k : Int) < (d.length : Int) := by omega
      go_wp2_with fail
      go_region_held3 (fun W => Below w.heap.size w W ∧ W.cell? ⟨p, off + k * 2, none⟩ = some (.string A) ∧ W.cell? ⟨p, off + k * 2 + 1, none⟩ = some (.slice vo V.length vc) ∧ W.cell? ⟨q, off' + k * 2, none⟩ = some (.string A) ∧ W.cell? ⟨q, off' + k * 2 + 1, none⟩ = some (.slice uo V.length uc))
        (exact SK.out _ (by assumption))
        (first | (go_at_call 121; refine (eqAttr_same w _ _ _ _ _ _ _ (by assumption) HV.out HU.out hz).mono ?_; rintro e w2 ⟨rfl, hb2⟩) | (fail "none"))
      all_goals
        go_wp2
        go_roundw
        case rel => exact ⟨k + 1, by omega, by go_num, hb2⟩
        case measure => simp [intOf]; omega
    · go_wp2
      go_ret
      exact ⟨rfl, hbel⟩
set_option maxRecDepth 100000 in
set_option maxHeartbeats 1000000 in
theorem eqEntry_at (ao bo xo yo : Option Addr) (d : RdnL) (l : List AttrV) (ca cb cx cy : Nat) (w : World) (hv1 : DnAt w ao d) (hv2 : AttrsAt w bo l) (hu1 : DnAt w xo d) (hu2 : AttrsAt w yo l) (hd : d.length ≤ 1048576) (hf : FitsA l) :
    Calls Tryz.prog 33 #[.agg #[.slice ao d.length ca, .slice bo l.length cb], .agg #[.slice xo d.length cx, .slice yo l.length cy]] w fun e w' => e = .returned (.bool true) ∧ Below w.heap.size w w' := by
  have HV1 := Lib.hid hv1; have HV2 := Lib.hid hv2; have HU1 := Lib.hid hu1; have HU2 := Lib.hid hu2; have HF := Lib.hid hf
  clear hv1 hv2 hu1 hu2 hf
  go_enter Tryz.func33, Tryz.ntmps33
  go_wp2_with fail
  refine calls_any' (fun W => Below w.heap.size w W ∧ Two W w.heap.size 26 (.slice ao d.length ca) (.slice bo l.length cb) ∧ Two W (w.heap.size + 1) 26 (.slice xo d.length cx) (.slice yo l.length cy)) ⟨more (more (Below.refl _ _) _) _, (twoNew w 26 _ _).alloc _, (by have := twoNew (w.alloc (Obj.cells #[.slice ao d.length ca, .slice bo l.length cb] 26)) 26 (.slice xo d.length cx) (.slice yo l.length cy); simpa using this)⟩ ?_
  rintro W ⟨hbW, t0, t1⟩
  refine (eqRdnS_same ao xo d ca cx W (HV1.out.below hbW) (HU1.out.below hbW) hd).mono ?_
  rintro e w2 ⟨rfl, hb2⟩
  have B2 := Lib.hid (hbW.trans (hb2.mono hbW.size))
  obtain ⟨⟨c0, c1⟩, _⟩ := (t0.below hb2).cells
  obtain ⟨⟨d0, d1⟩, _⟩ := (t1.below hb2).cells
  clear hbW t0 t1 hb2
  go_wp2_with fail
  refine (eqAttrS_same bo yo l cb cy w2 (HV2.out.below B2.out) (HU2.out.below B2.out) HF.out).mono ?_
  rintro e w3 ⟨rfl, hb3⟩
  have B3 := Lib.hid (B2.out.trans (hb3.mono B2.out.size))
  clear hb3
  go_wp2
  go_ret
  exact ⟨rfl, B3.out⟩
theorem eqEntry_same (v u : Value) (d : RdnL) (l : List AttrV) (w : World) (hv : EntAt w v d l) (hu : EntAt w u d l) (hd : d.length ≤ 1048576) (hf : FitsA l) :
    Calls Tryz.prog 33 #[v, u] w fun e w' => e = .returned (.bool true) ∧ Below w.heap.size w w' := by
  obtain ⟨ao, ca, bo, cb, rfl, hv1, hv2, _, _⟩ := hv
  obtain ⟨xo, cx, yo, cy, rfl, hu1, hu2, _, _⟩ := hu
  exact eqEntry_at ao bo xo yo d l ca cb cx cy w hv1 hv2 hu1 hu2 hd hf
end Go.Proofs.YtjajpdghamecoaaGreat
/- Arguments that are entries: where they lie. -/
namespace Go.Proofs.YtjajpdghamecoaaGreat
open Go.RowKit Go.ChangeShapes Go.WideShapes Go.Joins Go.Deep

theorem list_of {α : Type} (Q : Nat → α → Prop) (n : Nat) (h : ∀ i, i < n → ∃ a, Q i a) : ∃ l : List α, l.length = n ∧ ∀ i (hi : i < l.length), Q i l[i] := by
  induction n with
  | zero => exact ⟨[], rfl, fun i hi => by simp at hi⟩
  | succ n ih =>
    obtain ⟨l, hl, hq⟩ := ih fun i hi => h i (by omega)
    obtain ⟨a, ha⟩ := h n (by omega)
    refine ⟨l ++ [a], by simp [hl], fun i hi => ?_⟩
    by_cases e : i < l.length
    · rw [List.getElem_append_left e]; exact hq i e
    · have : i = n := by simp at hi; omega
      subst this
      rw [List.getElem_append_right (by omega)]
      simpa using ha
theorem Tryz.cells9 : Tryz.prog.cellsOf 9 = 1 := by kernel_rfl
theorem Tryz.struct120 : ∃ f0 f1 : Field, Tryz.prog.underlying 120 = some (.struct #[f0, f1]) ∧ f0.offset = 0 ∧ f1.offset = 1 ∧ Tryz.prog.underlying f0.type = some .string ∧ Tryz.prog.underlying f1.type = some (.slice 9) ∧ Tryz.prog.cellsOf f0.type = 1 ∧ Tryz.prog.cellsOf f1.type = 1 := by
  refine ⟨_, _, Tryz.underlying120, ?_, ?_, ?_, ?_, ?_, ?_⟩
  all_goals kernel_rfl
theorem Tryz.cells120 : Tryz.prog.cellsOf 120 = 2 := by kernel_rfl
theorem Tryz.cells52 : Tryz.prog.cellsOf 52 = 2 := by kernel_rfl
section
variable {H : Type} {enc : TypeId × Value → H} {w : World} {base : Nat} {spare : Nat → Bool} {held : Bool}
theorem open_vals {t : TypeId} {fuel : Nat} {v : Value} {x : DataW H × List MemPlace} (ht : Tryz.prog.underlying t = some (.slice 9)) (h : DataW.trod enc Tryz.prog w base spare held fuel t [v] = some x) :
    ∃ vo vc, ∃ l : List ByteArray, v = .slice vo l.length vc ∧ ValsAt w vo vc l ∧ LongV l := by
  rcases open_strings ht Tryz.underlying9 Tryz.cells9 h with ⟨hcs, _⟩ | ⟨a, len, cap, ss, hcs, hb, hl, hm, hlen, _, hc, hs⟩
  · simp at hcs
    subst hcs
    exact ⟨none, 0, [], rfl, ⟨.inl rfl, Nat.le_refl _, fun _ => rfl⟩, by simp, by simp⟩
  · simp at hcs
    subst hcs
    have hle : len ≤ ss.length := by rw [hlen]; split <;> omega
    have htl : (ss.take len).length = len := by rw [List.length_take]; omega
    refine ⟨some a, cap, ss.take len, by rw [htl], ⟨?_, by omega, fun e => by cases e⟩, by unfold maxLen at hm; omega, fun s hs' => hs s (List.mem_of_mem_take hs')⟩
    by_cases h0 : len = 0
    · left; exact List.length_eq_zero_iff.1 (by omega)
    · obtain ⟨b, off, spot⟩ := a
      have hspot : spot = none := by
        have := hc 0 (by omega)
        simpa [Addr.add] using World.cell?_spot this
      subst hspot
      refine .inr ⟨b, off, rfl, ?_, fun i hi => ?_⟩
      · have := World.block_lt_of_cell? w _ (hc 0 (by omega))
        simpa [Addr.add] using this
      · have := hc i (by omega)
        rw [Go.WideShapes.add_plain] at this
        have hi2 : i < ss.length := by omega
        rw [this, List.getElem_take, List.getD_eq_getElem?_getD, List.getElem?_eq_getElem hi2]
        rfl
theorem open_attrs {fuel : Nat} {ao : Option Addr} {len cap : Nat} {x : DataW H × List MemPlace} (h : DataW.trod enc Tryz.prog w base spare held fuel 50 [.slice ao len cap] = some x) :
    ∃ l : List AttrV, len = l.length ∧ AttrsAt w ao l ∧ LongA l ∧ len ≤ cap ∧ (ao = none → cap = 0) := by
  obtain ⟨f0, f1, hst, o0, o1, u0, u1, c0, c1⟩ := Tryz.struct120
  rcases open_slice_pairs Tryz.underlying50 hst Tryz.cells120 o0 o1 c0 c1 h with ⟨hcs, _⟩ | ⟨a, l, c, m, n, V0, V1, D0, D1, P0, P1, hcs, hb, hl, hm, hmm, _, hx⟩
  · simp at hcs
    obtain ⟨rfl, rfl, rfl⟩ := hcs
    exact ⟨[], rfl, .inl rfl, ⟨by simp, by simp⟩, Nat.le_refl _, fun _ => rfl⟩
  · simp at hcs
    obtain ⟨rfl, rfl, rfl⟩ := hcs
    have hle : len ≤ m := by rw [hmm]; split <;> omega
    obtain ⟨L, hL, hq⟩ := list_of (fun i (a : AttrV) => V0 i = .string a.1 ∧ (∃ vo vc, V1 i = .slice vo a.2.length vc ∧ ValsAt w vo vc a.2) ∧ a.1.size ≤ maxLen ∧ LongV a.2) len (by
      intro i hi
      obtain ⟨_, _, h1, h2⟩ := hx i (by omega)
      obtain ⟨s, e1, _, z1⟩ := DataW.trod_string u0 h1
      obtain ⟨vo, vc, l, e2, e3, z2⟩ := open_vals u1 h2
      simp at e1
      exact ⟨(s, l), e1, ⟨vo, vc, e2, e3⟩, z1, z2⟩)
    refine ⟨L, hL.symm, ?_, ⟨by unfold maxLen at hm; omega, ?_⟩, hl, fun h => by cases h⟩
    · by_cases h0 : len = 0
      · left; exact List.length_eq_zero_iff.1 (by omega)
      · obtain ⟨b, off, spot⟩ := a
        have hspot : spot = none := by
          have := (hx 0 (by omega)).1
          simpa [Addr.add] using World.cell?_spot this
        subst hspot
        refine .inr ⟨b, off, rfl, ?_, fun i hi => ?_⟩
        · have := World.block_lt_of_cell? w _ (hx 0 (by omega)).1
          simpa [Addr.add] using this
        · obtain ⟨e1, ⟨vo, vc, e2, e3⟩, _, _⟩ := hq i hi
          obtain ⟨h1, h2, _, _⟩ := hx i (by omega)
          rw [Go.WideShapes.add_plain] at h1 h2
          rw [e1] at h1
          rw [e2] at h2
          exact ⟨h1, vo, vc, h2, e3⟩
    · intro r hr
      obtain ⟨i, hi, rfl⟩ := List.getElem_of_mem hr
      obtain ⟨_, _, z1, z2⟩ := hq i hi
      exact ⟨z1, z2⟩
theorem slice_of {t e : TypeId} {fuel : Nat} {v : Value} {x : DataW H × List MemPlace} (ht : Tryz.prog.underlying t = some (.slice e)) (h : DataW.trod enc Tryz.prog w base spare held fuel t [v] = some x) : ∃ ao len cap, v = .slice ao len cap := by
  rcases DataW.trod_slice ht h with ⟨h0, _⟩ | ⟨a, len, cap, elems, rest, n, _, h0, _⟩
  · simp at h0; exact ⟨_, _, _, h0⟩
  · simp at h0; exact ⟨_, _, _, h0⟩
set_option maxRecDepth 100000 in
theorem open_entry {r : Reach} {b0 : Nat} {v : Value} {x : DataW H} {p : List MemPlace} (hv : Value.okWide Tryz.prog w r b0 52 v) (h : DataW.Trod enc Tryz.prog w base spare held 52 v x p) :
    ∃ ao ca bo cb, ∃ (d : RdnL) (l : List AttrV), v = .agg #[.slice ao d.length ca, .slice bo l.length cb] ∧ DnAt w ao d ∧ Long d ∧ AttrsAt w bo l ∧ LongA l := by
  obtain ⟨c0, c1, y0, y1, m, rfl, _, _, hy0, hy1⟩ := open_agg2 Tryz.underlying52 (by kernel_rfl) Tryz.cells52 hv h
  obtain ⟨ao, n0, ca, rfl⟩ := slice_of Tryz.underlying49 hy0
  obtain ⟨bo, n1, cb, rfl⟩ := slice_of Tryz.underlying50 hy1
  obtain ⟨d, rfl, h1, h2, _, _⟩ := open_dn hy0
  obtain ⟨l, rfl, h3, h4, _, _⟩ := open_attrs hy1
  exact ⟨ao, ca, bo, cb, d, l, rfl, h1, h2, h3, h4⟩
end
end Go.Proofs.YtjajpdghamecoaaGreat
/- The law FnExactEntryRight: its walk. -/
namespace Go.Proofs.YtjajpdghamecoaaGreat
open Go.RowKit
attribute [local go_sem ↓] Go.wp_at_zero Go.wp_at_succ

theorem EntAt.below {w w' : World} {v : Value} {d : RdnL} {l : List AttrV} (h : EntAt w v d l) (hb : Below w.heap.size w w') : EntAt w' v d l := by
  obtain ⟨ao, ca, bo, cb, h1, h2, h3, h4⟩ := h
  exact ⟨ao, ca, bo, cb, h1, h2.below hb, h3.below hb, h4⟩
theorem fitsE {d : RdnL} {l : List AttrV} (h : sizeE d l ≤ 1048576) : Fits d ∧ FitsA l := by
  unfold sizeE at h
  exact ⟨fits_of (by omega), fitsA_of (by omega)⟩
theorem Right_ent (v : Value) (d : RdnL) (l : List AttrV) (w : World) (h : EntAt w v d l) (hfd : Fits d) (hfl : FitsA l) :
    Calls Tryz.prog 18 #[v] w fun e w' => e = .returned (.bool (rightB d l)) ∧ Below w.heap.size w w' := by
  obtain ⟨ao, ca, bo, cb, rfl, h2, h3, _, _⟩ := h
  exact EntryRight_any ao bo d l ca cb w h2 h3 hfd hfl
theorem SpecRight_ent (v : Value) (d : RdnL) (l : List AttrV) (w : World) (h : EntAt w v d l) (hfd : Fits d) (hfl : FitsA l) :
    Calls Tryz.prog 19 #[v] w fun e w' => e = .returned (.bool (rightB d l)) ∧ Below w.heap.size w w' := by
  obtain ⟨ao, ca, bo, cb, rfl, h2, h3, _, _⟩ := h
  exact SpecEntryRight_any ao bo d l ca cb w h2 h3 hfd hfl
theorem eqEntry_any (ao bo xo yo : Option Addr) (d : RdnL) (l : List AttrV) (ca cb cx cy : Nat) (w : World) (h1 : DnAt w ao d) (h2 : AttrsAt w bo l) (h3 : DnAt w xo d) (h4 : AttrsAt w yo l) (hd : d.length ≤ 1048576) (hf : FitsA l) :
    Calls Tryz.prog 33 #[.agg #[.slice ao d.length ca, .slice bo l.length cb], .agg #[.slice xo d.length cx, .slice yo l.length cy]] w fun e w' => e = .returned (.bool true) ∧ Below w.heap.size w w' :=
  eqEntry_at ao bo xo yo d l ca cb cx cy w h1 h2 h3 h4 hd hf
end Go.Proofs.YtjajpdghamecoaaGreat
/- Small helpers of the walks over entries. -/
namespace Go.Proofs.YtjajpdghamecoaaGreat
open Go.RowKit

theorem then_world {K : Act → World → Prop} {Q : Exit → Act → World → Prop} {x : Exit} {a : Act} {w : World} (R : World → Prop) (h : R w) (k : ∀ W, R W → Exit.then K Q x a W) : Exit.then K Q x a w := k w h
theorem two_drew {w : World} {g : Nat} {T : TypeId} {a b : Value} (h : Two w g T a b) : Two w.drew g T a b := h
theorem twoNext (w : World) (o : Obj) (T : TypeId) (a b : Value) : Two ((w.alloc o).alloc (.cells #[a, b] T)) (w.heap.size + 1) T a b := by
  have := twoNew (w.alloc o) T a b; simpa using this
end Go.Proofs.YtjajpdghamecoaaGreat
/- AttrOf: the program's copies of texts, and its map of attributes by their names. -/
namespace Go.Proofs.YtjajpdghamecoaaGreat
open Go.RowKit
attribute [local go_sem ↓] Go.wp_at_zero Go.wp_at_succ

theorem concat_copy (a : ByteArray) (w : World) (h : a.size ≤ 10000000) :
    Calls Tryz.prog 115 #[.slice (some ⟨w.heap.size, 0, none⟩) 1 1] (w.alloc (.cells #[.string a] 9)) fun e w' => e = .returned (.string a) ∧ Below w.heap.size w w' := by
  have := concat_any w.heap.size 0 1 [a] (w.alloc (.cells #[.string a] 9)) (by simp) (by simp) (by simp [joinL]; omega) (fun i hi => by
    match i, hi with
    | 0, _ => simp)
  rw [joinS_one] at this
  exact this.mono fun e w' ⟨he, hb⟩ => ⟨he, ((Below.refl _ _).alloc (Nat.le_refl _) _).trans (hb.mono (by simp))⟩
theorem take_snoc' {α : Type} (l : List α) (k : Nat) (h : k < l.length) : l.take (k + 1) = l.take k ++ [l[k]] := List.take_succ_eq_append_getElem h
set_option maxRecDepth 100000 in
set_option maxHeartbeats 1000000 in
theorem copyTexts_any (vo : Option Addr) (V : List ByteArray) (vc : Nat) (w : World) (hd : StrsAt w vo V) (hf : FitsV V) :
    Calls Tryz.prog 74 #[.slice vo V.length vc] w fun e w' => (∃ v, e = .returned v ∧ w'.ownsRow w.heap.size 9 1 v V.length (ss V)) ∧ Below w.heap.size w w' := by
  have hl := hf.1
  have HD := Lib.hid hd; have HF := Lib.hid hf; clear hd hf
  go_enter Tryz.func74, Tryz.ntmps74
  go_wp2_with fail
  go_loopw [3, 8] (fun v i wr => ∃ k : Nat, k ≤ V.length ∧ i = .int .i64 k ∧ wr.ownsRow w.heap.size 9 1 v (V.take k).length (ss (V.take k)) ∧ Below w.heap.size w wr) (fun _ i _ => V.length - (intOf i).toNat)
  case atStart => exact ⟨0, Nat.zero_le _, rfl, ⟨rfl, .inl ⟨rfl, rfl⟩⟩, Below.refl _ _⟩
  case round =>
    obtain ⟨k, hk, rfl, hown, hbel⟩ := hrel
    have hsz := hbel.size
    by_cases hlt : k < V.length
    · obtain ⟨p, off, rfl, hp0, hd1⟩ := HD.out.at hlt
      have hz := HF.out.at hlt
      have c1 := (hbel.cell (p := ⟨p, off + k, none⟩) hp0).trans hd1
      have HN := Lib.hid (take_snoc' V k hlt)
      have HL : Hid ((V.take k).length ≤ 1000000000) := Lib.hid (by simp; omega)
      have g1 : (0 : Int) ≤ (k : Int) := by omega
      have g2 : (k : Int) < (V.length : Int) := by omega
      clear hd1
      generalize V[k] = x at *
      generalize V.take k = pre at *
      go_wp2_with (first
        | (go_at_call 115; refine (concat_copy x wr (by omega)).mono ?_; rintro e w3 ⟨rfl, hb3⟩; have O3 := own_below hown hb3; have L3 := Nat.le_trans hsz hb3.size; have B3 := hbel.trans (hb3.mono hsz); clear hb3)
        | (at_builtin; refine append_str w.heap.size rfl _ _ rfl _ pre rfl O3 _ rfl HL.out L3 B3 ?_; intro v4 w4 hown4 hbel4 hsz4 _ _)
        | (fail "none"))
      go_roundw
      case rel => exact ⟨k + 1, by omega, by go_num, by rw [HN.out]; exact hown4, hbel4⟩
      case measure => simp [intOf]; omega
    · obtain rfl : k = V.length := by omega
      have HO : Hid (wr.ownsRow w.heap.size 9 1 u3 V.length (ss V)) := Lib.hid (by have h := hown; rw [List.take_length] at h; exact h)
      clear hown
      go_wp2
      go_ret
      exact ⟨⟨_, rfl, HO.out⟩, hbel⟩

/-- how an element of the map reads: as itself -/
def valR (v : Value) : Option (DataW Value × List MemPlace) := some (.held v, [])
def putP (D : DataW Value) (p : ByteArray × Value) : DataW Value := D.put (.string p.1.data.toList) (.held p.2)
/-- the map that a list of pairs lays -/
def mapOf (l : List (ByteArray × Value)) : DataW Value := l.foldl putP (.map [])
theorem mapOf_snoc (l : List (ByteArray × Value)) (p : ByteArray × Value) : mapOf (l ++ [p]) = (mapOf l).put (.string p.1.data.toList) (.held p.2) := by
  unfold mapOf; rw [List.foldl_append]; rfl
/-- what lies in the map of an entry's attributes -/
def AttrVals (w : World) (l : List AttrV) (ps : List (ByteArray × Value)) : Prop :=
  ps.length = l.length ∧ ∀ i (h : i < l.length) (h' : i < ps.length), ps[i].1 = l[i].1 ∧ ∃ vo vc, ps[i].2 = .agg #[.string l[i].1, .slice vo l[i].2.length vc] ∧ ValsAt w vo vc l[i].2
theorem AttrVals.snoc {w : World} {l : List AttrV} {ps : List (ByteArray × Value)} (h : AttrVals w l ps) (a : AttrV) (vo : Option Addr) (vc : Nat) (hv : ValsAt w vo vc a.2) : AttrVals w (l ++ [a]) (ps ++ [(a.1, .agg #[.string a.1, .slice vo a.2.length vc])]) := by
  refine ⟨by simp [h.1], fun i h1 h2 => ?_⟩
  by_cases e : i < l.length
  · have e' : i < ps.length := by rw [h.1]; exact e
    rw [List.getElem_append_left e, List.getElem_append_left e']
    exact h.2 i e e'
  · have hi : i = l.length := by simp at h1; omega
    subst hi
    have hl := h.1
    rw [List.getElem_append_right (Nat.le_refl _), List.getElem_append_right (by omega)]
    simp only [hl, Nat.sub_self, List.getElem_cons_zero]
    exact ⟨trivial, vo, vc, rfl, hv⟩
theorem Tryz.keyed9 : Maps.Keyed Tryz.prog 9 := Maps.string_keyed Tryz.underlying9
set_option maxRecDepth 100000 in
set_option maxHeartbeats 1000000 in
theorem attrsByName_any (bo : Option Addr) (l : List AttrV) (cb : Nat) (w : World) (hd : AttrsAt w bo l) (hf : FitsA l) :
    Calls Tryz.prog 75 #[.slice bo l.length cb] w fun e w' => e = .returned (.map (some w.heap.size)) ∧ (∃ ps, AttrVals w l ps ∧ w'.ownsMap Tryz.prog 9 valR w.heap.size l.length (mapOf ps)) ∧ Below w.heap.size w w' := by
  have hl := hf.1
  have HD := Lib.hid hd; have HF := Lib.hid hf; clear hd hf
  have hmm := @run_makeMap Tryz.prog
  go_enter Tryz.func75, Tryz.ntmps75
  go_wp2_with fail
  go_loopw [9] (fun i wr => ∃ k : Nat, k ≤ l.length ∧ i = .int .i64 k ∧ (∃ ps, AttrVals w (l.take k) ps ∧ wr.ownsMap Tryz.prog 9 valR w.heap.size k (mapOf ps)) ∧ Below w.heap.size w wr) (fun i _ => l.length - (intOf i).toNat)
  case atStart => exact ⟨0, Nat.zero_le _, rfl, ⟨[], ⟨rfl, fun i h => by simp at h⟩, World.ownsMap_made _ _ _ _⟩, more (Below.refl _ _) _⟩
  case round =>
    obtain ⟨k, hk, rfl, ⟨ps, hps, hown⟩, hbel⟩ := hrel
    have HP := Lib.hid hps; clear hps
    have hsz := hbel.size
    by_cases hlt : k < l.length
    · obtain ⟨p, off, vo, vc, rfl, hp0, hd1, hd2, hv⟩ := HD.out.at hlt
      have c1 := (hbel.cell (p := ⟨p, off + k * 2, none⟩) hp0).trans hd1
      have c2 := (hbel.cell (p := ⟨p, off + k * 2 + 1, none⟩) hp0).trans hd2
      have hp1 : p < wr.heap.size := Nat.lt_of_lt_of_le hp0 hsz
      have hz := HF.out.max hlt
      have HN := Lib.hid (HP.out.snoc l[k] vo vc hv)
      rw [← take_snoc' l k hlt] at HN
      have g1 : (0 : Int) ≤ (k : Int) := by omega
      have g2 : (k : Int) < (l.length : Int) := by omega
      clear hd1 hd2 hv
      generalize l[k].1 = A at *
      generalize l[k].2 = V at *
      have hkey := Go.WideMaps.keyOf_string_mk Tryz.underlying9 (s := A) hz
      have HO := Lib.hid (hown.alloc (.cells #[.string A, .slice vo V.length vc] 48))
      have HB := Lib.hid (more hbel (.cells #[.string A, .slice vo V.length vc] 48))
      clear hown hbel
      go_wp2_with (first
        | (at_mapUpdate; refine wpList_mapUpdate_own _ rfl _ _ _ 83 rfl 9 48 Tryz.keyed9 Tryz.underlying83 valR w.heap.size k (mapOf ps) rfl HO.out (by unfold maxLen; omega) _ _ _ rfl rfl hkey (.held (.agg #[.string A, .slice vo V.length vc])) [] rfl ?_; intro w4 hown4 hgrow4)
        | (fail "none"))
      go_roundw
      case rel => exact ⟨k + 1, by omega, by go_num, ⟨_, HN.out, by rw [mapOf_snoc]; exact hown4⟩, HB.out.grown hgrow4 HB.out.size (fun j hj => by cases hj; exact Nat.le_refl _)⟩
      case measure => simp [intOf]; omega
    · obtain rfl : k = l.length := by omega
      rw [List.take_length] at HP
      go_wp2
      go_ret
      exact ⟨rfl, ⟨ps, HP.out, hown⟩, hbel⟩
end Go.Proofs.YtjajpdghamecoaaGreat
/- Attributes by their names: plain facts. -/
namespace Go.Proofs.YtjajpdghamecoaaGreat
open Go.RowKit

theorem less_irrefl : ∀ a : List UInt8, Op.bytesLess a a = false
  | [] => rfl
  | a :: xs => by
    have ih := less_irrefl xs
    unfold Op.bytesLess
    simp [ih]
theorem less_trans : ∀ a b c : List UInt8, Op.bytesLess a b = true → Op.bytesLess b c = true → Op.bytesLess a c = true
  | [], [], _, h, _ => by simp [Op.bytesLess] at h
  | [], _ :: _, [], _, h => by simp [Op.bytesLess] at h
  | [], _ :: _, _ :: _, _, _ => by simp [Op.bytesLess]
  | _ :: _, [], _, h, _ => by simp [Op.bytesLess] at h
  | _ :: _, _ :: _, [], _, h => by simp [Op.bytesLess] at h
  | a :: xs, b :: ys, c :: zs, h1, h2 => by
    have ih := less_trans xs ys zs
    unfold Op.bytesLess at h1 h2 ⊢
    simp at h1 h2 ⊢
    rcases h1 with h1 | ⟨rfl, h1⟩
    · rcases h2 with h2 | ⟨rfl, h2⟩
      · exact .inl (UInt8.lt_trans h1 h2)
      · exact .inl h1
    · rcases h2 with h2 | ⟨rfl, h2⟩
      · exact .inl h2
      · exact .inr ⟨rfl, ih h1 h2⟩
theorem inc_far {α : Type} {lt : α → α → Bool} (tr : ∀ a b c, lt a b = true → lt b c = true → lt a c = true) {l : List α} (h : incB lt l = true) : ∀ (i j : Nat) (hi : i < l.length) (hj : j < l.length), i < j → lt l[i] l[j] = true := by
  have h1 : ∀ i (h : i + 1 < l.length), lt l[i] l[i + 1] = true := @of_decide_eq_true _ (Classical.propDecidable _) h
  intro i j
  induction j with
  | zero => intro _ _ h; omega
  | succ j ih =>
    intro hi hj hij
    by_cases e : i = j
    · subst e; exact h1 i hj
    · exact tr _ _ _ (ih hi (by omega) (by omega)) (h1 j hj)
theorem names_apart {d : RdnL} {l : List AttrV} (h : rightB d l = true) : ∀ (i j : Nat) (hi : i < l.length) (hj : j < l.length), i < j → l[i].1 ≠ l[j].1 := by
  unfold rightB attrsB at h
  simp only [Bool.and_eq_true] at h
  intro i j hi hj hij e
  have := inc_far (lt := nameLt) (fun a b c => less_trans _ _ _) h.2.2 i j hi hj hij
  unfold nameLt at this
  rw [e, less_irrefl] at this
  cases this
theorem name_short {d : RdnL} {l : List AttrV} (h : rightB d l = true) {a : AttrV} (ha : a ∈ l) : a.1.size ≤ 20 := by
  unfold rightB attrsB at h
  simp only [Bool.and_eq_true, List.all_eq_true] at h
  have := h.2.1.2 a ha
  unfold attrB nmL at this
  simp only [Bool.and_eq_true, decide_eq_true_eq] at this
  exact this.1.1.1.2
/-- the number of the attribute of a name -/
def atN (l : List AttrV) (nm : ByteArray) : Option Nat := l.findIdx? (fun a => decide (a.1 = nm))
def valsOf (l : List AttrV) (nm : ByteArray) : List ByteArray := match atN l nm with | some i => (l.getD i (ByteArray.empty, [])).2 | none => []
theorem atN_some {l : List AttrV} {nm : ByteArray} {i : Nat} (h : atN l nm = some i) : ∃ hi : i < l.length, l[i].1 = nm ∧ valsOf l nm = l[i].2 ∧ ∀ j (hj : j < i), l[j].1 ≠ nm := by
  have h' := h
  unfold atN at h'
  rw [List.findIdx?_eq_some_iff_getElem] at h'
  obtain ⟨hi, h1, h2⟩ := h'
  refine ⟨hi, by simpa using h1, ?_, fun j hj => by simpa using h2 j hj⟩
  unfold valsOf
  rw [h]
  simp [hi]
theorem atN_none {l : List AttrV} {nm : ByteArray} (h : atN l nm = none) : (∀ a ∈ l, a.1 ≠ nm) ∧ valsOf l nm = [] := by
  have h' := h
  unfold atN at h'
  rw [List.findIdx?_eq_none_iff] at h'
  refine ⟨fun a ha => by simpa using h' a ha, ?_⟩
  unfold valsOf
  rw [h]
theorem isMap_mapOf (ps : List (ByteArray × Value)) : Maps.IsMap (mapOf ps) := by
  have : ∀ (ps : List (ByteArray × Value)) (D : DataW Value), Maps.IsMap D → Maps.IsMap (ps.foldl putP D) := by
    intro ps
    induction ps with
    | nil => intro D h; exact h
    | cons p ps ih => intro D h; exact ih _ (h.put _ _)
  exact this ps _ Maps.isMap_empty
theorem key_ne {a b : ByteArray} (h : a ≠ b) : Lit.string a.data.toList ≠ Lit.string b.data.toList := by
  intro e
  injection e with e
  exact h (ByteArray.ext (Array.toList_inj.1 e))
theorem snoc_rec {α : Type} {P : List α → Prop} (h0 : P []) (h1 : ∀ l a, P l → P (l ++ [a])) (l : List α) : P l := by
  have : ∀ r : List α, P r.reverse := by
    intro r
    induction r with
    | nil => exact h0
    | cons a r ih => rw [List.reverse_cons]; exact h1 _ _ ih
  simpa using this l.reverse
theorem mapOf_miss (ps : List (ByteArray × Value)) (nm : ByteArray) (z : DataW Value) (h : ∀ p ∈ ps, p.1 ≠ nm) : (mapOf ps).atKey (.string nm.data.toList) z = z := by
  revert h
  refine snoc_rec (P := fun ps => (∀ p ∈ ps, p.1 ≠ nm) → (mapOf ps).atKey (.string nm.data.toList) z = z) ?_ ?_ ps
  · intro _; rfl
  · intro ps p ih h
    rw [mapOf_snoc, Maps.atKey_put_other (key_ne (h p (by simp)).symm)]
    exact ih fun q hq => h q (by simp [hq])
theorem mapOf_hit (ps : List (ByteArray × Value)) (nm : ByteArray) (z : DataW Value) (i : Nat) (hi : i < ps.length) (h1 : ps[i].1 = nm) (h2 : ∀ j (hj : j < ps.length), i < j → ps[j].1 ≠ nm) : (mapOf ps).atKey (.string nm.data.toList) z = .held ps[i].2 := by
  revert hi h1 h2
  refine snoc_rec (P := fun ps => ∀ (hi : i < ps.length), ps[i].1 = nm → (∀ j (hj : j < ps.length), i < j → ps[j].1 ≠ nm) → (mapOf ps).atKey (.string nm.data.toList) z = .held ps[i].2) ?_ ?_ ps
  · intro hi; simp at hi
  · intro ps p ih hi h1 h2
    by_cases e : i < ps.length
    · rw [mapOf_snoc]
      have hp : p.1 ≠ nm := by
        have := h2 ps.length (by simp) e
        simpa using this
      rw [Maps.atKey_put_other (key_ne hp.symm)]
      rw [List.getElem_append_left e] at h1 ⊢
      exact ih e h1 (fun j hj hij => by have := h2 j (by simp; omega) hij; rwa [List.getElem_append_left hj] at this)
    · have hi' : i = ps.length := by simp at hi; omega
      subst hi'
      rw [mapOf_snoc]
      simp only [List.getElem_append_right (Nat.le_refl _), Nat.sub_self, List.getElem_cons_zero] at h1 ⊢
      rw [← h1]
      exact Maps.atKey_put_same (isMap_mapOf ps) (by trivial) _ _
/-- what the map of a valid entry's attributes holds at a name -/
theorem map_at {w : World} {d : RdnL} {l : List AttrV} {ps : List (ByteArray × Value)} (h : AttrVals w l ps) (hr : rightB d l = true) (nm : ByteArray) :
    ∃ x vo vc, (mapOf ps).atKey (.string nm.data.toList) (.held (.agg #[.string ByteArray.empty, .slice none 0 0])) = .held (.agg #[.string x, .slice vo (valsOf l nm).length vc]) ∧ ValsAt w vo vc (valsOf l nm) := by
  have hl := h.1
  cases ha : atN l nm with
  | none =>
    obtain ⟨h1, h2⟩ := atN_none ha
    refine ⟨ByteArray.empty, none, 0, ?_, ?_⟩
    · rw [h2]
      refine mapOf_miss ps nm _ fun p hp => ?_
      obtain ⟨i, hi, rfl⟩ := List.getElem_of_mem hp
      rw [(h.2 i (by omega) hi).1]
      exact h1 _ (List.getElem_mem _)
    · rw [h2]; exact ⟨.inl rfl, Nat.le_refl _, fun _ => rfl⟩
  | some i =>
    obtain ⟨hi, h1, h2, _⟩ := atN_some ha
    obtain ⟨q1, vo, vc, q2, q3⟩ := h.2 i hi (by omega)
    refine ⟨l[i].1, vo, vc, ?_, by rw [h2]; exact q3⟩
    rw [mapOf_hit ps nm _ i (by omega) (q1.trans h1) (fun j hj hij => by
      rw [(h.2 j (by omega) hj).1, ← h1]
      exact (names_apart hr i j hi (by omega) hij).symm), q2, h2]
end Go.Proofs.YtjajpdghamecoaaGreat
/- Insertion sort on lists: plain facts. -/
namespace Go.Proofs.YtjajpdghamecoaaGreat

section
variable {α : Type} {lt : α → α → Bool}
/-- no element of the first i is less than the one ahead of it -/
def Asc (lt : α → α → Bool) (L : List α) (i : Nat) : Prop := ∀ k (h : k + 1 < L.length), k + 1 < i → lt L[k + 1] L[k] = false
/-- the first i + 1 rise, but for the one at j -/
def Inner (lt : α → α → Bool) (L : List α) (i j : Nat) : Prop :=
  j ≤ i ∧ i < L.length ∧ (∀ k (h : k + 1 < L.length), k + 1 ≤ i → k + 1 ≠ j → lt L[k + 1] L[k] = false) ∧ ∀ k (h : k + 2 < L.length), k + 1 = j → j < i → lt L[k + 2] L[k] = false
def swapL (L : List α) (j : Nat) (h : j + 1 < L.length) : List α := (L.set (j + 1) L[j]).set j L[j + 1]
theorem swapL_len (L : List α) (j : Nat) (h : j + 1 < L.length) : (swapL L j h).length = L.length := by simp [swapL]
theorem swapL_get (L : List α) (j : Nat) (h : j + 1 < L.length) (k : Nat) (hk : k < (swapL L j h).length) : (swapL L j h)[k] = if k = j then L[j + 1] else if k = j + 1 then L[j] else L[k]'(by simpa [swapL] using hk) := by
  have e : (swapL L j h)[k] = ((L.set (j + 1) L[j]).set j L[j + 1])[k]'(by simpa [swapL] using hk) := rfl
  rw [e, List.getElem_set, List.getElem_set]
  by_cases h1 : j = k
  · subst h1; simp
  · by_cases h2 : j + 1 = k
    · subst h2; simp
    · rw [if_neg h1, if_neg h2, if_neg (fun e => h1 e.symm), if_neg (fun e => h2 e.symm)]
theorem swapL_perm (L : List α) (j : Nat) (h : j + 1 < L.length) : (swapL L j h).Perm L := List.set_set_perm h (by omega)
theorem inner_start {L : List α} {i : Nat} (h : Asc lt L i) (hi : i < L.length) : Inner lt L i i :=
  ⟨Nat.le_refl _, hi, fun k hk h1 h2 => h k hk (by omega), fun k hk h1 h2 => absurd h2 (Nat.lt_irrefl _)⟩
theorem inner_end {L : List α} {i j : Nat} (h : Inner lt L i j) (h0 : j = 0 ∨ ∃ k, ∃ hk : k + 1 < L.length, j = k + 1 ∧ lt L[k + 1] L[k] = false) : Asc lt L (i + 1) := by
  intro k hk hki
  by_cases e : k + 1 = j
  · rcases h0 with rfl | ⟨k', hk', rfl, h0⟩
    · omega
    · have : k = k' := by omega
      subst this; exact h0
  · exact h.2.2.1 k hk (by omega) e
theorem inner_step (asym : ∀ a b, lt a b = true → lt b a = false) {L : List α} {i j : Nat} (h : Inner lt L i (j + 1)) (hj : j + 1 < L.length) (hl : lt L[j + 1] L[j] = true) : Inner lt (swapL L j hj) i j := by
  obtain ⟨h1, h2, h3, h4⟩ := h
  refine ⟨by omega, by rw [swapL_len]; exact h2, fun k hk hki hne => ?_, fun k hk hkj hji => ?_⟩
  · have hk' : k + 1 < L.length := by rw [swapL_len] at hk; exact hk
    rw [swapL_get, swapL_get]
    by_cases e1 : k = j
    · subst e1
      rw [if_neg (by omega), if_pos rfl, if_pos rfl]
      exact asym _ _ hl
    · by_cases e2 : k = j + 1
      · subst e2
        rw [if_neg (by omega), if_neg (by omega), if_neg (by omega), if_pos rfl]
        exact h4 j (by omega) rfl (by omega)
      · rw [if_neg hne, if_neg (by omega), if_neg e1, if_neg e2]
        exact h3 k hk' hki (by omega)
  · rw [swapL_get, swapL_get]
    rw [if_neg (by omega), if_pos (by omega), if_neg (by omega), if_neg (by omega)]
    have := h3 k (by rw [swapL_len] at hk; omega) (by omega) (by omega)
    subst hkj
    exact this
theorem asc_one (L : List α) : Asc lt L 1 := fun k _ h => by omega
/-- the only list of these elements that rises -/
theorem inc_unique (irr : ∀ a, lt a a = false) (tr : ∀ a b c, lt a b = true → lt b c = true → lt a c = true) {a b : List α} (ha : incB lt a = true) (hb : incB lt b = true) (hp : a.Perm b) : a = b := by
  refine List.Perm.eq_of_pairwise (le := fun x y => lt x y = true) (fun x y _ _ h1 h2 => ?_) ?_ ?_ hp
  · have := tr _ _ _ h1 h2; rw [irr] at this; cases this
  · rw [List.pairwise_iff_getElem]; exact fun i j hi hj hij => inc_far tr ha i j hi hj hij
  · rw [List.pairwise_iff_getElem]; exact fun i j hi hj hij => inc_far tr hb i j hi hj hij
end
end Go.Proofs.YtjajpdghamecoaaGreat
/- The helpers of the laws: marks. -/
namespace Go.Proofs.YtjajpdghamecoaaGreat
open Go.RowKit
attribute [local go_sem ↓] Go.wp_at_zero Go.wp_at_succ

/-- the digits of a number, ahead of others -/
def digs : Nat → Nat → List UInt8 → List UInt8
  | 0, _, o => o
  | f + 1, n, o => if n = 0 then o else digs f (n / 10) (UInt8.ofNat (48 + n % 10) :: o)
def mkL (n : Nat) : List UInt8 := 109 :: digs 20 n []
def mkT (n : Nat) : ByteArray := toS (mkL n)
theorem one_str (W : World) (n : Nat) (hn : n < 256) :
    (convert 22 9 (.slice (some ⟨W.heap.size, 0, none⟩) 1 1)).run Tryz.prog (W.alloc (.cells #[.int .u8 (n : Int)] 5)) = .ok (.string ⟨#[UInt8.ofNat n]⟩) (W.alloc (.cells #[.int .u8 (n : Int)] 5)) := by
  refine str22 _ ⟨W.heap.size, 0, none⟩ 1 [UInt8.ofNat n] 1 rfl fun j hj => ?_
  match j, hj with
  | 0, _ =>
    rw [add_plain, World.cell?_alloc_mark]
    simp; omega
set_option maxRecDepth 100000 in
set_option maxHeartbeats 1000000 in
theorem markText_any (n : Nat) (w : World) (h0 : 0 < n) (hn : n ≤ 1000000000) :
    Calls Tryz.prog 86 #[.int .i64 n] w fun e w' => e = .returned (.string (mkT n)) ∧ Below w.heap.size w w' := by
  go_enter Tryz.func86, Tryz.ntmps86
  go_wp2
  go_loopw [0, 3] (fun t u wr => ∃ (f k : Nat) (o : List UInt8), k ≤ n ∧ t = .int .i64 k ∧ u = .string (toS o) ∧ digs 20 n [] = digs f k o ∧ k < 10 ^ f ∧ f ≤ 20 ∧ o.length + f ≤ 20 ∧ Below w.heap.size w wr) (fun t _ _ => (intOf t).toNat)
  case atStart => exact ⟨20, n, [], Nat.le_refl _, rfl, rfl, rfl, by omega, by omega, by simp, Below.refl _ _⟩
  case round =>
    obtain ⟨f, k, o, hk, rfl, rfl, hD, hf, hf2, ho, hbel⟩ := hrel
    have HD := Lib.hid hD; clear hD
    have hsz := hbel.size
    by_cases hk0 : 0 < k
    · obtain ⟨g, rfl⟩ : ∃ g, f = g + 1 := ⟨f - 1, by
        rcases f with _ | f
        · simp at hf; omega
        · simp⟩
      have HN : Hid (digs 20 n [] = digs g (k / 10) (UInt8.ofNat (48 + k % 10) :: o)) := Lib.hid (by rw [HD.out, digs, if_neg (by omega)])
      have HF : Hid (k / 10 < 10 ^ g) := Lib.hid (by rw [Nat.pow_succ] at hf; omega)
      have HC : Hid ((⟨#[UInt8.ofNat (48 + k % 10)]⟩ : ByteArray) ++ toS o = toS (UInt8.ofNat (48 + k % 10) :: o)) := Lib.hid (by apply ByteArray.ext; simp [toS])
      clear hf
      have hos : (toS o).size ≤ 20 := by rw [toS_size]; omega
      have hcv := one_str wr (48 + k % 10) (by omega)
      have hca := cat ⟨#[UInt8.ofNat (48 + k % 10)]⟩ (toS o) (by rw [sz1]; omega)
      have e1 : ((48 + k % 10 : Nat) : Int) = 48 + (k : Int) % 10 := by omega
      rw [e1] at hcv
      clear e1
      generalize UInt8.ofNat (48 + k % 10) = c at *
      go_wp2
      refine ⟨⟨g, k / 10, c :: o, by omega, by go_num, by rw [HC.out], HN.out, HF.out, by omega, by simp only [List.length_cons]; omega, more hbel _⟩, ?_⟩
      simp [intOf]; omega
    · have HE : Hid (⟨#[109]⟩ ++ toS o = mkT n) := Lib.hid (by
        have e : k = 0 := by omega
        subst e
        have : digs f 0 o = o := by cases f <;> simp [digs]
        unfold mkT mkL
        rw [HD.out, this]
        apply ByteArray.ext; simp [toS])
      have hos : (toS o).size ≤ 20 := by rw [toS_size]; omega
      have hca := cat ⟨#[109]⟩ (toS o) (by rw [sz1]; omega)
      go_wp2
      go_ret
      exact ⟨ret_str HE.out, hbel⟩
/-- n pairs of marks, from k on -/
def marks : Nat → Nat → RdnL
  | _, 0 => []
  | k, n + 1 => marks k n ++ [(mkT (k + 2 * n), mkT (k + 2 * n + 1))]
theorem marks_len (k n : Nat) : (marks k n).length = n := by
  induction n with
  | zero => rfl
  | succ n ih => rw [marks, List.length_append, ih]; rfl
theorem marks_get (k n i : Nat) (h : i < n) (h' : i < (marks k n).length) : (marks k n)[i] = (mkT (k + 2 * i), mkT (k + 2 * i + 1)) := by
  induction n with
  | zero => omega
  | succ n ih =>
    have hl := marks_len k n
    simp only [marks]
    by_cases e : i < n
    · rw [List.getElem_append_left (by omega)]; exact ih e (by omega)
    · have : i = n := by omega
      subst this
      rw [List.getElem_append_right (by omega)]
      simp [hl]
/-- a block of pairs, the first k marked, the rest as they were -/
def MarkTo (w : World) (g n k j : Nat) : Prop := ∃ C : Array Value, w.heap[g]? = some (.cells C 97 (0, 0)) ∧ C.size = n * 2 ∧ C.toList.take (j * 2) = rs (marks k j)
theorem MarkTo.below {w w' : World} {g n k j : Nat} (h : MarkTo w g n k j) (hb : Below w.heap.size w w') : MarkTo w' g n k j := by
  obtain ⟨C, h1, h2⟩ := h
  exact ⟨C, (hb.block g (Array.getElem?_eq_some_iff.1 h1).1).trans h1, h2⟩
end Go.Proofs.YtjajpdghamecoaaGreat
/- The helpers of the laws: marks laid into a name, and found there again. -/
namespace Go.Proofs.YtjajpdghamecoaaGreat
open Go.RowKit
attribute [local go_sem ↓] Go.wp_at_zero Go.wp_at_succ

theorem grown_of {a b : World} (h : Below a.heap.size a b) (row : Option Nat) : a.grownBy b row := ⟨h.os, h.tape, h.output, h.size, fun k hk _ => h.block k hk⟩
theorem grown_tr {a b c : World} {r : Option Nat} (h : a.grownBy b r) (g : b.grownBy c r) : a.grownBy c r :=
  ⟨g.os.trans h.os, g.tape.trans h.tape, g.output.trans h.output, Nat.le_trans h.size g.size, fun k hk hne => (g.block k (Nat.lt_of_lt_of_le hk h.size) hne).trans (h.block k hk hne)⟩
theorem block_at {w : World} {g j n : Nat} {C : Array Value} (h : w.heap[g]? = some (.cells C 97 (0, 0))) (hC : C.size = n * 2) (hj : j < n * 2) :
    (∃ x, w.cell? ⟨g, j, none⟩ = some x) ∧ w.frozen? ⟨g, j, none⟩ = false := by
  refine ⟨⟨C[j]'(by omega), ?_⟩, ?_⟩
  · rw [cell_of_row w g _ C 97 (0, 0) h]; exact Array.getElem?_eq_getElem (by omega)
  · simp [World.frozen?, h]
set_option maxRecDepth 100000 in
set_option maxHeartbeats 2000000 in
theorem markRdnS_some (g n cap k : Nat) (w : World) (hn : n ≤ cap) (hm : n ≤ 1048576) (hk1 : 0 < k) (hk2 : k ≤ 1000) (hB : ∃ C : Array Value, w.heap[g]? = some (.cells C 97 (0, 0)) ∧ C.size = cap * 2) :
    Calls Tryz.prog 83 #[.slice (some ⟨g, 0, none⟩) n cap, .int .i64 k] w fun e w' => e = .returned (.int .i64 ((k + 2 * n : Nat) : Int)) ∧ RowTo w' g cap (marks k n) ∧ w.grownBy w' (some g) := by
  have hg : g < w.heap.size := by obtain ⟨C, h, _⟩ := hB; exact (Array.getElem?_eq_some_iff.1 h).1
  have HB := Lib.hid hB; clear hB
  go_enter Tryz.func83, Tryz.ntmps83
  go_wp2
  go_loopw [1, 5] (fun t i wr => ∃ j : Nat, j ≤ n ∧ i = .int .i64 j ∧ t = .int .i64 ((k + 2 * j : Nat) : Int) ∧ RowTo wr g cap (marks k j) ∧ w.grownBy wr (some g)) (fun _ i _ => n - (intOf i).toNat)
  case atStart =>
    obtain ⟨C, h1, h2⟩ := HB.out
    exact ⟨0, Nat.zero_le _, rfl, rfl, ⟨C, h1, h2, by simp [marks, rs]⟩, ⟨rfl, rfl, rfl, Nat.le_refl _, fun _ _ _ => rfl⟩⟩
  case round =>
    obtain ⟨j, hj, rfl, rfl, hR, hG⟩ := hrel
    by_cases hlt : j < n
    · obtain ⟨C, h1, h2, h3⟩ := hR
      rw [marks_len] at h3
      have HC := Lib.hid h1; have H2 := Lib.hid h2; have H3 := Lib.hid h3; have HG := Lib.hid hG
      clear h1 h2 h3 hG
      go_wp2_with fail
      refine (markText_any (k + 2 * j) wr (by omega) (by omega)).mono ?_
      rintro e w2 ⟨rfl, hb2⟩
      have HC2 : Hid (w2.heap[g]? = some (.cells C 97 (0, 0))) := Lib.hid ((hb2.block g (Array.getElem?_eq_some_iff.1 HC.out).1).trans HC.out)
      have HG2 := Lib.hid (grown_tr HG.out (grown_of hb2 _))
      clear hb2
      obtain ⟨⟨x0, c0⟩, f0⟩ := block_at (j := j * 2) HC2.out H2.out (by omega)
      have HM := Lib.hid (fun W => markText_any (k + 2 * j + 1) W (by omega) (by omega))
      rw [show ((k + 2 * j + 1 : Nat) : Int) = (k : Int) + 2 * (j : Int) + 1 by omega] at HM
      have HMk : Hid (marks k (j + 1) = marks k j ++ [(mkT (k + 2 * j), mkT (k + 2 * j + 1))]) := Lib.hid rfl
      generalize mkT (k + 2 * j) = A at *
      generalize mkT (k + 2 * j + 1) = V at *
      go_wp2_with fail
      refine (HM.out _).mono ?_
      rintro e w3 ⟨rfl, hb3⟩
      have HC3 : Hid (w3.heap[g]? = some (.cells (C.setIfInBounds (j * 2) (.string A)) 97 (0, 0))) := Lib.hid (by
        have h := heap_set (j := j * 2) (.string A) HC2.out
        exact (hb3.block g (Array.getElem?_eq_some_iff.1 h).1).trans h)
      have HG3 := Lib.hid (grown_tr (grown_tr HG2.out (grown_set w2 g (j * 2) (.string A))) (grown_of hb3 _))
      clear hb3 c0 f0
      obtain ⟨⟨x1, c1⟩, f1⟩ := block_at (j := j * 2 + 1) HC3.out (by rw [Array.size_setIfInBounds]; exact H2.out) (by omega)
      go_wp2
      go_roundw
      case rel =>
        refine ⟨j + 1, by omega, by go_num, ?_, ⟨_, heap_set _ HC3.out, ?_, ?_⟩, grown_tr HG3.out (grown_set _ _ _ _)⟩
        · rw [show ((k + 2 * (j + 1) : Nat) : Int) = (k : Int) + 2 * (j : Int) + 1 + 1 by omega]
        · rw [Array.size_setIfInBounds, Array.size_setIfInBounds]; exact H2.out
        · rw [marks_len, HMk.out, rs_append]
          exact take_set2 (by rw [H2.out]; omega) H3.out (marks_len k j)
      case measure => simp [intOf]; omega
    · have e : j = n := by omega
      subst e
      have HR := Lib.hid hR; clear hR
      go_wp2
      go_ret
      exact ⟨ret_int' (by omega), HR.out, hG⟩
set_option maxHeartbeats 400000 in
theorem markRdnS_none (ao : Option Addr) (cap k : Nat) (w : World) :
    Calls Tryz.prog 83 #[.slice ao 0 cap, .int .i64 k] w fun e w' => e = .returned (.int .i64 (k : Int)) ∧ w = w' := by
  go_enter Tryz.func83, Tryz.ntmps83
  go_wp2
  go_loop [1, 5] (fun t i => t = .int .i64 k ∧ i = .int .i64 0) (fun _ _ => 0)
  case atStart => exact ⟨rfl, rfl⟩
  case round =>
    obtain ⟨rfl, rfl⟩ := hrel
    go_wp2
    go_ret
    exact ⟨rfl, rfl⟩
/-- a name of the call's own is marked -/
theorem markRdnS_any (v : Value) (d : RdnL) (B k : Nat) (w : World) (hown : w.ownsRow B 97 2 v d.length (rs d)) (hm : d.length ≤ 1048576) (hk1 : 0 < k) (hk2 : k ≤ 1000) :
    Calls Tryz.prog 83 #[v, .int .i64 k] w fun e w' => e = .returned (.int .i64 ((k + 2 * d.length : Nat) : Int)) ∧ w'.ownsRow B 97 2 v (marks k d.length).length (rs (marks k d.length)) ∧ w.grownBy w' v.ownBlock := by
  by_cases h0 : d.length = 0
  · obtain ⟨ao, cap, rfl⟩ := own_slice hown
    have hd0 : d = [] := List.length_eq_zero_iff.1 h0
    subst hd0
    exact (markRdnS_none ao cap k w).mono fun e w' ⟨he, hw⟩ => by
      subst hw
      exact ⟨he, hown, ⟨rfl, rfl, rfl, Nat.le_refl _, fun _ _ _ => rfl⟩⟩
  · rcases hown.2 with ⟨rfl, hh⟩ | ⟨g, cap, cur, rfl, hb, hh, hc1, hc2, hc3, _⟩
    · omega
    · refine (markRdnS_some g d.length cap k w hc1 hm hk1 hk2 ⟨cur, hh, hc3⟩).mono fun e w' ⟨he, ⟨C, r1, r2, r3⟩, hg⟩ => ⟨he, ?_, hg⟩
      rw [marks_len] at r3 ⊢
      exact ⟨by rw [rs_length, marks_len], .inr ⟨g, cap, C, rfl, hb, r1, hc1, hc2, r2, r3⟩⟩
theorem markText_from (w0 : World) (n : Nat) (w : World) (h0 : 0 < n) (hn : n ≤ 1000000000) (hB : Below w0.heap.size w0 w) :
    Calls Tryz.prog 86 #[.int .i64 n] w fun e w' => e = .returned (.string (mkT n)) ∧ Below w0.heap.size w0 w' :=
  (markText_any n w h0 hn).mono fun _ _ ⟨he, hb⟩ => ⟨he, hB.trans (hb.mono hB.size)⟩
set_option maxRecDepth 100000 in
set_option maxHeartbeats 2000000 in
theorem heldRdnS_any (ao : Option Addr) (n cap k : Nat) (w : World) (hd : DnAt w ao (marks k n)) (hm : n ≤ 1048576) (hk1 : 0 < k) (hk2 : k ≤ 1000) :
    Calls Tryz.prog 122 #[.slice ao n cap, .int .i64 k] w fun e w' => e = .returned (.int .i64 ((k + 2 * n : Nat) : Int)) ∧ Below w.heap.size w w' := by
  have HD := Lib.hid hd; clear hd
  go_enter Tryz.func122, Tryz.ntmps122
  go_wp2
  go_loopw [1, 5] (fun t i wr => ∃ j : Nat, j ≤ n ∧ i = .int .i64 j ∧ t = .int .i64 ((k + 2 * j : Nat) : Int) ∧ Below w.heap.size w wr) (fun _ i _ => n - (intOf i).toNat)
  case atStart => exact ⟨0, Nat.zero_le _, rfl, rfl, Below.refl _ _⟩
  case round =>
    obtain ⟨j, hj, rfl, rfl, hbel⟩ := hrel
    by_cases hlt : j < n
    · have hl := marks_len k n
      obtain ⟨b, off, rfl, hb0, hd1, hd2⟩ := HD.out.at (k := j) (by omega)
      rw [marks_get k n j hlt] at hd1 hd2
      clear hl
      have HM1 := Lib.hid (fun W h => markText_from w (k + 2 * j) W (by omega) (by omega) h)
      have HM2 := Lib.hid (fun W h => markText_from w (k + 2 * j + 1) W (by omega) (by omega) h)
      rw [show ((k + 2 * j + 1 : Nat) : Int) = (k : Int) + 2 * (j : Int) + 1 by omega] at HM2
      rw [show ((k + 2 * j : Nat) : Int) = (k : Int) + 2 * (j : Int) by omega] at HM1 ⊢
      generalize mkT (k + 2 * j) = A at *
      generalize mkT (k + 2 * j + 1) = V at *
      have SK : Hid (∀ W : World, Below w.heap.size w W → (Below w.heap.size w W ∧ W.cell? ⟨b, off + j * 2, none⟩ = some (.string A) ∧ W.cell? ⟨b, off + j * 2 + 1, none⟩ = some (.string V))) :=
        Lib.hid (fun W h => ⟨h, (h.cell (p := ⟨b, _, none⟩) hb0).trans hd1, (h.cell (p := ⟨b, _, none⟩) hb0).trans hd2⟩)
      clear hd1 hd2
      have g1 : (0 : Int) ≤ (j : Int) := by omega
      have g2 : (j : Int) < (n : Int) := by omega
      have hbd := hbel.drew
      go_wp2_with fail
      go_region_held3 (fun W => Below w.heap.size w W ∧ W.cell? ⟨b, off + j * 2, none⟩ = some (.string A) ∧ W.cell? ⟨b, off + j * 2 + 1, none⟩ = some (.string V))
        (exact SK.out _ (by assumption))
        (first | (go_at_call 86; refine (HM1.out _ (by assumption)).mono ?_; rintro e w2 ⟨rfl, hb2⟩) | (fail "none"))
      have hb2d := hb2.drew
      clear hbel hbd
      go_wp2_with fail
      go_region_held3 (fun W => Below w.heap.size w W ∧ W.cell? ⟨b, off + j * 2, none⟩ = some (.string A) ∧ W.cell? ⟨b, off + j * 2 + 1, none⟩ = some (.string V))
        (exact SK.out _ (by assumption))
        (first | (go_at_call 86; refine (HM2.out _ (by assumption)).mono ?_; rintro e w3 ⟨rfl, hb3⟩) | (fail "none"))
      go_wp2
      go_roundw
      case rel => exact ⟨j + 1, by omega, by go_num, by rw [show ((k + 2 * (j + 1) : Nat) : Int) = (k : Int) + 2 * (j : Int) + 1 + 1 by omega], hb3⟩
      case measure => simp [intOf]; omega
    · have e : j = n := by omega
      subst e
      go_wp2
      go_ret
      exact ⟨ret_int' (by omega), hbel⟩
end Go.Proofs.YtjajpdghamecoaaGreat
