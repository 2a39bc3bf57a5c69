/- The helpers of the laws over entries: sizes. -/
import Derived.Test.YtjajpdghamecoaaEntMath
namespace Go.Proofs.Ytjajpdghamecoaa
open Go.RowKit
attribute [local go_sem ↓] Go.wp_at_zero Go.wp_at_succ

set_option maxRecDepth 100000 in
set_option maxHeartbeats 1000000 in
theorem szStringS_any (ao : Option Addr) (d : List ByteArray) (cap : Nat) (left : Int) (w : World) (hd : StrsAt w ao d) (hf : LongV d) (h0 : 0 ≤ left) (h1 : left ≤ 1048576) :
    Calls Try.prog 129 #[.slice ao d.length cap, .int .i64 left] w fun e w' => e = .returned (.int .i64 (leftR (d.length + sizeV d) left)) ∧ Below w.heap.size w w' := by
  have hl := hf.1
  have HD := Lib.hid hd; have HF := Lib.hid hf; clear hd hf
  by_cases g : (d.length : Int) ≤ left
  · have c1 : ¬ left - (d.length : Int) < 0 := by omega
    go_enter Try.func129, Try.ntmps129
    go_wp2
    go_loopw [1, 5] (fun t i wr => ∃ k : Nat, k ≤ d.length ∧ i = .int .i64 k ∧ ((d.length + sizeV (d.take k) : Nat) : Int) ≤ left ∧ t = .int .i64 (left - (d.length + sizeV (d.take k) : Nat)) ∧ Below w.heap.size w wr) (fun _ i _ => d.length - (intOf i).toNat)
    case atStart => exact ⟨0, Nat.zero_le _, rfl, by simp [sizeV]; omega, by simp [sizeV], Below.refl _ _⟩
    case round =>
      clear c1
      obtain ⟨k, hk, rfl, hle, rfl, hbel⟩ := hrel
      have hsz := hbel.size
      by_cases hlt : k < d.length
      · obtain ⟨b, off, rfl, hb0, hd1⟩ := HD.out.at hlt
        have hc1 := (hbel.cell (p := ⟨b, off + k, none⟩) hb0).trans hd1
        have hz := HF.out.2 _ (List.getElem_mem hlt)
        unfold maxLen at hz
        have HT := Lib.hid (sizeV_take d k hlt)
        have HTl := Lib.hid (sizeV_le d (k + 1))
        clear hd1
        generalize d[k] = A at *
        generalize hq : d.length + sizeV (d.take k) = q at *
        have Hq := Lib.hid hq; clear hq
        by_cases hfit : ((A.size : Nat) : Int) ≤ left - (q : Int)
        · have c2 : ¬ left - (q : Int) - (A.size : Int) < 0 := by omega
          go_wp2
          go_roundw
          case rel =>
            have e := HT.out
            have e3 := Hq.out
            exact ⟨k + 1, by omega, by go_num, by omega, by rw [e]; congr 1; omega, hbel⟩
          case measure => simp [intOf]; omega
        · have c2 : left - (q : Int) - (A.size : Int) < 0 := by omega
          have HR : Hid (leftR (d.length + sizeV d) left = -1) := Lib.hid (leftR_neg (by
            have := HT.out; have := HTl.out; have := Hq.out; omega))
          go_wp2
          go_ret
          exact ⟨ret_int' (by rw [HR.out]), hbel⟩
      · have HR : Hid (leftR (d.length + sizeV d) left = left - (d.length + sizeV (d.take k) : Nat)) := Lib.hid (by
          rw [List.take_of_length_le (by omega)] at hle ⊢
          exact leftR_pos hle)
        go_wp2
        go_ret
        exact ⟨ret_int' (by rw [HR.out]), hbel⟩
  · have HR : Hid (leftR (d.length + sizeV d) left = -1) := Lib.hid (leftR_neg (by omega))
    have c1 : left - (d.length : Int) < 0 := by omega
    go_enter Try.func129, Try.ntmps129
    go_wp2
    go_ret
    exact ⟨ret_int' (by rw [HR.out]), Below.refl _ _⟩
set_option maxHeartbeats 400000 in
theorem szAttr_any (A : ByteArray) (vo : Option Addr) (l : List ByteArray) (vc : Nat) (left : Int) (w : World) (hA : A.size ≤ maxLen) (hd : StrsAt w vo l) (hf : LongV l) (h0 : 0 ≤ left) (h1 : left ≤ 1048576) :
    Calls Try.prog 101 #[.agg #[.string A, .slice vo l.length vc], .int .i64 left] w fun e w' => e = .returned (.int .i64 (leftR (sizeA (A, l)) left)) ∧ Below w.heap.size w w' := by
  unfold maxLen at hA
  have HD := Lib.hid hd; have HF := Lib.hid hf; clear hd hf
  have HE : Hid (sizeA (A, l) = A.size + (l.length + sizeV l)) := Lib.hid rfl
  by_cases g1 : (A.size : Int) ≤ left
  · have c1 : ¬ left - (A.size : Int) < 0 := by omega
    go_enter Try.func101, Try.ntmps101
    go_wp2_with fail
    refine (szStringS_any vo l vc (left - (A.size : Int)) _ (HD.out.below ((Below.refl _ _).alloc (Nat.le_refl _) _)) HF.out (by omega) (by omega)).mono ?_
    rintro e w2 ⟨rfl, hb2⟩
    have B2 := Lib.hid (((Below.refl _ w).alloc (Nat.le_refl _) _).trans (hb2.mono (by simp))); clear hb2
    by_cases hfit : ((l.length + sizeV l : Nat) : Int) ≤ left - (A.size : Int)
    · rw [leftR_pos hfit]
      have HR : Hid (leftR (sizeA (A, l)) left = left - (A.size : Int) - ((l.length + sizeV l : Nat) : Int)) := Lib.hid (by rw [leftR_pos (by rw [HE.out]; omega), HE.out]; omega)
      generalize l.length + sizeV l = r at *
      have c2 : ¬ left - (A.size : Int) - (r : Int) < 0 := by omega
      go_wp2
      go_ret
      exact ⟨ret_int' (by rw [HR.out]), B2.out⟩
    · rw [leftR_neg hfit]
      have HR : Hid (leftR (sizeA (A, l)) left = -1) := Lib.hid (leftR_neg (by rw [HE.out]; omega))
      go_wp2
      go_ret
      exact ⟨ret_int' (by rw [HR.out]), B2.out⟩
  · have HR : Hid (leftR (sizeA (A, l)) left = -1) := Lib.hid (leftR_neg (by rw [HE.out]; omega))
    have c1 : left - (A.size : Int) < 0 := by omega
    go_enter Try.func101, Try.ntmps101
    go_wp2
    go_ret
    exact ⟨ret_int' (by rw [HR.out]), (Below.refl _ _).alloc (Nat.le_refl _) _⟩
set_option maxRecDepth 100000 in
set_option maxHeartbeats 1000000 in
theorem szAttrS_any (ao : Option Addr) (d : List AttrV) (cap : Nat) (left : Int) (w : World) (hd : AttrsAt w ao d) (hf : LongA d) (h0 : 0 ≤ left) (h1 : left ≤ 1048576) :
    Calls Try.prog 62 #[.slice ao d.length cap, .int .i64 left] w fun e w' => e = .returned (.int .i64 (leftR (d.length + sizeAs d) left)) ∧ Below w.heap.size w w' := by
  have hl := hf.1
  have HD := Lib.hid hd; have HF := Lib.hid hf; clear hd hf
  by_cases g : (d.length : Int) ≤ left
  · have c1 : ¬ left - (d.length : Int) < 0 := by omega
    go_enter Try.func62, Try.ntmps62
    go_wp2
    go_loopw [1, 5] (fun t i wr => ∃ k : Nat, k ≤ d.length ∧ i = .int .i64 k ∧ ((d.length + sizeAs (d.take k) : Nat) : Int) ≤ left ∧ t = .int .i64 (left - (d.length + sizeAs (d.take k) : Nat)) ∧ Below w.heap.size w wr) (fun _ i _ => d.length - (intOf i).toNat)
    case atStart => exact ⟨0, Nat.zero_le _, rfl, by simp [sizeAs]; omega, by simp [sizeAs], Below.refl _ _⟩
    case round =>
      clear c1
      obtain ⟨k, hk, rfl, hle, rfl, hbel⟩ := hrel
      have hsz := hbel.size
      by_cases hlt : k < d.length
      · obtain ⟨b, off, vo, vc, rfl, hb0, hc1, hc2, hv⟩ := (HD.out.below hbel).at hlt
        have HV := Lib.hid hv; clear hv
        have hz := HF.out.2 _ (List.getElem_mem hlt)
        have HZ := Lib.hid hz; clear hz
        have HT := Lib.hid (sizeAs_take d k hlt)
        have HTl := Lib.hid (sizeAs_le d (k + 1))
        have HE : Hid (sizeA d[k] = sizeA (d[k].1, d[k].2)) := Lib.hid rfl
        generalize d[k].1 = A at *
        generalize d[k].2 = V at *
        generalize hq : d.length + sizeAs (d.take k) = q at *
        have Hq := Lib.hid hq; clear hq
        go_wp2_with fail
        refine (szAttr_any A vo V vc (left - (q : Int)) wr HZ.out.1 HV.out.1 HZ.out.2 (by omega) (by omega)).mono ?_
        rintro e w2 ⟨rfl, hb2⟩
        have B2 := Lib.hid (hbel.trans (hb2.mono hsz)); clear hb2
        by_cases hfit : ((sizeA (A, V) : Nat) : Int) ≤ left - (q : Int)
        · rw [leftR_pos hfit]
          generalize hr : sizeA (A, V) = r at *
          have Hr := Lib.hid hr; clear hr
          have c2 : ¬ left - (q : Int) - (r : Int) < 0 := by omega
          go_wp2
          go_roundw
          case rel =>
            have e := HT.out
            have e2 := HE.out
            have e3 := Hq.out
            have e4 := Hr.out
            exact ⟨k + 1, by omega, by go_num, by omega, by rw [e]; congr 1; omega, B2.out⟩
          case measure => simp [intOf]; omega
        · rw [leftR_neg hfit]
          have HR : Hid (leftR (d.length + sizeAs d) left = -1) := Lib.hid (leftR_neg (by
            have := HT.out; have := HTl.out; have := HE.out; have := Hq.out; omega))
          go_wp2
          go_ret
          exact ⟨ret_int' (by rw [HR.out]), B2.out⟩
      · have HR : Hid (leftR (d.length + sizeAs d) left = left - (d.length + sizeAs (d.take k) : Nat)) := Lib.hid (by
          rw [List.take_of_length_le (by omega)] at hle ⊢
          exact leftR_pos hle)
        go_wp2
        go_ret
        exact ⟨ret_int' (by rw [HR.out]), hbel⟩
  · have HR : Hid (leftR (d.length + sizeAs d) left = -1) := Lib.hid (leftR_neg (by omega))
    have c1 : left - (d.length : Int) < 0 := by omega
    go_enter Try.func62, Try.ntmps62
    go_wp2
    go_ret
    exact ⟨ret_int' (by rw [HR.out]), Below.refl _ _⟩
def sizeE (d : RdnL) (l : List AttrV) : Nat := d.length + sizeS d + (l.length + sizeAs l)
set_option maxHeartbeats 400000 in
theorem szEntry_any (ao bo : Option Addr) (d : RdnL) (l : List AttrV) (ca cb : Nat) (left : Int) (w : World) (hd : DnAt w ao d) (hl : AttrsAt w bo l) (hfd : Long d) (hfl : LongA l) (h0 : 0 ≤ left) (h1 : left ≤ 1048576) :
    Calls Try.prog 27 #[.agg #[.slice ao d.length ca, .slice bo l.length cb], .int .i64 left] w fun e w' => e = .returned (.int .i64 (leftR (sizeE d l) left)) ∧ Below w.heap.size w w' := by
  have HD := Lib.hid hd; have HF := Lib.hid hfd; have HL := Lib.hid hl; have HG := Lib.hid hfl; clear hd hfd hl hfl
  have HE : Hid (sizeE d l = d.length + sizeS d + (l.length + sizeAs l)) := Lib.hid rfl
  have hb0 : Below w.heap.size w (w.alloc (.cells #[.slice ao d.length ca, .slice bo l.length cb] 38)) := (Below.refl _ _).alloc (Nat.le_refl _) _
  have B0 := Lib.hid hb0; clear hb0
  go_enter Try.func27, Try.ntmps27
  go_wp2_with fail
  refine (szRdnS_any ao d ca left _ (HD.out.below B0.out) HF.out h0 h1).mono ?_
  rintro e w1 ⟨rfl, hb1⟩
  have B1 := Lib.hid (B0.out.trans (hb1.mono B0.out.size))
  have c0 : w1.cell? ⟨w.heap.size, 1, none⟩ = some (.slice bo l.length cb) := (hb1.cell (p := ⟨w.heap.size, 1, none⟩) (by simp)).trans (by unfold World.cell?; rw [heap_alloc_new]; rfl)
  clear hb1
  by_cases g1 : ((d.length + sizeS d : Nat) : Int) ≤ left
  · rw [leftR_pos g1]
    generalize hq : d.length + sizeS d = q at *
    have Hq := Lib.hid hq; clear hq
    have c1 : ¬ left - (q : Int) < 0 := by omega
    go_wp2_with fail
    refine (szAttrS_any bo l cb (left - (q : Int)) w1 (HL.out.below B1.out) HG.out (by omega) (by omega)).mono ?_
    rintro e w2 ⟨rfl, hb2⟩
    have B2 := Lib.hid (B1.out.trans (hb2.mono B1.out.size)); clear hb2
    by_cases g2 : ((l.length + sizeAs l : Nat) : Int) ≤ left - (q : Int)
    · rw [leftR_pos g2]
      have HR : Hid (leftR (sizeE d l) left = left - (q : Int) - ((l.length + sizeAs l : Nat) : Int)) := Lib.hid (by rw [leftR_pos (by rw [HE.out]; omega), HE.out]; omega)
      generalize l.length + sizeAs l = r at *
      have c2 : ¬ left - (q : Int) - (r : Int) < 0 := by omega
      go_wp2
      go_ret
      exact ⟨ret_int' (by rw [HR.out]), B2.out⟩
    · rw [leftR_neg g2]
      have HR : Hid (leftR (sizeE d l) left = -1) := Lib.hid (leftR_neg (by rw [HE.out]; omega))
      go_wp2
      go_ret
      exact ⟨ret_int' (by rw [HR.out]), B2.out⟩
  · rw [leftR_neg g1]
    have HR : Hid (leftR (sizeE d l) left = -1) := Lib.hid (leftR_neg (by rw [HE.out]; omega))
    go_wp2
    go_ret
    exact ⟨ret_int' (by rw [HR.out]), B1.out⟩
end Go.Proofs.Ytjajpdghamecoaa
