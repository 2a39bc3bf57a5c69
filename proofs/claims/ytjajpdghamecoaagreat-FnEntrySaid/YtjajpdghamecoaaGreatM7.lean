/- Merged texts: EntOwn, EntMk, EntMk2. -/
import Derived.Test.YtjajpdghamecoaaGreatM6
/- Copies of entries, in blocks of their own. -/
namespace Go.Proofs.YtjajpdghamecoaaGreat
open Go.RowKit
attribute [local go_sem ↓] Go.wp_at_zero Go.wp_at_succ

theorem RowS.below {w w' : World} {g n : Nat} {l : List ByteArray} (h : RowS w g n l) (hb : Below w.heap.size w w') : RowS w' g n l := by
  obtain ⟨C, h1, h2⟩ := h
  exact ⟨C, (hb.block g (Array.getElem?_eq_some_iff.1 h1).1).trans h1, h2⟩
theorem RowS.far {w : World} {g n R j : Nat} {l : List ByteArray} (h : RowS w g n l) (hne : g ≠ R) (v : Value) : RowS (w.setCell ⟨R, j, none⟩ v) g n l := by
  obtain ⟨C, h1, h2⟩ := h
  exact ⟨C, (Below.heap_setCell _ _ _ _ hne).trans h1, h2⟩
/-- a copy of texts, in a new block -/
def CopyR (w : World) (l : List ByteArray) (v : Value) (w' : World) : Prop := ∃ g, v = .slice (some ⟨g, 0, none⟩) l.length l.length ∧ w.heap.size ≤ g ∧ g < w'.heap.size ∧ RowS w' g l.length l ∧ Below w.heap.size w w'
set_option maxRecDepth 100000 in
set_option maxHeartbeats 1000000 in
theorem toStringS_row (ao : Option Addr) (d : List ByteArray) (cap : Nat) (w : World) (hd : StrsAt w ao d) (hl : d.length ≤ 1048576) :
    Calls Tryz.prog 38 #[.slice ao d.length cap] w fun e w' => ∃ v, e = .returned v ∧ CopyR w d v w' := by
  have HD := Lib.hid hd; clear hd
  obtain ⟨C, hC, hmk⟩ := make47 d.length hl w
  have HC := Lib.hid hC; clear hC
  go_enter Tryz.func38, Tryz.ntmps38
  go_wp2
  clear hmk
  go_loopw [4] (fun i wr => ∃ k : Nat, k ≤ d.length ∧ i = .int .i64 k ∧ RowS wr w.heap.size d.length (d.take k) ∧ Below w.heap.size w wr) (fun i _ => d.length - (intOf i).toNat)
  case atStart => exact ⟨0, Nat.zero_le _, rfl, ⟨C, heap_alloc_new w _, HC.out, fun i h => by simp at h⟩, (Below.refl _ _).alloc (Nat.le_refl _) _⟩
  case round =>
    obtain ⟨k, hk, rfl, hR, hbel⟩ := hrel
    have HR := Lib.hid hR; clear hR
    have hsz := hbel.size
    by_cases hlt : k < d.length
    · obtain ⟨b, off, rfl, hb0, hd1⟩ := HD.out.at hlt
      have hc1 := (hbel.cell (p := ⟨b, off + k, none⟩) hb0).trans hd1
      have HT : Hid (d.take (k + 1) = d.take k ++ [d[k]]) := Lib.hid (List.take_succ_eq_append_getElem hlt)
      have HK : Hid ((d.take k).length = k) := Lib.hid (by rw [List.length_take]; omega)
      clear hd1
      generalize d[k] = A at *
      obtain ⟨⟨x, c0⟩, f0⟩ := HR.out.at hlt
      go_wp2
      go_roundw
      case rel => exact ⟨k + 1, by omega, by go_num, by rw [HT.out]; exact HR.out.set HK.out hlt A, hbel.setCell (Nat.le_refl _) _⟩
      case measure => simp [intOf]; omega
    · have e : d.take k = d := List.take_of_length_le (by omega)
      rw [e] at HR
      clear e
      go_wp2
      go_ret
      exact ⟨_, rfl, w.heap.size, rfl, Nat.le_refl _, (by obtain ⟨C, h1, _⟩ := HR.out; exact (Array.getElem?_eq_some_iff.1 h1).1), HR.out, hbel⟩
theorem CopyR.low {w w0 w' : World} {l : List ByteArray} {v : Value} (h : CopyR w l v w') (hb : Below w0.heap.size w0 w) : CopyR w0 l v w' := by
  obtain ⟨g, h1, h2, h3, h4, h5⟩ := h
  exact ⟨g, h1, Nat.le_trans hb.size h2, h3, h4, hb.trans (h5.mono hb.size)⟩
set_option maxRecDepth 100000 in
set_option maxHeartbeats 1000000 in
theorem toAttr_row (A : ByteArray) (vo : Option Addr) (l : List ByteArray) (vc : Nat) (w : World) (hd : StrsAt w vo l) (hl : l.length ≤ 1048576) :
    Calls Tryz.prog 119 #[.agg #[.string A, .slice vo l.length vc]] w fun e w' => ∃ v, e = .returned (.agg #[.string A, v]) ∧ CopyR w l v w' := by
  have HD := Lib.hid hd; clear hd
  go_enter Tryz.func119, Tryz.ntmps119
  go_wp2_with fail
  refine calls_any' (fun W => Below w.heap.size w W ∧ StrsAt W vo l ∧ Two W (w.heap.size + 1) 48 (.string ⟨#[]⟩) (.slice none 0 0) ∧ Two W (w.heap.size + 1 + 1) 48 (.string A) (.slice none 0 0)) ⟨more (more (more (Below.refl _ _) _) _) _, HD.out.below (more (more (more (Below.refl _ _) _) _) _), ?_, ?_⟩ ?_
  · exact Two.alloc (by have := twoNew (w.alloc (Obj.cells #[Value.string A, Value.slice vo l.length vc] 120)) 48 (.string ⟨#[]⟩) (.slice none 0 0); simpa using this) _
  · have := twoNew ((w.alloc (Obj.cells #[Value.string A, Value.slice vo l.length vc] 120)).alloc (Obj.cells #[Value.string ⟨#[]⟩, Value.slice none 0 0] 48)) 48 (.string A) (.slice none 0 0); simpa using this
  rintro W ⟨hbW, hsW, ht1, ht2⟩
  refine (toStringS_row vo l vc W hsW hl).mono ?_
  rintro e w2 ⟨v, rfl, g, rfl, hg1, hg2, hst, hb2⟩
  have T1 := Lib.hid (ht1.below hb2); have T2 := Lib.hid (ht2.below hb2); have ST := Lib.hid hst
  have B2 := Lib.hid (hbW.trans (hb2.mono hbW.size))
  have hn1 : w.heap.size + 1 + 1 < W.heap.size := ht2.lt
  clear ht1 ht2 hst hb2 hsW
  obtain ⟨⟨c0, c1⟩, f0, f1⟩ := T2.out.cells
  obtain ⟨⟨d0, d1⟩, g0, g1⟩ := T1.out.cells
  have TE := ((T1.out.far (R := w.heap.size + 1 + 1) (j := 1) (by omega) (.slice (some ⟨g, 0, none⟩) l.length l.length)).set0 (.string A)).set1 (.slice (some ⟨g, 0, none⟩) l.length l.length)
  obtain ⟨⟨k0, k1⟩, _⟩ := TE.cells
  clear TE
  go_wp2_with fail
  refine bodyPost_ret (v := .agg #[.string A, .slice (some ⟨g, 0, none⟩) l.length l.length]) (by simp [results, Tryz.results119, go_sem, k0, k1]) rfl ⟨_, rfl, g, rfl, ?_, ?_, ?_, ?_⟩
  · have := hbW.size; omega
  · simpa [World.setCell] using hg2
  · exact ((ST.out.far (by omega) _).far (by omega) _).far (by omega) _
  · exact ((B2.out.setCell (p := ⟨w.heap.size + 1 + 1, 1, none⟩) (by show w.heap.size ≤ w.heap.size + 1 + 1; omega) _).setCell (p := ⟨w.heap.size + 1, 0, none⟩) (by show w.heap.size ≤ w.heap.size + 1; omega) _).setCell (p := ⟨w.heap.size + 1, 1, none⟩) (by show w.heap.size ≤ w.heap.size + 1; omega) _
/-- a block of attributes, the first of them known -/
def RowB (w : World) (g n : Nat) (l : List AttrV) : Prop := ∃ C : Array Value, w.heap[g]? = some (.cells C 48 (0, 0)) ∧ C.size = n * 2 ∧
  ∀ i (h : i < l.length), C[i * 2]? = some (.string l[i].1) ∧ ∃ b, C[i * 2 + 1]? = some (.slice (some ⟨b, 0, none⟩) l[i].2.length l[i].2.length) ∧ g < b ∧ RowS w b l[i].2.length l[i].2
theorem RowB.lt {w : World} {g n : Nat} {l : List AttrV} (h : RowB w g n l) : g < w.heap.size := by obtain ⟨C, h1, _⟩ := h; exact (Array.getElem?_eq_some_iff.1 h1).1
theorem RowB.below {w w' : World} {g n : Nat} {l : List AttrV} (h : RowB w g n l) (hb : Below w.heap.size w w') : RowB w' g n l := by
  obtain ⟨C, h1, h2, h3⟩ := h
  refine ⟨C, (hb.block g (Array.getElem?_eq_some_iff.1 h1).1).trans h1, h2, fun i hi => ?_⟩
  obtain ⟨p, b, q, r, s⟩ := h3 i hi
  exact ⟨p, b, q, r, s.below hb⟩
theorem RowB.at {w : World} {g n k : Nat} {l : List AttrV} (h : RowB w g n l) (hk : k < n) :
    (∃ x y, w.cell? ⟨g, k * 2, none⟩ = some x ∧ w.cell? ⟨g, k * 2 + 1, none⟩ = some y) ∧ w.frozen? ⟨g, k * 2, none⟩ = false ∧ w.frozen? ⟨g, k * 2 + 1, none⟩ = false := by
  obtain ⟨C, h1, h2, _⟩ := h
  refine ⟨⟨C[k * 2]'(by omega), C[k * 2 + 1]'(by omega), ?_, ?_⟩, ?_, ?_⟩
  · rw [cell_of_row w g _ C 48 (0, 0) h1]; exact Array.getElem?_eq_getElem (by omega)
  · rw [cell_of_row w g _ C 48 (0, 0) h1]; exact Array.getElem?_eq_getElem (by omega)
  · simp [World.frozen?, h1]
  · simp [World.frozen?, h1]
theorem RowB.set {w : World} {g n k b : Nat} {l : List AttrV} {A : ByteArray} {V : List ByteArray} (h : RowB w g n l) (hl : l.length = k) (hk : k < n) (hb : g < b) (hs : RowS w b V.length V) :
    RowB ((w.setCell ⟨g, k * 2, none⟩ (.string A)).setCell ⟨g, k * 2 + 1, none⟩ (.slice (some ⟨b, 0, none⟩) V.length V.length)) g n (l ++ [(A, V)]) := by
  obtain ⟨C, h1, h2, h3⟩ := h
  refine ⟨_, heap_set _ (heap_set _ h1), by simp [h2], fun i hi => ?_⟩
  rw [Array.getElem?_setIfInBounds, Array.getElem?_setIfInBounds, Array.getElem?_setIfInBounds, Array.getElem?_setIfInBounds]
  by_cases e : i = k
  · subst e
    have hL : (l ++ [(A, V)])[i] = (A, V) := by rw [List.getElem_append_right (by omega)]; simp
    rw [hL, if_neg (by omega), if_pos rfl, if_pos (by omega), if_pos rfl, if_pos (by simp; omega)]
    exact ⟨rfl, b, rfl, hb, (hs.far (by omega) _).far (by omega) _⟩
  · have hi' : i < l.length := by simp at hi; omega
    rw [List.getElem_append_left hi', if_neg (by omega), if_neg (by omega), if_neg (by omega), if_neg (by omega)]
    obtain ⟨p, b', q, r, s⟩ := h3 i hi'
    exact ⟨p, b', q, r, (s.far (by omega) _).far (by omega) _⟩
theorem RowB.attrs {w : World} {g n : Nat} {l : List AttrV} (h : RowB w g n l) : AttrsAt w (some ⟨g, 0, none⟩) l := by
  obtain ⟨C, h1, h2, h3⟩ := h
  refine .inr ⟨g, 0, rfl, (Array.getElem?_eq_some_iff.1 h1).1, fun i hi => ?_⟩
  obtain ⟨p, b, q, r, s⟩ := h3 i hi
  refine ⟨?_, some ⟨b, 0, none⟩, l[i].2.length, ?_, s.strs, Nat.le_refl _, fun e => by cases e⟩
  · rw [cell_of_row w g _ C 48 (0, 0) h1, Nat.zero_add]; exact p
  · rw [cell_of_row w g _ C 48 (0, 0) h1, Nat.zero_add]; exact q
/-- a copy of attributes, in new blocks -/
def CopyB (w : World) (l : List AttrV) (v : Value) (w' : World) : Prop := ∃ g, v = .slice (some ⟨g, 0, none⟩) l.length l.length ∧ w.heap.size ≤ g ∧ RowB w' g l.length l ∧ Below w.heap.size w w'
set_option maxRecDepth 100000 in
set_option maxHeartbeats 1000000 in
theorem toAttrS_row (ao : Option Addr) (d : List AttrV) (cap : Nat) (w : World) (hd : AttrsAt w ao d) (hf : FitsA d) :
    Calls Tryz.prog 80 #[.slice ao d.length cap] w fun e w' => ∃ v, e = .returned v ∧ CopyB w d v w' := by
  have hl := hf.1
  have HD := Lib.hid hd; have HF := Lib.hid hf; clear hd hf
  obtain ⟨C, hC, hmk⟩ := make41 d.length hl w
  have HC := Lib.hid hC; clear hC
  go_enter Tryz.func80, Tryz.ntmps80
  go_wp2
  clear hmk
  go_loopw [4] (fun i wr => ∃ k : Nat, k ≤ d.length ∧ i = .int .i64 k ∧ RowB wr w.heap.size d.length (d.take k) ∧ Below w.heap.size w wr) (fun i _ => d.length - (intOf i).toNat)
  case atStart => exact ⟨0, Nat.zero_le _, rfl, ⟨C, heap_alloc_new w _, HC.out, fun i h => by simp at h⟩, (Below.refl _ _).alloc (Nat.le_refl _) _⟩
  case round =>
    obtain ⟨k, hk, rfl, hR, hbel⟩ := hrel
    have HR := Lib.hid hR; clear hR
    have hsz := hbel.size
    by_cases hlt : k < d.length
    · obtain ⟨b, off, vo, vc, rfl, hb0, hc1, hc2, hv⟩ := (HD.out.below hbel).at hlt
      have HV := Lib.hid hv.1; clear hv
      have hz := (HF.out.at hlt).2.1
      have HT : Hid (d.take (k + 1) = d.take k ++ [(d[k].1, d[k].2)]) := Lib.hid (List.take_succ_eq_append_getElem hlt)
      have HK : Hid ((d.take k).length = k) := Lib.hid (by rw [List.length_take]; omega)
      have hgw : w.heap.size < wr.heap.size := HR.out.lt
      generalize d[k].1 = A at *
      generalize d[k].2 = V at *
      go_wp2_with fail
      refine (toAttr_row A vo V vc wr HV.out hz).mono ?_
      rintro e w2 ⟨v, rfl, g, rfl, hg1, hg2, hst, hb2⟩
      have HR2 := Lib.hid (HR.out.below hb2)
      have B2 := Lib.hid (hbel.trans (hb2.mono hsz))
      have ST := Lib.hid hst
      clear hb2 hc1 hc2 hst
      obtain ⟨⟨x, y, c0, c1⟩, f0, f1⟩ := HR2.out.at hlt
      go_wp2
      go_roundw
      case rel => exact ⟨k + 1, by omega, by go_num, by rw [HT.out]; exact HR2.out.set HK.out hlt (by omega) ST.out, (B2.out.setCell (Nat.le_refl _) _).setCell (Nat.le_refl _) _⟩
      case measure => simp [intOf]; omega
    · have e : d.take k = d := List.take_of_length_le (by omega)
      rw [e] at HR
      clear e
      go_wp2
      go_ret
      exact ⟨_, rfl, w.heap.size, rfl, Nat.le_refl _, HR.out, hbel⟩
theorem RowB.far {w : World} {g n R j : Nat} {l : List AttrV} (h : RowB w g n l) (hR : R < g) (v : Value) : RowB (w.setCell ⟨R, j, none⟩ v) g n l := by
  obtain ⟨C, h1, h2, h3⟩ := h
  refine ⟨C, (Below.heap_setCell _ _ _ _ (show g ≠ R by omega)).trans h1, h2, fun i hi => ?_⟩
  obtain ⟨p, b, q, r, s⟩ := h3 i hi
  exact ⟨p, b, q, r, s.far (by omega) _⟩
end Go.Proofs.YtjajpdghamecoaaGreat
/- The helpers of the laws: marks laid into texts, and found there again. -/
namespace Go.Proofs.YtjajpdghamecoaaGreat
open Go.RowKit
attribute [local go_sem ↓] Go.wp_at_zero Go.wp_at_succ

/-- n marks, from k on -/
def marksS (k n : Nat) : List ByteArray := (List.range n).map fun i => mkT (k + i)
theorem marksS_len (k n : Nat) : (marksS k n).length = n := by simp [marksS]
theorem marksS_succ (k n : Nat) : marksS k (n + 1) = marksS k n ++ [mkT (k + n)] := by simp [marksS, List.range_succ]
theorem marksS_get (k n i : Nat) (h : i < (marksS k n).length) : (marksS k n)[i] = mkT (k + i) := by simp [marksS]
/-- a block of n texts -/
def StrSh (w : World) (b n : Nat) : Prop := ∃ C : Array Value, w.heap[b]? = some (.cells C 9 (0, 0)) ∧ C.size = n
theorem RowS.sh {w : World} {g n : Nat} {l : List ByteArray} (h : RowS w g n l) : StrSh w g n := by obtain ⟨C, h1, h2, _⟩ := h; exact ⟨C, h1, h2⟩
theorem StrSh.lt {w : World} {b n : Nat} (h : StrSh w b n) : b < w.heap.size := by obtain ⟨C, h1, _⟩ := h; exact (Array.getElem?_eq_some_iff.1 h1).1
theorem StrSh.below {w w' : World} {b n : Nat} (h : StrSh w b n) (hb : Below w.heap.size w w') : StrSh w' b n := by
  obtain ⟨C, h1, h2⟩ := h
  exact ⟨C, (hb.block b (Array.getElem?_eq_some_iff.1 h1).1).trans h1, h2⟩
set_option maxRecDepth 100000 in
set_option maxHeartbeats 2000000 in
theorem markStringS_some (g n cap k : Nat) (w : World) (hn : n ≤ cap) (hm : n ≤ 1048576) (hk1 : 0 < k) (hk2 : k ≤ 10000000) (hB : StrSh w g cap) :
    Calls Tryz.prog 40 #[.slice (some ⟨g, 0, none⟩) n cap, .int .i64 k] w fun e w' => e = .returned (.int .i64 ((k + n : Nat) : Int)) ∧ RowS w' g cap (marksS k n) ∧ w.grownBy w' (some g) := by
  have hg := hB.lt
  have HB := Lib.hid hB; clear hB
  go_enter Tryz.func40, Tryz.ntmps40
  go_wp2
  go_loopw [1, 5] (fun t i wr => ∃ j : Nat, j ≤ n ∧ i = .int .i64 j ∧ t = .int .i64 ((k + j : Nat) : Int) ∧ RowS wr g cap (marksS k j) ∧ w.grownBy wr (some g)) (fun _ i _ => n - (intOf i).toNat)
  case atStart =>
    obtain ⟨C, h1, h2⟩ := HB.out
    exact ⟨0, Nat.zero_le _, rfl, rfl, ⟨C, h1, h2, fun i h => by simp [marksS] at h⟩, ⟨rfl, rfl, rfl, Nat.le_refl _, fun _ _ _ => rfl⟩⟩
  case round =>
    obtain ⟨j, hj, rfl, rfl, hR, hG⟩ := hrel
    have HR := Lib.hid hR; have HG := Lib.hid hG; clear hR hG
    by_cases hlt : j < n
    · have HMk := Lib.hid (marksS_succ k j)
      have HLn := Lib.hid (marksS_len k j)
      have g1 : (0 : Int) ≤ (j : Int) := by omega
      have g2 : (j : Int) < (n : Int) := by omega
      go_wp2_with fail
      refine (markText_any (k + j) wr (by omega) (by omega)).mono ?_
      rintro e w2 ⟨rfl, hb2⟩
      have HR2 := Lib.hid (HR.out.below hb2)
      have HG2 := Lib.hid (grown_tr HG.out (grown_of hb2 _))
      clear hb2
      obtain ⟨⟨x0, c0⟩, f0⟩ := HR2.out.at (k := j) (by omega)
      generalize mkT (k + j) = A at *
      go_wp2
      go_roundw
      case rel =>
        refine ⟨j + 1, by omega, by go_num, ?_, ?_, grown_tr HG2.out (grown_set _ _ _ _)⟩
        · rw [show ((k + (j + 1) : Nat) : Int) = (k : Int) + (j : Int) + 1 by omega]
        · rw [HMk.out]; exact HR2.out.set HLn.out (by omega) A
      case measure => simp [intOf]; omega
    · have e : j = n := by omega
      subst e
      go_wp2
      go_ret
      exact ⟨ret_int' (by omega), HR.out, HG.out⟩
set_option maxHeartbeats 400000 in
theorem markStringS_none (ao : Option Addr) (cap k : Nat) (w : World) :
    Calls Tryz.prog 40 #[.slice ao 0 cap, .int .i64 k] w fun e w' => e = .returned (.int .i64 (k : Int)) ∧ w = w' := by
  go_enter Tryz.func40, Tryz.ntmps40
  go_wp2
  go_loop [1, 5] (fun t i => t = .int .i64 k ∧ i = .int .i64 0) (fun _ _ => 0)
  case atStart => exact ⟨rfl, rfl⟩
  case round =>
    obtain ⟨rfl, rfl⟩ := hrel
    go_wp2
    go_ret
    exact ⟨rfl, rfl⟩
/-- texts of the law's own are marked -/
theorem markStringS_any (v : Value) (V : List ByteArray) (B k : Nat) (w : World) (hown : w.ownsRow B 9 1 v V.length (ss V)) (hm : V.length ≤ 1048576) (hk1 : 0 < k) (hk2 : k ≤ 1000) :
    Calls Tryz.prog 40 #[v, .int .i64 k] w fun e w' => e = .returned (.int .i64 ((k + V.length : Nat) : Int)) ∧ w'.ownsRow B 9 1 v (marksS k V.length).length (ss (marksS k V.length)) ∧ w.grownBy w' v.ownBlock := by
  by_cases h0 : V.length = 0
  · obtain ⟨ao, cap, rfl⟩ := own_slice hown
    have hd0 : V = [] := List.length_eq_zero_iff.1 h0
    subst hd0
    exact (markStringS_none ao cap k w).mono fun e w' ⟨he, hw⟩ => by
      subst hw
      exact ⟨he, hown, ⟨rfl, rfl, rfl, Nat.le_refl _, fun _ _ _ => rfl⟩⟩
  · rcases hown.2 with ⟨rfl, hh⟩ | ⟨g, cap, cur, rfl, hb, hh, hc1, hc2, hc3, _⟩
    · omega
    · refine (markStringS_some g V.length cap k w hc1 hm hk1 (by omega) ⟨cur, hh, by omega⟩).mono fun e w' ⟨he, ⟨C, r1, r2, r3⟩, hg⟩ => ⟨he, ?_, hg⟩
      have hl := marksS_len k V.length
      refine ⟨by rw [ss_length]; omega, .inr ⟨g, cap, C, by rw [hl], hb, r1, by omega, hc2, by omega, ?_⟩⟩
      apply List.ext_getElem?
      intro i
      rw [Nat.mul_one]
      by_cases hi : i < (marksS k V.length).length
      · rw [List.getElem?_take_of_lt hi, Array.getElem?_toList, r3 i hi]
        unfold ss; rw [List.getElem?_map, List.getElem?_eq_getElem hi]; rfl
      · rw [List.getElem?_eq_none (by rw [List.length_take]; omega), List.getElem?_eq_none (by rw [ss_length]; omega)]
set_option maxRecDepth 100000 in
set_option maxHeartbeats 2000000 in
theorem heldStringS_any (ao : Option Addr) (n cap k : Nat) (w : World) (hd : StrsAt w ao (marksS k n)) (hm : n ≤ 1048576) (hk1 : 0 < k) (hk2 : k ≤ 1000) :
    Calls Tryz.prog 134 #[.slice ao n cap, .int .i64 k] w fun e w' => e = .returned (.int .i64 ((k + n : Nat) : Int)) ∧ Below w.heap.size w w' := by
  have HD := Lib.hid hd; clear hd
  go_enter Tryz.func134, Tryz.ntmps134
  go_wp2
  go_loopw [1, 5] (fun t i wr => ∃ j : Nat, j ≤ n ∧ i = .int .i64 j ∧ t = .int .i64 ((k + j : Nat) : Int) ∧ Below w.heap.size w wr) (fun _ i _ => n - (intOf i).toNat)
  case atStart => exact ⟨0, Nat.zero_le _, rfl, rfl, Below.refl _ _⟩
  case round =>
    obtain ⟨j, hj, rfl, rfl, hbel⟩ := hrel
    by_cases hlt : j < n
    · have hl := marksS_len k n
      obtain ⟨b, off, rfl, hb0, hd1⟩ := HD.out.at (k := j) (by omega)
      rw [marksS_get k n j] at hd1
      clear hl
      have HM1 := Lib.hid (fun W h => markText_from w (k + j) W (by omega) (by omega) h)
      rw [show ((k + j : Nat) : Int) = (k : Int) + (j : Int) by omega] at HM1 ⊢
      generalize mkT (k + j) = A at *
      have SK : Hid (∀ W : World, Below w.heap.size w W → (Below w.heap.size w W ∧ W.cell? ⟨b, off + j, none⟩ = some (.string A))) :=
        Lib.hid (fun W h => ⟨h, (h.cell (p := ⟨b, _, none⟩) hb0).trans hd1⟩)
      clear hd1
      have g1 : (0 : Int) ≤ (j : Int) := by omega
      have g2 : (j : Int) < (n : Int) := by omega
      have hbd := hbel.drew
      go_wp2_with fail
      go_region_held3 (fun W => Below w.heap.size w W ∧ W.cell? ⟨b, off + j, none⟩ = some (.string A))
        (exact SK.out _ (by assumption))
        (first | (go_at_call 86; refine (HM1.out _ (by assumption)).mono ?_; rintro e w2 ⟨rfl, hb2⟩) | (fail "none"))
      go_wp2
      go_roundw
      case rel => exact ⟨j + 1, by omega, by go_num, by rw [show ((k + (j + 1) : Nat) : Int) = (k : Int) + (j : Int) + 1 by omega], hb2⟩
      case measure => simp [intOf]; omega
    · have e : j = n := by omega
      subst e
      go_wp2
      go_ret
      exact ⟨ret_int' (by omega), hbel⟩
end Go.Proofs.YtjajpdghamecoaaGreat
/- The helpers of the laws: an entry of the law's own is marked. -/
namespace Go.Proofs.YtjajpdghamecoaaGreat
open Go.RowKit
attribute [local go_sem ↓] Go.wp_at_zero Go.wp_at_succ

/-- a block of n pairs -/
def DnSh (w : World) (b n : Nat) : Prop := ∃ C : Array Value, w.heap[b]? = some (.cells C 97 (0, 0)) ∧ C.size = n * 2
theorem DnSh.lt {w : World} {b n : Nat} (h : DnSh w b n) : b < w.heap.size := by obtain ⟨C, h1, _⟩ := h; exact (Array.getElem?_eq_some_iff.1 h1).1
theorem DnSh.below {w w' : World} {b n : Nat} (h : DnSh w b n) (hb : Below w.heap.size w w') : DnSh w' b n := by
  obtain ⟨C, h1, h2⟩ := h
  exact ⟨C, (hb.block b (Array.getElem?_eq_some_iff.1 h1).1).trans h1, h2⟩
theorem DnSh.far {w : World} {b n R j : Nat} (h : DnSh w b n) (hne : b ≠ R) (v : Value) : DnSh (w.setCell ⟨R, j, none⟩ v) b n := by
  obtain ⟨C, h1, h2⟩ := h
  exact ⟨C, (Below.heap_setCell _ _ _ _ hne).trans h1, h2⟩
theorem own_sh {w : World} {B g : Nat} {d : RdnL} (h : w.ownsRow B 97 2 (.slice (some ⟨g, 0, none⟩) d.length d.length) d.length (rs d)) : DnSh w g d.length := by
  rcases h.2 with ⟨h0, _⟩ | ⟨k, cap, cur, e, _, hk, _, _, hc, _⟩
  · cases h0
  · injection e with e1 e2 e3
    injection e1 with e1
    injection e1 with e1
    subst e1
    exact ⟨cur, hk, by omega⟩
/-- an entry of the law's own, in blocks from lo on -/
def EntOwn (w : World) (v : Value) (d : RdnL) (l : List AttrV) (lo : Nat) : Prop := ∃ G g, v = .agg #[.slice (some ⟨G, 0, none⟩) d.length d.length, .slice (some ⟨g, 0, none⟩) l.length l.length] ∧ lo ≤ G ∧ lo ≤ g ∧ DnAt w (some ⟨G, 0, none⟩) d ∧ DnSh w G d.length ∧ RowB w g l.length l
set_option maxRecDepth 100000 in
set_option maxHeartbeats 1000000 in
theorem toEntry_row (ao bo : Option Addr) (d : RdnL) (l : List AttrV) (ca cb : Nat) (w : World) (hd : DnAt w ao d) (hl : AttrsAt w bo l) (hfd : d.length ≤ 1048576) (hfl : FitsA l) :
    Calls Tryz.prog 31 #[.agg #[.slice ao d.length ca, .slice bo l.length cb]] w fun e w' => ∃ v, e = .returned v ∧ EntOwn w' v d l w.heap.size ∧ Below w.heap.size w w' := by
  have HD := Lib.hid hd; have HL := Lib.hid hl; have HF := Lib.hid hfl; clear hd hl hfl
  go_enter Tryz.func31, Tryz.ntmps31
  go_wp2_with fail
  refine calls_any' (fun W => Below w.heap.size w W ∧ Two W w.heap.size 52 (.slice ao d.length ca) (.slice bo l.length cb) ∧ Two W (w.heap.size + 1) 26 (.slice none 0 0) (.slice none 0 0) ∧ Two W (w.heap.size + 1 + 1) 26 (.slice none 0 0) (.slice none 0 0)) ⟨more (more (more (Below.refl _ _) _) _) _, ((twoNew w 52 _ _).alloc _).alloc _, ?_, ?_⟩ ?_
  · exact Two.alloc (by have := twoNew (w.alloc (Obj.cells #[.slice ao d.length ca, .slice bo l.length cb] 52)) 26 (.slice none 0 0) (.slice none 0 0); simpa using this) _
  · have := twoNew ((w.alloc (Obj.cells #[.slice ao d.length ca, .slice bo l.length cb] 52)).alloc (Obj.cells #[.slice none 0 0, .slice none 0 0] 26)) 26 (.slice none 0 0) (.slice none 0 0); simpa using this
  rintro W ⟨hbW, ht0, ht1, ht2⟩
  have hn2 : w.heap.size + 1 + 1 < W.heap.size := ht2.lt
  refine (toRdnS_any ao d ca W (HD.out.below hbW) hfd).mono ?_
  rintro e w2 ⟨rfl, ho2, hb2⟩
  have T0 := Lib.hid (ht0.below hb2); have T1 := Lib.hid (ht1.below hb2); have T2 := Lib.hid (ht2.below hb2)
  have X2 := Lib.hid (own_dn ho2); have D2 := Lib.hid (own_sh ho2)
  have B2 := Lib.hid (hbW.trans (hb2.mono hbW.size))
  have hsz2 := hb2.size; have hGw : w.heap.size ≤ W.heap.size := hbW.size
  clear ht0 ht1 ht2 ho2 hb2
  generalize W.heap.size = G at *
  clear hbW
  obtain ⟨⟨p0, p1⟩, _⟩ := T0.out.cells
  obtain ⟨⟨c0, c1⟩, f0, f1⟩ := T2.out.cells
  go_wp2_with fail
  refine calls_any' (fun W => Below w.heap.size w W ∧ DnAt W (some ⟨G, 0, none⟩) d ∧ DnSh W G d.length ∧ Two W (w.heap.size + 1) 26 (.slice none 0 0) (.slice none 0 0) ∧ Two W (w.heap.size + 1 + 1) 26 (.slice (some ⟨G, 0, none⟩) d.length d.length) (.slice none 0 0)) ⟨B2.out.setCell (p := ⟨w.heap.size + 1 + 1, 0, none⟩) (by show w.heap.size ≤ w.heap.size + 1 + 1; omega) _, X2.out.set (by omega) _, D2.out.far (by omega) _, T1.out.far (by omega) _, T2.out.set0 _⟩ ?_
  clear T0 T1 T2 X2 D2 B2 p0 p1 c0 c1 f0 f1 hsz2
  rintro V ⟨hbV, hxV, hdV, ht1, ht2⟩
  have hnV : w.heap.size + 1 + 1 < V.heap.size := ht2.lt
  refine (toAttrS_row bo l cb V (HL.out.below hbV) HF.out).mono ?_
  rintro e w3 ⟨v, rfl, g, rfl, hg1, hra, hb3⟩
  have T1 := Lib.hid (ht1.below hb3); have T2 := Lib.hid (ht2.below hb3); have X3 := Lib.hid (hxV.below hb3); have D3 := Lib.hid (hdV.below hb3); have RA := Lib.hid hra
  have B3 := Lib.hid (hbV.trans (hb3.mono hbV.size))
  clear ht1 ht2 hxV hdV hra hb3 hbV
  obtain ⟨⟨c0, c1⟩, f0, f1⟩ := T2.out.cells
  obtain ⟨⟨d0, d1⟩, g0, g1⟩ := T1.out.cells
  have TE := ((T1.out.far (R := w.heap.size + 1 + 1) (j := 1) (by omega) (.slice (some ⟨g, 0, none⟩) l.length l.length)).set0 (.slice (some ⟨G, 0, none⟩) d.length d.length)).set1 (.slice (some ⟨g, 0, none⟩) l.length l.length)
  obtain ⟨⟨k0, k1⟩, _⟩ := TE.cells
  clear TE
  go_wp2_with fail
  refine bodyPost_ret (v := .agg #[.slice (some ⟨G, 0, none⟩) d.length d.length, .slice (some ⟨g, 0, none⟩) l.length l.length]) (by simp [results, Tryz.results31, go_sem, k0, k1]) rfl ⟨_, rfl, ⟨G, g, rfl, by omega, by omega, ?_, ?_, ?_⟩, ?_⟩
  · exact ((X3.out.set (by omega) _).set (by omega) _).set (by omega) _
  · exact ((D3.out.far (by omega) _).far (by omega) _).far (by omega) _
  · exact ((RA.out.far (by omega) _).far (by omega) _).far (by omega) _
  · exact ((B3.out.setCell (p := ⟨w.heap.size + 1 + 1, 1, none⟩) (by show w.heap.size ≤ w.heap.size + 1 + 1; omega) _).setCell (p := ⟨w.heap.size + 1, 0, none⟩) (by show w.heap.size ≤ w.heap.size + 1; omega) _).setCell (p := ⟨w.heap.size + 1, 1, none⟩) (by show w.heap.size ≤ w.heap.size + 1; omega) _
/-- what stands outside the blocks from lo to below hi is as it was -/
def Mid (lo hi : Nat) (w w' : World) : Prop := w'.os = w.os ∧ w'.tape = w.tape ∧ w'.output = w.output ∧ w.heap.size ≤ w'.heap.size ∧ ∀ k, k < w.heap.size → (k < lo ∨ hi ≤ k) → w'.heap[k]? = w.heap[k]?
theorem Mid.refl (lo hi : Nat) (w : World) : Mid lo hi w w := ⟨rfl, rfl, rfl, Nat.le_refl _, fun _ _ _ => rfl⟩
theorem Mid.trans {lo hi : Nat} {a b c : World} (h : Mid lo hi a b) (g : Mid lo hi b c) : Mid lo hi a c :=
  ⟨g.1.trans h.1, g.2.1.trans h.2.1, g.2.2.1.trans h.2.2.1, Nat.le_trans h.2.2.2.1 g.2.2.2.1, fun k hk hx => (g.2.2.2.2 k (Nat.lt_of_lt_of_le hk h.2.2.2.1) hx).trans (h.2.2.2.2 k hk hx)⟩
theorem Mid.of_below {lo hi : Nat} {a b : World} (h : Below a.heap.size a b) : Mid lo hi a b := ⟨h.os, h.tape, h.output, h.size, fun k hk _ => h.block k hk⟩
theorem Mid.of_grown {lo hi r : Nat} {a b : World} (h : a.grownBy b (some r)) (h1 : lo ≤ r) (h2 : r < hi) : Mid lo hi a b :=
  ⟨h.os, h.tape, h.output, h.size, fun k hk hx => h.block k hk (by intro e; injection e with e; omega)⟩
theorem Mid.below {lo hi : Nat} {w a b : World} (h : Mid lo hi a b) (hb : Below w.heap.size w a) (hlo : w.heap.size ≤ lo) : Below w.heap.size w b :=
  hb.trans ⟨h.1, h.2.1, h.2.2.1, h.2.2.2.1, fun k hk => h.2.2.2.2 k (Nat.lt_of_lt_of_le hk hb.size) (.inl (by omega))⟩
/-- a block of attributes whose texts lie in blocks of their own -/
def AttrSh (w : World) (g lo hi : Nat) (l : List AttrV) : Prop := ∃ C : Array Value, w.heap[g]? = some (.cells C 48 (0, 0)) ∧ C.size = l.length * 2 ∧
  ∀ i (h : i < l.length), ∃ b, C[i * 2 + 1]? = some (.slice (some ⟨b, 0, none⟩) l[i].2.length l[i].2.length) ∧ lo ≤ b ∧ b < hi ∧ StrSh w b l[i].2.length
theorem AttrSh.below {w w' : World} {g lo hi : Nat} {l : List AttrV} (h : AttrSh w g lo hi l) (hb : Below w.heap.size w w') : AttrSh w' g lo hi l := by
  obtain ⟨C, h1, h2, h3⟩ := h
  refine ⟨C, (hb.block g (Array.getElem?_eq_some_iff.1 h1).1).trans h1, h2, fun i hi => ?_⟩
  obtain ⟨b, q1, q2, q3, q4⟩ := h3 i hi
  exact ⟨b, q1, q2, q3, q4.below hb⟩
theorem RowB.sh {w : World} {g lo : Nat} {l : List AttrV} (h : RowB w g l.length l) (hlo : lo ≤ g) : AttrSh w g lo w.heap.size l := by
  obtain ⟨C, h1, h2, h3⟩ := h
  refine ⟨C, h1, h2, fun i hi => ?_⟩
  obtain ⟨_, b, q2, q3, q4⟩ := h3 i hi
  exact ⟨b, q2, by omega, q4.sh.lt, q4.sh⟩
theorem sh_apart {w : World} {g b n : Nat} {C : Array Value} (h : w.heap[g]? = some (.cells C 48 (0, 0))) (hb : StrSh w b n) : b ≠ g := by
  rintro rfl
  obtain ⟨C', h1, _⟩ := hb
  rw [h] at h1
  injection h1 with h1
  injection h1 with _ h1
  cases h1
/-- a name is set -/
theorem AttrSh.name {w : World} {g lo hi : Nat} {l : List AttrV} (h : AttrSh w g lo hi l) (j : Nat) (v : Value) : AttrSh (w.setCell ⟨g, j * 2, none⟩ v) g lo hi l := by
  obtain ⟨C, h1, h2, h3⟩ := h
  refine ⟨_, heap_set v h1, by simp [h2], fun i hi => ?_⟩
  obtain ⟨b, q1, q2, q3, q4⟩ := h3 i hi
  refine ⟨b, by rw [Array.getElem?_setIfInBounds, if_neg (by omega)]; exact q1, q2, q3, ?_⟩
  have hne := sh_apart h1 q4
  obtain ⟨C', r1, r2⟩ := q4
  exact ⟨C', (Below.heap_setCell _ _ _ _ hne).trans r1, r2⟩
/-- the texts of one are marked -/
theorem AttrSh.texts {w w' : World} {g lo hi b n : Nat} {l : List AttrV} (h : AttrSh w g lo hi l) (hb : StrSh w b n) (hb' : StrSh w' b n) (hg : w.grownBy w' (some b)) : AttrSh w' g lo hi l := by
  obtain ⟨C, h1, h2, h3⟩ := h
  have hne := sh_apart h1 hb
  refine ⟨C, (hg.block g (Array.getElem?_eq_some_iff.1 h1).1 (by intro e; injection e with e; exact hne e.symm)).trans h1, h2, fun i hi => ?_⟩
  obtain ⟨b', q1, q2, q3, q4⟩ := h3 i hi
  refine ⟨b', q1, q2, q3, ?_⟩
  by_cases e : b' = b
  · subst e
    obtain ⟨X, x1, x2⟩ := q4
    obtain ⟨Y, y1, y2⟩ := hb
    rw [x1] at y1
    injection y1 with y1
    injection y1 with y1
    subst y1
    obtain ⟨Z, z1, z2⟩ := hb'
    exact ⟨Z, z1, by omega⟩
  · obtain ⟨X, x1, x2⟩ := q4
    exact ⟨X, (hg.block b' (Array.getElem?_eq_some_iff.1 x1).1 (by intro e'; injection e' with e'; exact e e')).trans x1, x2⟩
theorem AttrSh.pairs {w w' : World} {g lo hi G n : Nat} {l : List AttrV} (h : AttrSh w g lo hi l) (hD : DnSh w G n) (hg : w.grownBy w' (some G)) : AttrSh w' g lo hi l := by
  obtain ⟨C, h1, h2, h3⟩ := h
  obtain ⟨D, d1, _⟩ := hD
  have hne : g ≠ G := by
    rintro rfl
    rw [h1] at d1; injection d1 with d1; injection d1 with _ d1; cases d1
  refine ⟨C, (hg.block g (Array.getElem?_eq_some_iff.1 h1).1 (by intro e; injection e with e; exact hne e)).trans h1, h2, fun i hi => ?_⟩
  obtain ⟨b', q1, q2, q3, X, x1, x2⟩ := h3 i hi
  have hne' : b' ≠ G := by
    rintro rfl
    rw [x1] at d1; injection d1 with d1; injection d1 with _ d1; cases d1
  exact ⟨b', q1, q2, q3, X, (hg.block b' (Array.getElem?_eq_some_iff.1 x1).1 (by intro e'; injection e' with e'; exact hne' e')).trans x1, x2⟩
theorem AttrSh.at {w : World} {g lo hi k : Nat} {l : List AttrV} (h : AttrSh w g lo hi l) (hk : k < l.length) :
    ((∃ x, w.cell? ⟨g, k * 2, none⟩ = some x) ∧ w.frozen? ⟨g, k * 2, none⟩ = false) ∧ ∃ b, w.cell? ⟨g, k * 2 + 1, none⟩ = some (.slice (some ⟨b, 0, none⟩) l[k].2.length l[k].2.length) ∧ lo ≤ b ∧ b < hi ∧ StrSh w b l[k].2.length ∧ b ≠ g := by
  obtain ⟨C, h1, h2, h3⟩ := h
  obtain ⟨b, q1, q2, q3, q4⟩ := h3 k hk
  refine ⟨⟨⟨C[k * 2]'(by omega), ?_⟩, ?_⟩, b, ?_, q2, q3, q4, sh_apart h1 q4⟩
  · rw [cell_of_row w g _ C 48 (0, 0) h1]; exact Array.getElem?_eq_getElem (by omega)
  · simp [World.frozen?, h1]
  · rw [cell_of_row w g _ C 48 (0, 0) h1]; exact q1
/-- how many marks the first j take -/
def cntA (l : List AttrV) (j : Nat) : Nat := ((l.take j).map fun a => 1 + a.2.length).sum
theorem cntA_succ (l : List AttrV) (j : Nat) (h : j < l.length) : cntA l (j + 1) = cntA l j + (1 + l[j].2.length) := by
  unfold cntA; rw [List.take_succ_eq_append_getElem h, List.map_append, List.sum_append]; simp
theorem cntA_le (l : List AttrV) (j : Nat) : cntA l j ≤ cntA l l.length := by
  unfold cntA
  rw [List.take_length]
  have h := List.take_append_drop j l
  have : (l.map fun a => 1 + a.2.length).sum = ((l.take j).map fun a => 1 + a.2.length).sum + ((l.drop j).map fun a => 1 + a.2.length).sum := by
    rw [← List.sum_append, ← List.map_append, h]
  omega
theorem cntA_size (l : List AttrV) : cntA l l.length ≤ l.length + sizeAs l := by
  unfold cntA sizeAs
  rw [List.take_length]
  induction l with
  | nil => simp
  | cons a l ih =>
    simp only [List.map_cons, List.sum_cons, List.length_cons]
    unfold sizeA at *
    omega
set_option maxRecDepth 100000 in
set_option maxHeartbeats 2000000 in
theorem markAttrS_any (g lo hi k : Nat) (l : List AttrV) (w : World) (hS : AttrSh w g lo hi l) (hg1 : lo ≤ g) (hg2 : g < hi) (hz : l.length + sizeAs l ≤ 1048576) (hk1 : 0 < k) (hk2 : k ≤ 3000000) :
    Calls Tryz.prog 84 #[.slice (some ⟨g, 0, none⟩) l.length l.length, .int .i64 k] w fun e w' => e = .returned (.int .i64 ((k + cntA l l.length : Nat) : Int)) ∧ Mid lo hi w w' := by
  have HS := Lib.hid hS; clear hS
  have hcz := cntA_size l
  go_enter Tryz.func84, Tryz.ntmps84
  go_wp2
  go_loopw [1, 5] (fun t i wr => ∃ j : Nat, j ≤ l.length ∧ i = .int .i64 j ∧ t = .int .i64 ((k + cntA l j : Nat) : Int) ∧ AttrSh wr g lo hi l ∧ Mid lo hi w wr) (fun _ i _ => l.length - (intOf i).toNat)
  case atStart => exact ⟨0, Nat.zero_le _, rfl, by simp [cntA], HS.out, Mid.refl _ _ _⟩
  case round =>
    obtain ⟨j, hj, rfl, rfl, hA, hM⟩ := hrel
    have HA := Lib.hid hA; have HM := Lib.hid hM; clear hA hM
    have hcj := cntA_le l j
    by_cases hlt : j < l.length
    · have HCs := Lib.hid (cntA_succ l j hlt)
      have hcs : cntA l j + (1 + l[j].2.length) ≤ cntA l l.length := by have := cntA_le l (j + 1); rw [HCs.out] at this; exact this
      have g1 : (0 : Int) ≤ (j : Int) := by omega
      have g2 : (j : Int) < (l.length : Int) := by omega
      generalize cntA l j = c at *
      go_wp2_with fail
      refine (markText_any (k + c) wr (by omega) (by omega)).mono ?_
      rintro e w2 ⟨rfl, hb2⟩
      have HA2 := Lib.hid (HA.out.below hb2)
      have HM2 := Lib.hid (HM.out.trans (Mid.of_below hb2))
      clear hb2
      obtain ⟨⟨⟨x0, c0⟩, f0⟩, _⟩ := HA2.out.at hlt
      generalize mkT (k + c) = A at *
      have HA3 := Lib.hid (HA2.out.name j (.string A))
      have HM3 := Lib.hid (HM2.out.trans (Mid.of_grown (grown_set w2 g (j * 2) (.string A)) hg1 hg2))
      obtain ⟨_, b, c1, b1, b2, hSh, hbg⟩ := HA3.out.at hlt
      have HSh := Lib.hid hSh
      have HMS : Hid (∀ W, StrSh W b l[j].2.length → Calls Tryz.prog 40 #[.slice (some ⟨b, 0, none⟩) l[j].2.length l[j].2.length, .int .i64 (((k + c + 1 : Nat)) : Int)] W fun e w' => e = .returned (.int .i64 ((k + c + 1 + l[j].2.length : Nat) : Int)) ∧ RowS w' b l[j].2.length (marksS (k + c + 1) l[j].2.length) ∧ W.grownBy w' (some b)) :=
        Lib.hid (fun W h => markStringS_some b _ _ (k + c + 1) W (Nat.le_refl _) (by omega) (by omega) (by omega) h)
      rw [show ((k + c + 1 : Nat) : Int) = (k : Int) + (c : Int) + 1 by omega] at HMS
      clear hSh
      generalize hnn : l[j].2.length = n at *
      have Hnn := Lib.hid hnn; clear hnn
      go_wp2_with fail
      refine (HMS.out _ HSh.out).mono ?_
      rintro e w3 ⟨rfl, hr3, hg3⟩
      have HA4 := Lib.hid (HA3.out.texts HSh.out hr3.sh hg3)
      have HM4 := Lib.hid (HM3.out.trans (Mid.of_grown hg3 b1 b2))
      clear hr3 hg3 c0 f0 c1
      go_wp2
      go_roundw
      case rel => exact ⟨j + 1, by omega, by go_num, by rw [HCs.out]; exact congrArg (Value.int .i64) (by omega), HA4.out, HM4.out⟩
      case measure => simp [intOf]; omega
    · have e : j = l.length := by omega
      subst e
      go_wp2
      go_ret
      exact ⟨ret_int' (by omega), HM.out⟩
set_option maxRecDepth 100000 in
set_option maxHeartbeats 2000000 in
theorem markEntry_any (v : Value) (d : RdnL) (l : List AttrV) (lo hi : Nat) (w w1 : World) (hE : EntOwn w1 v d l lo) (hi1 : hi = w1.heap.size) (hb : Below w1.heap.size w1 w) (hz : sizeE d l ≤ 1048576) :
    Calls Tryz.prog 34 #[v, .int .i64 1] w fun e w' => (∃ n : Nat, n ≤ 10000000 ∧ e = .returned (.int .i64 (n : Int))) ∧ Mid lo hi w w' := by
  obtain ⟨G, g, rfl, h1, h2, h3, h4, h5⟩ := hE
  unfold sizeE at hz
  have D0 := Lib.hid (h4.below hb)
  have A0 : Hid (AttrSh w g lo hi l) := Lib.hid (by subst hi1; exact (h5.sh h2).below hb)
  have hG : G < hi := by subst hi1; exact h4.lt
  have hg : g < hi := by subst hi1; exact h5.lt
  have hcz := cntA_size l
  have hiw : hi ≤ w.heap.size := by subst hi1; exact hb.size
  clear h3 h4 h5 hb hi1
  go_enter Tryz.func34, Tryz.ntmps34
  go_wp2_with fail
  have hal := more (Below.refl w.heap.size w) (.cells #[.slice (some ⟨G, 0, none⟩) d.length d.length, .slice (some ⟨g, 0, none⟩) l.length l.length] 26)
  refine calls_any' (fun W => Below w.heap.size w W ∧ w.heap.size < W.heap.size ∧ Two W w.heap.size 26 (.slice (some ⟨G, 0, none⟩) d.length d.length) (.slice (some ⟨g, 0, none⟩) l.length l.length)) ⟨hal, by simp, twoNew w 26 _ _⟩ ?_
  clear hal
  rintro W ⟨hbW, hlW, t0⟩
  have D1 := Lib.hid (D0.out.below hbW); have A1 := Lib.hid (A0.out.below hbW)
  refine (markRdnS_some G d.length d.length 1 W (Nat.le_refl _) (by omega) (by omega) (by omega) D1.out).mono ?_
  rintro e w2 ⟨rfl, _, hg2⟩
  have A2 := Lib.hid (A1.out.pairs D1.out hg2)
  have M2 := Lib.hid ((Mid.of_below (lo := lo) (hi := hi) hbW).trans (Mid.of_grown hg2 h1 hG))
  have T2 : Hid (Two w2 w.heap.size 26 (.slice (some ⟨G, 0, none⟩) d.length d.length) (.slice (some ⟨g, 0, none⟩) l.length l.length)) := Lib.hid ((hg2.block w.heap.size hlW (by intro e; injection e with e; omega)).trans t0)
  obtain ⟨⟨c0, c1⟩, _⟩ := T2.out.cells
  clear hbW hlW t0 hg2 D0 D1 A0 A1
  have HA : Hid (∀ X, AttrSh X g lo hi l → Calls Tryz.prog 84 #[.slice (some ⟨g, 0, none⟩) l.length l.length, .int .i64 ((1 + 2 * d.length : Nat) : Int)] X fun e w' => e = .returned (.int .i64 ((1 + 2 * d.length + cntA l l.length : Nat) : Int)) ∧ Mid lo hi X w') :=
    Lib.hid (fun X h => markAttrS_any g lo hi (1 + 2 * d.length) l X h h2 hg (by omega) (by omega) (by omega))
  have hbd : 1 + 2 * d.length + cntA l l.length ≤ 10000000 := by omega
  go_wp2_with fail
  refine (HA.out w2 A2.out).mono ?_
  rintro e w3 ⟨rfl, hm3⟩
  have M3 := Lib.hid (M2.out.trans hm3)
  clear hm3
  generalize 1 + 2 * d.length + cntA l l.length = q at *
  go_wp2
  go_ret
  exact ⟨⟨q, hbd, rfl⟩, M3.out⟩
end Go.Proofs.YtjajpdghamecoaaGreat
