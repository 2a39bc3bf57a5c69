/- The helpers of the laws over entries: copies of entries. -/
import Derived.Test.YtjajpdghamecoaaEntCopy
namespace Go.Proofs.Ytjajpdghamecoaa
open Go.RowKit
attribute [local go_sem ↓] Go.wp_at_zero Go.wp_at_succ

theorem DnAt.set {w : World} {b off R j : Nat} {d : RdnL} (h : DnAt w (some ⟨b, off, none⟩) d) (hne : b ≠ R) (v : Value) : DnAt (w.setCell ⟨R, j, none⟩ v) (some ⟨b, off, none⟩) d := by
  rcases h with h | ⟨b', off', h1, h2, h3⟩
  · exact .inl h
  · cases h1
    refine .inr ⟨b, off, rfl, by simpa [World.setCell] using h2, fun i hi => ?_⟩
    have e : (w.setCell ⟨R, j, none⟩ v).heap[b]? = w.heap[b]? := Below.heap_setCell _ _ _ _ hne
    have := h3 i hi
    unfold World.cell? at this ⊢
    rw [e]; exact this
theorem RowA.far {w : World} {g n R j : Nat} {l : List AttrV} (h : RowA w g n l) (hR : R < g) (v : Value) : RowA (w.setCell ⟨R, j, none⟩ v) g n l := by
  obtain ⟨C, h1, h2, h3⟩ := h
  refine ⟨C, (Below.heap_setCell _ _ _ _ (show g ≠ R by omega)).trans h1, h2, fun i hi => ?_⟩
  obtain ⟨p, b, q, r, s⟩ := h3 i hi
  exact ⟨p, b, q, r, s.set (by omega) _⟩
/-- an entry lies behind two slices -/
def EntAt (w : World) (v : Value) (d : RdnL) (l : List AttrV) : Prop := ∃ ao ca bo cb, v = .agg #[.slice ao d.length ca, .slice bo l.length cb] ∧ DnAt w ao d ∧ AttrsAt w bo l ∧ d.length ≤ ca ∧ l.length ≤ cb
set_option maxRecDepth 100000 in
set_option maxHeartbeats 1000000 in
theorem toEntry_any (ao bo : Option Addr) (d : RdnL) (l : List AttrV) (ca cb : Nat) (w : World) (hd : DnAt w ao d) (hl : AttrsAt w bo l) (hfd : d.length ≤ 1048576) (hfl : FitsA l) :
    Calls Try.prog 29 #[.agg #[.slice ao d.length ca, .slice bo l.length cb]] w fun e w' => ∃ v, e = .returned v ∧ EntAt w' v d l ∧ Below w.heap.size w w' := by
  have HD := Lib.hid hd; have HL := Lib.hid hl; have HF := Lib.hid hfl; clear hd hl hfl
  go_enter Try.func29, Try.ntmps29
  go_wp2_with fail
  refine calls_any' (fun W => Below w.heap.size w W ∧ Two W w.heap.size 38 (.slice ao d.length ca) (.slice bo l.length cb) ∧ Two W (w.heap.size + 1) 43 (.slice none 0 0) (.slice none 0 0) ∧ Two W (w.heap.size + 1 + 1) 43 (.slice none 0 0) (.slice none 0 0)) ⟨more (more (more (Below.refl _ _) _) _) _, ((twoNew w 38 _ _).alloc _).alloc _, ?_, ?_⟩ ?_
  · exact Two.alloc (by have := twoNew (w.alloc (Obj.cells #[.slice ao d.length ca, .slice bo l.length cb] 38)) 43 (.slice none 0 0) (.slice none 0 0); simpa using this) _
  · have := twoNew ((w.alloc (Obj.cells #[.slice ao d.length ca, .slice bo l.length cb] 38)).alloc (Obj.cells #[.slice none 0 0, .slice none 0 0] 43)) 43 (.slice none 0 0) (.slice none 0 0); simpa using this
  rintro W ⟨hbW, ht0, ht1, ht2⟩
  have hn2 : w.heap.size + 1 + 1 < W.heap.size := ht2.lt
  refine (toRdnS_any ao d ca W (HD.out.below hbW) hfd).mono ?_
  rintro e w2 ⟨rfl, ho2, hb2⟩
  have T0 := Lib.hid (ht0.below hb2); have T1 := Lib.hid (ht1.below hb2); have T2 := Lib.hid (ht2.below hb2)
  have X2 := Lib.hid (own_dn ho2)
  have B2 := Lib.hid (hbW.trans (hb2.mono hbW.size))
  have hsz2 := hb2.size
  clear ht0 ht1 ht2 ho2 hb2
  generalize W.heap.size = G at *
  clear hbW
  obtain ⟨⟨p0, p1⟩, _⟩ := T0.out.cells
  obtain ⟨⟨c0, c1⟩, f0, f1⟩ := T2.out.cells
  go_wp2_with fail
  refine calls_any' (fun W => Below w.heap.size w W ∧ DnAt W (some ⟨G, 0, none⟩) d ∧ Two W (w.heap.size + 1) 43 (.slice none 0 0) (.slice none 0 0) ∧ Two W (w.heap.size + 1 + 1) 43 (.slice (some ⟨G, 0, none⟩) d.length d.length) (.slice none 0 0)) ⟨B2.out.setCell (p := ⟨w.heap.size + 1 + 1, 0, none⟩) (by show w.heap.size ≤ w.heap.size + 1 + 1; omega) _, X2.out.set (by omega) _, T1.out.far (by omega) _, T2.out.set0 _⟩ ?_
  clear T0 T1 T2 X2 B2 p0 p1 c0 c1 f0 f1 hsz2
  rintro V ⟨hbV, hxV, ht1, ht2⟩
  have hnV : w.heap.size + 1 + 1 < V.heap.size := ht2.lt
  refine (toAttrS_any bo l cb V (HL.out.below hbV) HF.out).mono ?_
  rintro e w3 ⟨v, rfl, g, rfl, hg1, hra, hb3⟩
  have T1 := Lib.hid (ht1.below hb3); have T2 := Lib.hid (ht2.below hb3); have X3 := Lib.hid (hxV.below hb3); have RA := Lib.hid hra
  have B3 := Lib.hid (hbV.trans (hb3.mono hbV.size))
  clear ht1 ht2 hxV hra hb3 hbV
  obtain ⟨⟨c0, c1⟩, f0, f1⟩ := T2.out.cells
  obtain ⟨⟨d0, d1⟩, g0, g1⟩ := T1.out.cells
  have TE := ((T1.out.far (R := w.heap.size + 1 + 1) (j := 1) (by omega) (.slice (some ⟨g, 0, none⟩) l.length l.length)).set0 (.slice (some ⟨G, 0, none⟩) d.length d.length)).set1 (.slice (some ⟨g, 0, none⟩) l.length l.length)
  obtain ⟨⟨k0, k1⟩, _⟩ := TE.cells
  clear TE
  go_wp2_with fail
  refine bodyPost_ret (v := .agg #[.slice (some ⟨G, 0, none⟩) d.length d.length, .slice (some ⟨g, 0, none⟩) l.length l.length]) (by simp [results, Try.results29, go_sem, k0, k1]) rfl ⟨_, rfl, ⟨_, _, _, _, rfl, ?_, ?_, Nat.le_refl _, Nat.le_refl _⟩, ?_⟩
  · exact ((X3.out.set (by omega) _).set (by omega) _).set (by omega) _
  · exact (((RA.out.far (by omega) _).far (by omega) _).far (by omega) _).attrs
  · exact ((B3.out.setCell (p := ⟨w.heap.size + 1 + 1, 1, none⟩) (by show w.heap.size ≤ w.heap.size + 1 + 1; omega) _).setCell (p := ⟨w.heap.size + 1, 0, none⟩) (by show w.heap.size ≤ w.heap.size + 1; omega) _).setCell (p := ⟨w.heap.size + 1, 1, none⟩) (by show w.heap.size ≤ w.heap.size + 1; omega) _
end Go.Proofs.Ytjajpdghamecoaa
