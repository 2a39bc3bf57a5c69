/- Merged texts: SpAdd3, Del, VDrop, SpDrop, SpDrop3, OutSt, VDropW. -/
import Derived.Test.YtjajpdghamecoaaGreatM13
import Derived.Shelf.SlicesG.Delete
import Derived.Sort.OwnSorted
/- ValueAdd: what the specification's text returns. -/
namespace Go.Proofs.YtjajpdghamecoaaGreat
open Go.RowKit
attribute [local go_sem ↓] Go.wp_at_zero Go.wp_at_succ

theorem addR_code {d : RdnL} {l : List AttrV} {nm val : ByteArray} {c : Int} (h : vcode (rightB d l) nm val = c) (hc : c ≠ 0) : addR d l nm val = (c, [], []) := by
  unfold addR; rw [h, if_pos hc]
theorem vcode_one {r : Bool} {nm val : ByteArray} (h1 : ¬ 8000 < nm.size) (h2 : ¬ 8000 < val.size) (h : (r && nmL nm && valB val) = false) : vcode r nm val = 1 := by rw [vcode_small h1 h2, h]; rfl
theorem vcode_ok {r : Bool} {nm val : ByteArray} (h1 : ¬ 8000 < nm.size) (h2 : ¬ 8000 < val.size) (h : (r && nmL nm && valB val) = true) : vcode r nm val = 0 := by rw [vcode_small h1 h2, h]; rfl
set_option maxRecDepth 100000 in
set_option maxHeartbeats 1000000 in
theorem SpecValueAdd_any (ao bo : Option Addr) (d : RdnL) (l : List AttrV) (ca cb : Nat) (nm val : ByteArray) (w : World) (hd : DnAt w ao d) (hl : AttrsAt w bo l) (hfd : Fits d) (hfl : FitsA l) (hn : nm.size ≤ maxLen) (hv : val.size ≤ maxLen) :
    Calls Tryz.prog 14 #[.agg #[.slice ao d.length ca, .slice bo l.length cb], .string nm, .string val] w (SpecOut w (addR d l nm val)) := by
  have HD := Lib.hid hd; have HL := Lib.hid hl; have FD := Lib.hid hfd; have FL := Lib.hid hfl; have Hn := Lib.hid hn; have Hv := Lib.hid hv; clear hd hl hfd hfl
  go_enter Tryz.func14, Tryz.ntmps14
  go_wp2_with fail
  refine calls_any' (fun W => Below w.heap.size w W ∧ Two W w.heap.size 26 (.slice ao d.length ca) (.slice bo l.length cb) ∧ Three W (w.heap.size + 1) 30 (.slice none 0 0) (.slice none 0 0) (.int .i64 0)) ⟨more (more (Below.refl _ _) _) _, (twoNew w 26 _ _).alloc _, threeNext w _ 30 _ _ _⟩ ?_
  rintro W ⟨hbW, t0, t1⟩
  refine (l03Long_any nm val W hn hv).mono ?_
  rintro e w1 ⟨rfl, rfl⟩
  have B1 := Lib.hid hbW; have T1 := Lib.hid t0; have U1 := Lib.hid t1
  clear hbW t0 t1
  by_cases hbig : 8000 < nm.size ∨ 8000 < val.size
  · have hq : (decide (8000 < nm.size) || decide (8000 < val.size)) = true := by simpa using hbig
    rw [hq]
    have HO := Lib.hid (addR_code (d := d) (l := l) (vcode_big (r := rightB d l) hbig) (by decide))
    clear hbig hq
    go_wp2_with fail
    refine (l03Ill_any 2 W).mono ?_
    rintro e w4 ⟨rfl, hb4⟩
    have U4 := Lib.hid (U1.out.below hb4); have B4 := Lib.hid (B1.out.trans (hb4.mono B1.out.size))
    clear hb4
    obtain ⟨⟨k0, k1, k2⟩, f0, f1, f2⟩ := U4.out.cells
    obtain ⟨⟨q0, q1, q2⟩, _⟩ := (((U4.out.set0 (.slice none 0 0)).set1 (.slice none 0 0)).set2 (.int .i64 2)).cells
    unfold failV
    go_wp2_with fail
    refine bodyPost_ret (v := failV 2) (by simp [results, Tryz.results14, go_sem, q0, q1, q2, failV]) rfl ?_
    rw [HO.out]
    exact specOut_fail (below_three B4.out _ _ _)
  · have hn8 : ¬ 8000 < nm.size := fun h => hbig (.inl h)
    have hv8 : ¬ 8000 < val.size := fun h => hbig (.inr h)
    have hq : (decide (8000 < nm.size) || decide (8000 < val.size)) = false := by simp; omega
    rw [hq]
    have HOb : Hid ((rightB d l && nmL nm && valB val) = false → addR d l nm val = (1, [], [])) := Lib.hid (fun h => addR_code (vcode_one hn8 hv8 h) (by decide))
    have HOk : Hid ((rightB d l && nmL nm && valB val) = true → vcode (rightB d l) nm val = 0) := Lib.hid (fun h => vcode_ok hn8 hv8 h)
    clear hbig hq
    obtain ⟨⟨p0, p1⟩, _⟩ := T1.out.cells
    go_wp2_with fail
    clear p0 p1
    refine (SpecEntryRight_any ao bo d l ca cb W (HD.out.below B1.out) (HL.out.below B1.out) FD.out FL.out).mono ?_
    rintro e w2 ⟨rfl, hb2⟩
    have B2 := Lib.hid (B1.out.trans (hb2.mono B1.out.size)); have T2 := Lib.hid (T1.out.below hb2); have U2 := Lib.hid (U1.out.below hb2)
    clear hb2 B1 T1 U1
    have HIll : Hid (∀ w3, Below w.heap.size w w3 → Three w3 (w.heap.size + 1) 30 (.slice none 0 0) (.slice none 0 0) (.int .i64 0) → Calls Tryz.prog 54 #[.int .i64 1] w3 fun e w4 => e = .returned (failV 1) ∧ Below w.heap.size w w4 ∧ Three w4 (w.heap.size + 1) 30 (.slice none 0 0) (.slice none 0 0) (.int .i64 0)) :=
      Lib.hid (fun w3 h1 h2 => (l03Ill_any 1 w3).mono fun e w4 ⟨a, b⟩ => ⟨a, h1.trans (b.mono h1.size), h2.below b⟩)
    cases hr : rightB d l
    · have HO := Lib.hid (HOb.out (by rw [hr]; rfl))
      clear HOb HOk
      go_wp2_with fail
      refine (HIll.out w2 B2.out U2.out).mono ?_
      rintro e w4 ⟨rfl, b4, u4⟩
      have U4 := Lib.hid u4; have B4 := Lib.hid b4
      clear b4 u4
      obtain ⟨⟨k0, k1, k2⟩, f0, f1, f2⟩ := U4.out.cells
      obtain ⟨⟨q0, q1, q2⟩, _⟩ := (((U4.out.set0 (.slice none 0 0)).set1 (.slice none 0 0)).set2 (.int .i64 1)).cells
      unfold failV
      go_wp2_with fail
      refine bodyPost_ret (v := failV 1) (by simp [results, Tryz.results14, go_sem, q0, q1, q2, failV]) rfl ?_
      rw [HO.out]
      exact specOut_fail (below_three B4.out _ _ _)
    · go_wp2_with fail
      refine (SpecNameRight_any nm w2 Hn.out).mono ?_
      rintro e w3 ⟨rfl, rfl⟩
      cases hm : nmL nm
      · have HO := Lib.hid (HOb.out (by rw [hr, hm]; rfl))
        clear HOb HOk
        go_wp2_with fail
        refine (HIll.out w2 B2.out U2.out).mono ?_
        rintro e w4 ⟨rfl, b4, u4⟩
        have U4 := Lib.hid u4; have B4 := Lib.hid b4
        clear b4 u4
        obtain ⟨⟨k0, k1, k2⟩, f0, f1, f2⟩ := U4.out.cells
        obtain ⟨⟨q0, q1, q2⟩, _⟩ := (((U4.out.set0 (.slice none 0 0)).set1 (.slice none 0 0)).set2 (.int .i64 1)).cells
        unfold failV
        go_wp2_with fail
        refine bodyPost_ret (v := failV 1) (by simp [results, Tryz.results14, go_sem, q0, q1, q2, failV]) rfl ?_
        rw [HO.out]
        exact specOut_fail (below_three B4.out _ _ _)
      · go_wp2_with fail
        refine (l02Value_any val w2 Hv.out).mono ?_
        rintro e w3 ⟨rfl, hb3⟩
        have B3 := Lib.hid (B2.out.trans (hb3.mono B2.out.size)); have T3 := Lib.hid (T2.out.below hb3); have U3 := Lib.hid (U2.out.below hb3)
        clear hb3 B2 T2 U2
        cases hp : valB val
        · have HO := Lib.hid (HOb.out (by rw [hr, hm, hp]; rfl))
          clear HOb HOk
          go_wp2_with fail
          refine (HIll.out w3 B3.out U3.out).mono ?_
          rintro e w4 ⟨rfl, b4, u4⟩
          have U4 := Lib.hid u4; have B4 := Lib.hid b4
          clear b4 u4
          obtain ⟨⟨k0, k1, k2⟩, f0, f1, f2⟩ := U4.out.cells
          obtain ⟨⟨q0, q1, q2⟩, _⟩ := (((U4.out.set0 (.slice none 0 0)).set1 (.slice none 0 0)).set2 (.int .i64 1)).cells
          unfold failV
          go_wp2_with fail
          refine bodyPost_ret (v := failV 1) (by simp [results, Tryz.results14, go_sem, q0, q1, q2, failV]) rfl ?_
          rw [HO.out]
          exact specOut_fail (below_three B4.out _ _ _)
        · have HC := Lib.hid (HOk.out (by rw [hr, hm, hp]; rfl))
          clear HOb HOk HIll
          obtain ⟨⟨p0, p1⟩, _⟩ := T3.out.cells
          have HAdd := Lib.hid (l03Add_any ao bo d l ca cb nm val w3 (HD.out.below B3.out) (HL.out.below B3.out) FD.out FL.out (by omega) (by omega) HC.out)
          generalize hre : addR d l nm val = r at *
          have HRe := Lib.hid hre; clear hre
          obtain ⟨c, D, T⟩ := r
          have hw1 : w.heap.size + 1 < w3.heap.size := U3.out.lt
          go_wp2_with fail
          refine HAdd.out.mono ?_
          rintro e w4 ⟨⟨vo, vc, uo, uc, rfl, x4, y4⟩, hb4⟩
          dsimp only at x4 y4 ⊢
          have U4 := Lib.hid (U3.out.below hb4); have B4 := Lib.hid (B3.out.trans (hb4.mono B3.out.size)); have X4 := Lib.hid x4; have Y4 := Lib.hid y4
          clear hb4 x4 y4 p0 p1
          obtain ⟨⟨k0, k1, k2⟩, f0, f1, f2⟩ := U4.out.cells
          obtain ⟨⟨q0, q1, q2⟩, _⟩ := (((U4.out.set0 (.slice vo D.length vc)).set1 (.slice uo T.length uc)).set2 (.int .i64 c)).cells
          go_wp2_with fail
          refine bodyPost_ret (v := .agg #[.slice vo D.length vc, .slice uo T.length uc, .int .i64 c]) (by simp [results, Tryz.results14, go_sem, q0, q1, q2]) rfl ?_
          exact ⟨⟨vo, vc, uo, uc, rfl, own_mono (own_cellOut (own_cellOut (own_cellOut X4.out hw1) hw1) hw1) B3.out.size, (((Y4.out.cellOut hw1).cellOut hw1).cellOut hw1).mono B3.out.size⟩, below_three B4.out _ _ _⟩
end Go.Proofs.YtjajpdghamecoaaGreat
/- slices.Delete at texts, laid; one text of a row of the call's own is taken out. -/
namespace Go.Proofs
open Go.Shelf
def Tryz.laysDel_ren : Go.Shelf.Ren := ⟨fun | 46 => 51 | n => n, fun | 0 => 0 | 3 => 3 | 4 => 4 | 25 => 36 | 26 => 9 | n => n, fun | n => n⟩
theorem Tryz.laysDel : Go.Proofs.SlLaysN.n46 Tryz.prog Tryz.laysDel_ren := {
  mixed := by kernel_rfl
  f46 := ⟨Tryz.f51.name, by kernel_rfl, Tryz.func51.trans (congrArg some (by kernel_rfl))⟩
  t0 := Tryz.underlying0
  a0 := Tryz.isAgg0
  z0 := Tryz.sizeOf0
  v0 := Tryz.zeroValue0
  t3 := Tryz.underlying3
  a3 := Tryz.isAgg3
  z3 := Tryz.sizeOf3
  v3 := Tryz.zeroValue3
  t4 := Tryz.underlying4
  a4 := Tryz.isAgg4
  z4 := Tryz.sizeOf4
  v4 := Tryz.zeroValue4
  t25 := Tryz.underlying36
  a25 := Tryz.isAgg36
  z25 := Tryz.sizeOf36
  v25 := Tryz.zeroValue36
  t26 := Tryz.underlying9
  a26 := Tryz.isAgg9
  z26 := Tryz.sizeOf9
  v26 := Tryz.zeroValue9
  i26 := by kernel_rfl }
namespace YtjajpdghamecoaaGreat
open Go.RowKit Go.Sort
attribute [local go_sem ↓] Go.wp_at_zero Go.wp_at_succ

def eraseV (V : List ByteArray) (i : Nat) : List ByteArray := V.take i ++ V.drop (i + 1)
theorem eraseV_len {V : List ByteArray} {i : Nat} (h : i < V.length) : (eraseV V i).length = V.length - 1 := by unfold eraseV; rw [List.length_append, List.length_take, List.length_drop]; omega
theorem eraseV_mem {V : List ByteArray} {i : Nat} {s : ByteArray} (h : s ∈ eraseV V i) : s ∈ V := by
  unfold eraseV at h
  rcases List.mem_append.1 h with h | h
  · exact List.mem_of_mem_take h
  · exact List.mem_of_mem_drop h
theorem grown_put {w : World} {g q : Nat} (d : Array (List UInt8)) : w.grownBy (putRow encStr (Sort.ahead w q) g 0 d) (some g) := by
  refine ⟨rfl, rfl, rfl, by simp [Sort.ahead], fun k hk hne => ?_⟩
  have hkg : g ≠ k := fun e => hne (by rw [e])
  simp [putRow, mapBlock, Sort.ahead, Array.getElem?_modify, hkg]
theorem Delete_any (B g cap i : Nat) (V : List ByteArray) (w : World) (hown : w.ownsRow B 9 1 (.slice (some ⟨g, 0, none⟩) V.length cap) V.length (ss V)) (hi : i < V.length) (hb : V.length ≤ 1000000) :
    Calls Tryz.prog 51 #[.slice (some ⟨g, 0, none⟩) V.length cap, .int .i64 (i : Int), .int .i64 ((i : Int) + 1)] w fun e w' => e = .returned (.slice (some ⟨g, 0, none⟩) (V.length - 1) cap) ∧ StrsAt w' (some ⟨g, 0, none⟩) (eraseV V i) ∧ w.grownBy w' (some g) := by
  rcases hown.2 with ⟨h0, _⟩ | ⟨g', cap', cur, e, _, hk, hc1, hc2, hc3, hc4⟩
  · cases h0
  · injection e with e1 _ e3
    injection e1 with e1
    injection e1 with e1
    subst e1; subst e3
    have hH : Holds encStr w g 0 (V.map fun s : ByteArray => s.data.toList).toArray := by
      refine holds_of_block hk ?_
      rw [List.length_map, ← Nat.mul_one V.length, hc4]
      unfold ss
      rw [List.map_map]
      rfl
    have hc := AnyG.slices_Delete_string Tryz.laysDel g 0 cap i (i + 1) (V.map fun s : ByteArray => s.data.toList) w hH (by simpa using hc1) (by unfold maxLen at hc2; exact hc2) (by omega) (by rw [List.length_map]; omega)
    rw [List.length_map, show V.length - (i + 1 - i) = V.length - 1 by omega] at hc
    have hc' : Calls Tryz.prog 51 #[.slice (some ⟨g, 0, none⟩) V.length cap, .int .i64 (i : Int), .int .i64 (((i + 1 : Nat)) : Int)] w _ := hc
    rw [show (((i + 1 : Nat)) : Int) = (i : Int) + 1 by omega] at hc'
    refine hc'.mono ?_
    rintro e w' ⟨he, q, rfl⟩
    refine ⟨he, ?_, grown_put _⟩
    have hsz : ((V.map fun s : ByteArray => s.data.toList).take i ++ (V.map fun s : ByteArray => s.data.toList).drop (i + 1) ++ List.replicate (i + 1 - i) []).toArray.size = ((V.map fun s : ByteArray => s.data.toList).toArray).size := by
      simp; omega
    have hP := holds_putRow encStr (Sort.ahead w q) g 0 _ _ (holds_ahead encStr w q g 0 _ hH) hsz
    have hgl : g < w.heap.size := (Array.getElem?_eq_some_iff.1 hk).1
    refine .inr ⟨g, 0, rfl, by simp [Sort.ahead]; exact hgl, fun j hj => ?_⟩
    have hl := eraseV_len hi
    have hj' : j < V.length - 1 := by omega
    have := (hP j (by rw [hsz]; simp; omega)).1
    rw [this]
    congr 1
    have e : ((V.map fun s : ByteArray => s.data.toList).take i ++ (V.map fun s : ByteArray => s.data.toList).drop (i + 1) ++ List.replicate (i + 1 - i) []) = (eraseV V i).map (fun s : ByteArray => s.data.toList) ++ [[]] := by
      unfold eraseV
      rw [List.map_append, List.map_take, List.map_drop, show i + 1 - i = 1 by omega]; rfl
    rw [e, getElem!_pos _ _ (by simp; omega)]
    simp only [List.getElem_toArray]
    rw [List.getElem_append_left (by simpa using hj), List.getElem_map]
    try rfl
end YtjajpdghamecoaaGreat
end Go.Proofs
/- ValueDrop: the whole of the program's text. -/
namespace Go.Proofs.YtjajpdghamecoaaGreat
open Go.RowKit
attribute [local go_sem ↓] Go.wp_at_zero Go.wp_at_succ

noncomputable def dropR (d : RdnL) (l : List AttrV) (nm val : ByteArray) : OutR :=
  if vcode (rightB d l) nm val ≠ 0 then (vcode (rightB d l) nm val, [], [])
  else if findI (likeV val) (attrOfL d l nm) < 0 then (6, [], [])
  else (0, d, setL l nm (sortN (eraseV (attrOfL d l nm) (findI (likeV val) (attrOfL d l nm)).toNat)))
theorem findI_at {α : Type} {p : α → Bool} {l : List α} (h : ¬ findI p l < 0) : ∃ k, k < l.length ∧ findI p l = (k : Int) := by
  unfold findI at h ⊢
  cases hf : l.findIdx? p with
  | none => rw [hf] at h; simp at h
  | some i =>
    rw [List.findIdx?_eq_some_iff_getElem] at hf
    exact ⟨i, hf.1, rfl⟩
theorem erase_fits {V : List ByteArray} (h : FitsV V) (i : Nat) : FitsV (eraseV V i) := by
  refine ⟨?_, fun s hs => h.2 s (eraseV_mem hs)⟩
  have := h.1
  unfold eraseV; rw [List.length_append, List.length_take, List.length_drop]; omega
theorem erase_diff {V : List ByteArray} (h : Diff V) (i : Nat) : Diff (eraseV V i) := by
  refine List.Pairwise.sublist ?_ h
  unfold eraseV
  have h1 : (V.take i ++ V.drop (i + 1)).Sublist (V.take i ++ V.drop i) := by
    refine List.Sublist.append (List.Sublist.refl _) ?_
    rw [← List.drop_drop]
    exact List.drop_sublist _ _
  rwa [List.take_append_drop] at h1
theorem dropR_small {d : RdnL} {l : List AttrV} {nm val : ByteArray} (hf : FitsA l) : Small (dropR d l nm val) := by
  unfold dropR
  split
  · exact small_fail _
  · rename_i hc
    obtain ⟨z1, z2, z3, _, _⟩ := vcode_zero (by simpa using hc)
    split
    · exact small_fail _
    · have h4 := attrOf_four (d := d) (l := l) nm
      refine small_set z1 hf (by omega) (sortN_fits (erase_fits (attrOf_fits hf nm) _)) ?_
      rw [sortN_len]; unfold eraseV; rw [List.length_append, List.length_take, List.length_drop]; omega
/-- withValues of values of different norms -/
theorem withV_any (ao bo vo : Option Addr) (d : RdnL) (l : List AttrV) (V : List ByteArray) (ca cb vc : Nat) (nm : ByteArray) (w : World) (hd : DnAt w ao d) (hl : AttrsAt w bo l) (hfd : Fits d) (hfl : FitsA l) (hr : rightB d l = true) (h8 : l.length ≤ 8) (hn : nm.size ≤ 1048576) (hv : ValsAt w vo vc V) (hfv : FitsV V) (h12 : V.length ≤ 12) (hD : Diff V) :
    Calls Tryz.prog 50 #[.agg #[.slice ao d.length ca, .slice bo l.length cb], .string nm, .slice vo V.length vc] w (GivesE w d (setL l nm (sortN V))) := by
  by_cases h0 : V.length = 0
  · have hV : V = [] := List.length_eq_zero_iff.1 h0
    subst hV
    exact withNone_any ao bo vo d l ca cb vc nm w hd hl hfd hfl hr h8 hn
  · refine (withSome_any ao bo vo d l V ca cb vc nm w hd hl hfd hfl hr h8 hn hv hfv h12 (by omega)).mono ?_
    rintro e w' ⟨L, hp, ha, hg⟩
    rw [← sorted_is hp ha hD]
    exact hg
set_option maxRecDepth 100000 in
set_option maxHeartbeats 1000000 in
theorem ValueDrop_out (ao bo : Option Addr) (d : RdnL) (l : List AttrV) (ca cb : Nat) (nm val : ByteArray) (w : World) (hd : DnAt w ao d) (hl : AttrsAt w bo l) (hfd : Fits d) (hfl : FitsA l) (hn : nm.size ≤ maxLen) (hv : val.size ≤ maxLen) :
    Calls Tryz.prog 11 #[.agg #[.slice ao d.length ca, .slice bo l.length cb], .string nm, .string val] w (ImplOut w (dropR d l nm val)) := by
  have HD := Lib.hid hd; have HL := Lib.hid hl; have FD := Lib.hid hfd; have FL := Lib.hid hfl; have Hn := Lib.hid hn; have Hv := Lib.hid hv; clear hd hl hfd hfl
  have HOc : Hid (vcode (rightB d l) nm val ≠ 0 → dropR d l nm val = (vcode (rightB d l) nm val, [], [])) := Lib.hid (fun h => by unfold dropR; rw [if_pos h])
  have HO6 : Hid (vcode (rightB d l) nm val = 0 → findI (likeV val) (attrOfL d l nm) < 0 → dropR d l nm val = (6, [], [])) := Lib.hid (fun h h' => by unfold dropR; rw [if_neg (by simpa using h), if_pos h'])
  have HO0 : Hid (vcode (rightB d l) nm val = 0 → ∀ k : Nat, findI (likeV val) (attrOfL d l nm) = (k : Int) → dropR d l nm val = (0, d, setL l nm (sortN (eraseV (attrOfL d l nm) k)))) := Lib.hid (fun h k h' => by unfold dropR; rw [if_neg (by simpa using h), if_neg (by omega), h']; rfl)
  go_enter Tryz.func11, Tryz.ntmps11
  go_wp2_with fail
  refine calls_any' (fun W => Below w.heap.size w W ∧ Two W w.heap.size 26 (.slice ao d.length ca) (.slice bo l.length cb) ∧ Three W (w.heap.size + 1) 30 (.slice none 0 0) (.slice none 0 0) (.int .i64 0)) ⟨more (more (Below.refl _ _) _) _, (twoNew w 26 _ _).alloc _, threeNext w _ 30 _ _ _⟩ ?_
  rintro W ⟨hbW, t0, t1⟩
  refine (valueCode_any ao bo d l ca cb nm val W (HD.out.below hbW) (HL.out.below hbW) FD.out FL.out Hn.out Hv.out).mono ?_
  rintro e w1 ⟨rfl, hb1⟩
  have B1 := Lib.hid (hbW.trans (hb1.mono hbW.size)); have T1 := Lib.hid (t0.below hb1); have U1 := Lib.hid (t1.below hb1)
  clear hbW t0 t1 hb1
  obtain ⟨⟨p0, p1⟩, _⟩ := T1.out.cells
  obtain ⟨⟨k0, k1, k2⟩, f0, f1, f2⟩ := U1.out.cells
  by_cases hc : vcode (rightB d l) nm val = 0
  · rw [hc]
    have HC := Lib.hid hc; clear hc
    clear k0 k1 k2 f0 f1 f2
    go_wp2_with fail
    clear p0 p1
    refine (AttrOf_any ao bo d l ca cb nm w1 (HD.out.below B1.out) (HL.out.below B1.out) FD.out FL.out Hn.out).mono ?_
    rintro e w2 ⟨⟨v2, rfl, o2⟩, b2⟩
    obtain ⟨vo, vc, rfl⟩ := own_slice o2
    have B2 := Lib.hid (B1.out.trans (b2.mono B1.out.size)); have T2 := Lib.hid (T1.out.below b2); have U2 := Lib.hid (U1.out.below b2); have O2 := Lib.hid o2
    have FV := Lib.hid (attrOf_fits (d := d) FL.out nm)
    have hw1 := T1.out.lt
    have hw1' := U1.out.lt
    have HW12 : w1.heap.size ≤ w2.heap.size := b2.size
    clear b2 o2 B1 T1 U1
    go_wp2_with fail
    refine (normIndex_any vo _ vc val w2 (own_strs O2.out) FV.out Hv.out).mono ?_
    rintro e w3 ⟨rfl, b3⟩
    have B3 := Lib.hid (B2.out.trans (b3.mono B2.out.size)); have T3 := Lib.hid (T2.out.below b3); have U3 := Lib.hid (U2.out.below b3); have O3 := Lib.hid (own_below O2.out b3)
    have HW13 : w1.heap.size ≤ w3.heap.size := Nat.le_trans HW12 b3.size
    clear b3 B2 T2 U2 O2
    obtain ⟨⟨k0, k1, k2⟩, f0, f1, f2⟩ := U3.out.cells
    by_cases hi : findI (likeV val) (attrOfL d l nm) < 0
    · obtain ⟨⟨q0, q1, q2⟩, _⟩ := (((U3.out.set0 (.slice none 0 0)).set1 (.slice none 0 0)).set2 (.int .i64 6)).cells
      have HO := Lib.hid (HO6.out HC.out hi)
      clear HO6 HO0 HOc
      generalize hqe : findI (likeV val) (attrOfL d l nm) = q
      rw [hqe] at hi
      clear hqe
      go_wp2_with fail
      refine bodyPost_ret (v := failV 6) (by simp [results, Tryz.results11, go_sem, q0, q1, q2, failV]) rfl ?_
      rw [HO.out]
      exact implOut_fail (below_three B3.out _ _ _)
    · obtain ⟨k, hk, hke⟩ := findI_at hi
      have HO := Lib.hid (HO0.out HC.out k hke)
      clear HO6 HO0 HOc
      rw [hke]
      clear hi hke
      have hlv := FV.out.1
      obtain ⟨z1, z2, z3, _, _⟩ := vcode_zero HC.out
      have HZ1 := Lib.hid z1
      have h8 := (right_eight z1).1
      have hv4 := attrOf_four (d := d) (l := l) nm
      have HDf : Hid (Diff (attrOfL d l nm)) := Lib.hid (by rw [attrOf_yes z1]; exact inc_diff (vals_inc z1 nm))
      clear z1
      obtain ⟨g, rfl⟩ : ∃ g, vo = some ⟨g, 0, none⟩ := by
        rcases O3.out.2 with ⟨_, h0⟩ | ⟨g, _, _, e, _⟩
        · omega
        · injection e with e; exact ⟨g, e⟩
      have hw4 : w1.heap.size ≤ w3.heap.size := HW13
      have SK : Hid (∀ Z : World, Below w1.heap.size w3 Z → (Z.cell? ⟨w.heap.size, 0, none⟩ = some (.slice ao d.length ca) ∧ Z.cell? ⟨w.heap.size, 1, none⟩ = some (.slice bo l.length cb))) :=
        Lib.hid (fun Z h => ⟨(h.cell (p := ⟨w.heap.size, 0, none⟩) hw1).trans T3.out.cells.1.1, (h.cell (p := ⟨w.heap.size, 1, none⟩) hw1).trans T3.out.cells.1.2⟩)
      have hb0 : Below w1.heap.size w3 w3 := Below.refl _ _
      have hbd := hb0.drew
      have HDel : Hid (Calls Tryz.prog 51 #[.slice (some ⟨g, 0, none⟩) (attrOfL d l nm).length vc, .int .i64 (k : Int), .int .i64 ((k : Int) + 1)] w3.drew fun e w' => e = .returned (.slice (some ⟨g, 0, none⟩) ((attrOfL d l nm).length - 1) vc) ∧ StrsAt w' (some ⟨g, 0, none⟩) (eraseV (attrOfL d l nm) k) ∧ Below w1.heap.size w3 w') :=
        Lib.hid ((Delete_any w1.heap.size g vc k (attrOfL d l nm) w3.drew O3.out hk (by omega)).mono fun e w' ⟨h1, h2, h3⟩ => ⟨h1, h2, hbd.grown h3 hw4 (fun j hj => by injection hj with hj; subst hj; exact (O3.out.lt _ rfl).1)⟩)
      have HEl := Lib.hid (eraseV_len hk)
      have HOc := Lib.hid (own_cap O3.out)
      have HWV : Hid (∀ X : World, Below w1.heap.size w3 X → StrsAt X (some ⟨g, 0, none⟩) (eraseV (attrOfL d l nm) k) →
          Calls Tryz.prog 50 #[.agg #[.slice ao d.length ca, .slice bo l.length cb], .string nm, .slice (some ⟨g, 0, none⟩) ((attrOfL d l nm).length - 1) vc] X fun e w' => ∃ v u, e = .returned (.agg #[v, u]) ∧ w'.ownsRow w1.heap.size 97 2 v d.length (rs d) ∧ AttrsOwn w' w1.heap.size u (setL l nm (sortN (eraseV (attrOfL d l nm) k))) ∧ Below w1.heap.size w3 w') :=
        Lib.hid (fun X hX hs => by
          have hXb : Below w.heap.size w X := B3.out.trans (hX.mono (by omega))
          have := withV_any ao bo (some ⟨g, 0, none⟩) d l (eraseV (attrOfL d l nm) k) ca cb vc nm X (HD.out.below hXb) (HL.out.below hXb) FD.out FL.out HZ1.out h8 (by omega) ⟨hs, by rw [HEl.out]; have := HOc.out; omega, fun e => by cases e⟩ (erase_fits FV.out k) (by rw [HEl.out]; omega) (erase_diff HDf.out k)
          rw [HEl.out] at this
          have hXs : w1.heap.size ≤ X.heap.size := Nat.le_trans hw4 hX.size
          exact this.mono fun e w' ⟨⟨v, u, h3, h4, h5⟩, h6⟩ => ⟨v, u, h3, own_mono h4 hXs, h5.mono hXs, hX.trans (h6.mono hXs)⟩)
      have HDel' := Lib.hid HDel.out; have HWV' := Lib.hid HWV.out
      clear HDel HWV k0 k1 k2 f0 f1 f2
      generalize setL l nm (sortN (eraseV (attrOfL d l nm) k)) = T at *
      generalize eraseV (attrOfL d l nm) k = EV at *
      have hk' : k < (attrOfL d l nm).length := hk
      have hvl : (attrOfL d l nm).length ≤ 4 := hv4
      generalize (attrOfL d l nm).length = n at *
      have g0 : ¬ (k : Int) < 0 := by omega
      have hwr : IntKind.i64.wrap ((k : Int) + 1) = (k : Int) + 1 := IntWalk.i64_in _ (by omega)
      go_wp2_with fail
      refine wp_region_held_drew (S := (fun Z => Z.cell? ⟨w.heap.size, 0, none⟩ = some (.slice ao d.length ca) ∧ Z.cell? ⟨w.heap.size, 1, none⟩ = some (.slice bo l.length cb))) (by kernel_rfl) ?_ (fun hHeld => ?_)
      · (try dsimp only)
        first | exact SK.out _ (by assumption) | exact hS7 _ _ _
      refine wpAnyH_take (i := 0) (oi := { dst := some 27, op := Op.load 26 (Operand.tmp 3), type := 26, pos := "l03_entry.go:187", after := #[], guard := none }) (v := ?_) rfl (by kernel_rfl) (by kernel_rfl) (by kernel_rfl) (fun _ _ _ h => h) (Or.inl ⟨by rfl, ?_⟩) (by assumption) ?_
      rotate_left
      · intro w hSw; (try dsimp only at hSw); go_simp; (try with_reducible rfl)
      (try simp only [Act.put, List.setIfInBounds_toArray, List.set_cons_zero, List.set_cons_succ])
      refine wpAnyH_take (i := 1) (oi := { dst := some 28, op := Op.move (Operand.tmp 1), type := 9, pos := "l03_entry.go:187", after := #[], guard := none }) (v := ?_) rfl (by kernel_rfl) (by kernel_rfl) (by kernel_rfl) (fun _ _ _ h => h) (Or.inl ⟨by rfl, ?_⟩) (by assumption) ?_
      rotate_left
      · intro w hSw; (try dsimp only at hSw); go_simp; (try with_reducible rfl)
      (try simp only [Act.put, List.setIfInBounds_toArray, List.set_cons_zero, List.set_cons_succ])
      refine wpAnyH_take (i := 2) (oi := { dst := some 29, op := Op.move (Operand.tmp 8), type := 36, pos := "l03_entry.go:187", after := #[], guard := none }) (v := ?_) rfl (by kernel_rfl) (by kernel_rfl) (by kernel_rfl) (fun _ _ _ h => h) (Or.inl ⟨by rfl, ?_⟩) (by assumption) ?_
      rotate_left
      · intro w hSw; (try dsimp only at hSw); go_simp; (try with_reducible rfl)
      (try simp only [Act.put, List.setIfInBounds_toArray, List.set_cons_zero, List.set_cons_succ])
      refine wpAnyH_take (i := 3) (oi := { dst := some 30, op := Op.move (Operand.tmp 9), type := 3, pos := "l03_entry.go:187", after := #[], guard := none }) (v := ?_) rfl (by kernel_rfl) (by kernel_rfl) (by kernel_rfl) (fun _ _ _ h => h) (Or.inl ⟨by rfl, ?_⟩) (by assumption) ?_
      rotate_left
      · intro w hSw; (try dsimp only at hSw); go_simp; (try with_reducible rfl)
      (try simp only [Act.put, List.setIfInBounds_toArray, List.set_cons_zero, List.set_cons_succ])
      refine wpAnyH_take (i := 4) (oi := { dst := some 31, op := Op.move (Operand.tmp 9), type := 3, pos := "l03_entry.go:187", after := #[], guard := none }) (v := ?_) rfl (by kernel_rfl) (by kernel_rfl) (by kernel_rfl) (fun _ _ _ h => h) (Or.inl ⟨by rfl, ?_⟩) (by assumption) ?_
      rotate_left
      · intro w hSw; (try dsimp only at hSw); go_simp; (try with_reducible rfl)
      (try simp only [Act.put, List.setIfInBounds_toArray, List.set_cons_zero, List.set_cons_succ])
      refine wpAnyH_take (i := 5) (oi := { dst := some 32, op := Op.binOp BinOp.add 3 (Operand.tmp 31) (Operand.const (Value.int IntKind.i64 1)) 3, type := 3, pos := "l03_entry.go:187", after := #[{ on := 4, ground := Ground.data }], guard := none }) (v := ?_) rfl (by kernel_rfl) (by kernel_rfl) (by kernel_rfl) (fun _ _ _ h => h) (Or.inl ⟨by rfl, ?_⟩) (by assumption) ?_
      rotate_left
      · intro w hSw; (try dsimp only at hSw); go_simp; (try with_reducible rfl)
      (try simp only [Act.put, List.setIfInBounds_toArray, List.set_cons_zero, List.set_cons_succ])
      refine wpAnyH_ready (rs := [6]) (by kernel_rfl) (by simp) ?_
      refine AllReadyH.cons (o := { dst := some 33, op := Op.call { callee := Callee.value (Operand.func 51), args := #[Operand.tmp 29, Operand.tmp 30, Operand.tmp 32], argTypes := #[36, 3, 3] }, type := 36, pos := "l03_entry.go:187", after := #[{ on := 2, ground := Ground.data }, { on := 3, ground := Ground.data }, { on := 5, ground := Ground.data }], guard := none }) rfl (fun K hK => ?_) (AllReadyH.nil)
      go_simp
      refine HDel'.out.mono ?_
      rintro e w5 ⟨rfl, s5, hb5⟩
      have S5 := Lib.hid s5; clear s5
      clear hHeld
      refine hK.out _ _ ?_ (fun hHeld => ?_)
      · (try dsimp only)
        first | exact SK.out _ (by assumption) | exact hS7 _ _ _
      clear hK K
      (try simp only [Act.put, List.setIfInBounds_toArray, List.set_cons_zero, List.set_cons_succ])
      refine wpAnyH_ready (rs := [7]) (by kernel_rfl) (by simp) ?_
      refine AllReadyH.cons (o := { dst := some 34, op := Op.call { callee := Callee.value (Operand.func 50), args := #[Operand.tmp 27, Operand.tmp 28, Operand.tmp 33], argTypes := #[26, 9, 36] }, type := 26, pos := "l03_entry.go:187", after := #[{ on := 0, ground := Ground.data }, { on := 1, ground := Ground.data }, { on := 6, ground := Ground.data }, { on := 6, ground := Ground.chain }], guard := none }) rfl (fun K hK => ?_) (AllReadyH.nil)
      go_simp
      refine (HWV'.out w5 hb5 S5.out).mono ?_
      rintro e w6 ⟨v6, u6, rfl, ho6, ha6, hb6⟩
      obtain ⟨d0, dc, rfl⟩ := own_slice ho6
      obtain ⟨a0, ac, rfl⟩ : ∃ a0 ac, u6 = .slice a0 T.length ac := (by obtain ⟨P, _, h2, _⟩ := ha6; exact own_slice h2)
      have O6 := Lib.hid ho6; have A6 := Lib.hid ha6
      have U6 := Lib.hid (show Three w6 (w.heap.size + 1) 30 (.slice none 0 0) (.slice none 0 0) (.int .i64 0) from (hb6.block (w.heap.size + 1) hw1').trans U3.out)
      clear ho6 ha6
      obtain ⟨⟨k0, k1, k2⟩, f0, f1, f2⟩ := U6.out.cells
      have T6 := Lib.hid (show Two w6 w.heap.size 26 (.slice ao d.length ca) (.slice bo l.length cb) from (hb6.block w.heap.size hw1).trans T3.out)
      have hS7 : ∀ x y z : Value, (((w6.setCell ⟨w.heap.size + 1, 0, none⟩ x).setCell ⟨w.heap.size + 1, 1, none⟩ y).setCell ⟨w.heap.size + 1, 2, none⟩ z).cell? ⟨w.heap.size, 0, none⟩ = some (.slice ao d.length ca) ∧ (((w6.setCell ⟨w.heap.size + 1, 0, none⟩ x).setCell ⟨w.heap.size + 1, 1, none⟩ y).setCell ⟨w.heap.size + 1, 2, none⟩ z).cell? ⟨w.heap.size, 1, none⟩ = some (.slice bo l.length cb) := fun x y z => (((T6.out.far (by omega) x).far (by omega) y).far (by omega) z).cells.1
      clear hHeld
      refine hK.out _ _ ?_ (fun hHeld => ?_)
      · (try dsimp only)
        first | exact SK.out _ (by assumption) | exact hS7 _ _ _
      clear hK K
      (try simp only [Act.put, List.setIfInBounds_toArray, List.set_cons_zero, List.set_cons_succ])
      refine wpAnyH_take (i := 8) (oi := { dst := some 35, op := Op.build 30 #[(0, Operand.tmp 34)], type := 30, pos := "l03_entry.go:187", after := #[{ on := 7, ground := Ground.data }], guard := none }) (v := ?_) rfl (by kernel_rfl) (by kernel_rfl) (by kernel_rfl) (fun _ _ _ h => h) (Or.inl ⟨by rfl, ?_⟩) (by assumption) ?_
      rotate_left
      · intro w hSw; (try dsimp only at hSw); go_simp; (try with_reducible rfl)
      (try simp only [Act.put, List.setIfInBounds_toArray, List.set_cons_zero, List.set_cons_succ])
      refine wpAnyH_ready (rs := [9]) (by kernel_rfl) (by simp) ?_
      refine AllReadyH.cons (o := { dst := none, op := Op.store 30 (Operand.tmp 6) (Operand.tmp 35), type := 0, pos := "l03_entry.go:187", after := #[{ on := 8, ground := Ground.data }, { on := 7, ground := Ground.chain }, { on := 0, ground := Ground.phase }, { on := 1, ground := Ground.phase }, { on := 2, ground := Ground.phase }, { on := 3, ground := Ground.phase }, { on := 4, ground := Ground.phase }, { on := 5, ground := Ground.phase }, { on := 6, ground := Ground.phase }, { on := 7, ground := Ground.phase }, { on := 8, ground := Ground.phase }], guard := none }) rfl (fun K hK => ?_) (AllReadyH.nil)
      go_simp
      clear hHeld
      refine hK.out _ _ ?_ (fun hHeld => ?_)
      · (try dsimp only)
        first | exact SK.out _ (by assumption) | exact hS7 _ _ _
      clear hK K
      (try simp only [Act.put, List.setIfInBounds_toArray, List.set_cons_zero, List.set_cons_succ])
      refine wpAnyH_done (by kernel_rfl) ?_ _
      obtain ⟨⟨q0, q1, q2⟩, _⟩ := (((U6.out.set0 (.slice d0 d.length dc)).set1 (.slice a0 T.length ac)).set2 (.int .i64 0)).cells
      have B6 := Lib.hid (B3.out.trans (hb6.mono (by omega)))
      clear k0 k1 k2 f0 f1 f2 hS7 SK hbd hb0 hb5 hb6 hHeld
      go_wp2_with fail
      refine bodyPost_ret (v := .agg #[.slice d0 d.length dc, .slice a0 T.length ac, .int .i64 0]) (by simp [results, Tryz.results11, go_sem, q0, q1, q2]) rfl ?_
      rw [HO.out]
      refine ⟨⟨d0, dc, a0, ac, rfl, ?_, ?_⟩, below_three B6.out _ _ _⟩
      · exact own_mono (own_cellOut (own_cellOut (own_cellOut O6.out (by omega)) (by omega)) (by omega)) (by omega)
      · exact (((A6.out.cellOut (by omega)).cellOut (by omega)).cellOut (by omega)).mono (by omega)
  · obtain ⟨⟨q0, q1, q2⟩, _⟩ := (((U1.out.set0 (.slice none 0 0)).set1 (.slice none 0 0)).set2 (.int .i64 (vcode (rightB d l) nm val))).cells
    have HO := Lib.hid (HOc.out hc)
    have hc' : (vcode (rightB d l) nm val != 0) = true := by simpa using hc
    clear hc HO6 HO0 HOc
    generalize hce : vcode (rightB d l) nm val = c at *
    clear hce
    go_wp2_with fail
    refine bodyPost_ret (v := failV c) (by simp [results, Tryz.results11, go_sem, q0, q1, q2, failV]) rfl ?_
    rw [HO.out]
    exact implOut_fail (below_three B1.out _ _ _)
end Go.Proofs.YtjajpdghamecoaaGreat
/- l03Drop: what the specification's text returns. -/
namespace Go.Proofs.YtjajpdghamecoaaGreat
open Go.RowKit
attribute [local go_sem ↓] Go.wp_at_zero Go.wp_at_succ

set_option maxRecDepth 100000 in
set_option maxHeartbeats 1000000 in
theorem l03Drop_any (ao bo : Option Addr) (d : RdnL) (l : List AttrV) (ca cb : Nat) (nm val : ByteArray) (w : World) (hd : DnAt w ao d) (hl : AttrsAt w bo l) (hfd : Fits d) (hfl : FitsA l) (hn : nm.size ≤ 8000) (hv : val.size ≤ 8000) (hc : vcode (rightB d l) nm val = 0) :
    Calls Tryz.prog 58 #[.agg #[.slice ao d.length ca, .slice bo l.length cb], .string nm, .string val] w (SpecOut w (dropR d l nm val)) := by
  obtain ⟨z1, _, _, _, _⟩ := vcode_zero hc
  have h8 := right_eight z1
  have hin := right_inc z1
  have hdp : 0 < d.length := by unfold rightB at z1; simp only [Bool.and_eq_true, decide_eq_true_eq] at z1; exact z1.1.2
  have hac : ao = none → ca = 0 := fun e => by
    subst e
    rcases hd with h | ⟨b, off, e, _⟩
    · rw [h] at hdp; simp at hdp
    · cases e
  have HA : Hid (attrOfL d l nm = valsOf l nm) := Lib.hid (attrOf_yes z1 nm)
  have h4 : (valsOf l nm).length ≤ 4 := by rw [← HA.out]; exact attrOf_four nm
  have HO6 : Hid (findI (likeV val) (valsOf l nm) < 0 → dropR d l nm val = (6, [], [])) := Lib.hid (fun h => by unfold dropR; rw [if_neg (by simpa using hc), if_pos (by rw [HA.out]; exact h)])
  have HO0 : Hid (∀ k : Nat, findI (likeV val) (valsOf l nm) = (k : Int) → dropR d l nm val = (0, d, setL l nm (sortN (eraseV (valsOf l nm) k)))) := Lib.hid (fun k h => by
    unfold dropR; rw [if_neg (by simpa using hc), HA.out, if_neg (by omega), h]; rfl)
  have HV1 := Lib.hid (valsOf_fits hfl nm)
  have HD := Lib.hid hd; have HL := Lib.hid hl; have FD := Lib.hid hfd; have FL := Lib.hid hfl; have HI := Lib.hid hin; clear hd hl hfd hfl hc z1 hin HA
  go_enter Tryz.func58, Tryz.ntmps58
  go_wp2_with fail
  refine calls_any' (fun W => Below w.heap.size w W ∧ Two W w.heap.size 26 (.slice ao d.length ca) (.slice bo l.length cb) ∧ Three W (w.heap.size + 1) 30 (.slice none 0 0) (.slice none 0 0) (.int .i64 0)) ⟨more (more (Below.refl _ _) _) _, (twoNew w 26 _ _).alloc _, threeNext w _ 30 _ _ _⟩ ?_
  rintro W ⟨hbW, t0, t1⟩
  refine (l03Of_any ao bo d l ca cb nm W (HL.out.below hbW) FL.out).mono ?_
  rintro e w1 ⟨⟨lo, lc, rfl, hva⟩, hb1⟩
  have B1 := Lib.hid (hbW.trans (hb1.mono hbW.size)); have T1 := Lib.hid (t0.below hb1); have U1 := Lib.hid (t1.below hb1); have VA := Lib.hid hva
  clear hbW t0 t1 hb1 hva
  generalize valsOf l nm = L at *
  go_wp2_with fail
  refine (SpecNorm_any val w1 (by unfold maxLen; omega)).mono ?_
  rintro e w2 ⟨rfl, hb2⟩
  have B2 := Lib.hid (B1.out.trans (hb2.mono B1.out.size)); have T2 := Lib.hid (T1.out.below hb2); have U2 := Lib.hid (U1.out.below hb2); have VA2 := Lib.hid (VA.out.below hb2)
  clear hb2 B1 T1 U1 VA
  go_wp2_with fail
  refine (l03In_any lo L lc val w2 VA2.out.1 HV1.out).mono ?_
  rintro e w3 ⟨rfl, hb3⟩
  have B3 := Lib.hid (B2.out.trans (hb3.mono B2.out.size)); have T3 := Lib.hid (T2.out.below hb3); have U3 := Lib.hid (U2.out.below hb3); have VA3 := Lib.hid (VA2.out.below hb3)
  clear hb3 B2 T2 U2 VA2
  have hw1 : w.heap.size + 1 < w3.heap.size := U3.out.lt
  by_cases hi : findI (likeV val) L < 0
  · have HO := Lib.hid (HO6.out hi)
    clear HO6 HO0
    generalize findI (likeV val) L = q at *
    go_wp2_with fail
    refine (l03Ill_any 6 w3).mono ?_
    rintro e w4 ⟨rfl, hb4⟩
    have U4 := Lib.hid (U3.out.below hb4); have B4 := Lib.hid (B3.out.trans (hb4.mono B3.out.size))
    clear hb4
    obtain ⟨⟨k0, k1, k2⟩, f0, f1, f2⟩ := U4.out.cells
    obtain ⟨⟨q0, q1, q2⟩, _⟩ := (((U4.out.set0 (.slice none 0 0)).set1 (.slice none 0 0)).set2 (.int .i64 6)).cells
    unfold failV
    go_wp2_with fail
    refine bodyPost_ret (v := failV 6) (by simp [results, Tryz.results58, go_sem, q0, q1, q2, failV]) rfl ?_
    rw [HO.out]
    exact specOut_fail (below_three B4.out _ _ _)
  · obtain ⟨k, hk, hke⟩ := findI_at hi
    have HOut := Lib.hid (HO0.out k hke)
    clear HO6 HO0
    rw [hke]
    clear hi hke
    obtain ⟨b0, o0, rfl, _, _⟩ := VA3.out.1.at hk
    have hlcap := VA3.out.2.1
    have hcut1 := head36 ⟨b0, o0, none⟩ L.length k lc (by omega)
    obtain ⟨a2, hcut2, hcs2⟩ := tail36 w3 ⟨b0, o0, none⟩ L (k + 1) lc (by omega) hlcap VA3.out.1
    rw [show (((k + 1 : Nat)) : Int) = (k : Int) + 1 by omega] at hcut2
    have HTk : Hid (StrsAt w3 (some ⟨b0, o0, none⟩) (L.take k)) := Lib.hid (VA3.out.1.take k)
    have HTd := Lib.hid hcs2
    clear hcs2
    have hwr : IntKind.i64.wrap ((k : Int) + 1) = (k : Int) + 1 := IntWalk.i64_in _ (by omega)
    have g0 : ¬ (k : Int) < 0 := by omega
    have HLs : (L.take k ++ L.drop (k + 1)).length = L.length - 1 := eraseV_len hk
    have hLk : Hid (k = (L.take k).length) := Lib.hid (by rw [List.length_take]; omega)
    have hLd : Hid (L.length - (k + 1) = (L.drop (k + 1)).length) := Lib.hid (by rw [List.length_drop])
    have hlenL : ([] : List ByteArray).length + (L.take k).length ≤ 1000000000 := by simp; omega
    have hlen1 : (L.take k).length + (L.drop (k + 1)).length ≤ 1000000000 := by simp; omega
    have HEl := Lib.hid (eraseV_len hk)
    have HSet0 : Hid (∀ (X : World) (yo : Option Addr) (yc : Nat), Below w3.heap.size w3 X → StrsAt X yo (eraseV L k) → Calls Tryz.prog 101 #[.agg #[.slice ao d.length ca, .slice bo l.length cb], .string nm, .slice yo (L.length - 1) yc] X fun e w' => (∃ po pc qo qc, e = .returned (.agg #[.slice po d.length pc, .slice qo (setL l nm (sortN (eraseV L k))).length qc]) ∧ w'.ownsRow w3.heap.size 97 2 (.slice po d.length pc) d.length (rs d) ∧ AttrsRow w' w3.heap.size (.slice qo (setL l nm (sortN (eraseV L k))).length qc) (setL l nm (sortN (eraseV L k)))) ∧ Below w3.heap.size w3 w') :=
      Lib.hid (fun X yo yc hX hy => by
        have := l03Set_any ao bo yo d l (eraseV L k) ca cb yc nm X (HD.out.below (B3.out.trans (hX.mono B3.out.size))) (HL.out.below (B3.out.trans (hX.mono B3.out.size))) hy FD.out FL.out (erase_fits HV1.out k) (by omega) (by rw [HEl.out]; omega) hac HI.out
        rw [HEl.out] at this
        exact this.mono fun e w' ⟨⟨po, pc, qo, qc, e1, e2, e3⟩, e4⟩ => ⟨⟨po, pc, qo, qc, e1, own_mono e2 hX.size, e3.mono hX.size⟩, hX.trans (e4.mono hX.size)⟩)
    have HSet := Lib.hid HSet0.out
    clear HSet0
    generalize setL l nm (sortN (eraseV L k)) = T at *
    have SK : Hid (∀ Z : World, Below (w.heap.size + 1) w3 Z → (Z.cell? ⟨w.heap.size, 0, none⟩ = some (.slice ao d.length ca) ∧ Z.cell? ⟨w.heap.size, 1, none⟩ = some (.slice bo l.length cb))) :=
      Lib.hid (fun Z h => ⟨(h.cell (p := ⟨w.heap.size, 0, none⟩) (Nat.lt_succ_self _)).trans T3.out.cells.1.1, (h.cell (p := ⟨w.heap.size, 1, none⟩) (Nat.lt_succ_self _)).trans T3.out.cells.1.2⟩)
    have hw1' : w.heap.size + 1 ≤ w3.heap.size := Nat.le_of_lt hw1
    have hbd0 : Below w3.heap.size w3 w3.drew := (Below.refl _ _).drew
    have hbz1 : Below w3.heap.size w3 (w3.drew.alloc (.cells #[] 9)) := more hbd0 _
    have OZ1 : Hid ((w3.drew.alloc (.cells #[] 9)).ownsRow w3.heap.size 9 1 (.slice (some ⟨w3.heap.size, 0, none⟩) 0 0) ([] : List ByteArray).length (ss [])) := Lib.hid (own_zero w3.drew rfl (Nat.le_refl _))
    have HVa : Hid (StrsAt (w3.drew.alloc (.cells #[] 9)) (some ⟨b0, o0, none⟩) (L.take k)) := Lib.hid (HTk.out.below hbz1)
    have hs1 : w3.heap.size ≤ (w3.drew.alloc (.cells #[] 9)).heap.size := hbz1.size
    go_wp2_with fail
    refine wp_region_held_drew (S := (fun Z => Z.cell? ⟨w.heap.size, 0, none⟩ = some (.slice ao d.length ca) ∧ Z.cell? ⟨w.heap.size, 1, none⟩ = some (.slice bo l.length cb))) (by kernel_rfl) ?_ (fun hHeld => ?_)
    · (try dsimp only)
      first | exact SK.out _ (Below.mono (by assumption) hw1') | exact SK.out _ (hbz1.mono hw1') | exact SK.out _ (below_three' hb8 hw1' _ _ _)
    refine wpAnyH_take (i := 0) (oi := { dst := some 19, op := Op.load 26 (Operand.tmp 3), type := 26, pos := "l03_entry.go:158", after := #[], guard := none }) (v := ?_) rfl (by kernel_rfl) (by kernel_rfl) (by kernel_rfl) (fun _ _ _ h => h) (Or.inl ⟨by rfl, ?_⟩) (by assumption) ?_
    rotate_left
    · intro w hSw; (try dsimp only at hSw); go_simp; (try with_reducible rfl)
    (try simp only [Act.put, List.setIfInBounds_toArray, List.set_cons_zero, List.set_cons_succ])
    refine wpAnyH_take (i := 1) (oi := { dst := some 20, op := Op.move (Operand.tmp 1), type := 9, pos := "l03_entry.go:158", after := #[], guard := none }) (v := ?_) rfl (by kernel_rfl) (by kernel_rfl) (by kernel_rfl) (fun _ _ _ h => h) (Or.inl ⟨by rfl, ?_⟩) (by assumption) ?_
    rotate_left
    · intro w hSw; (try dsimp only at hSw); go_simp; (try with_reducible rfl)
    (try simp only [Act.put, List.setIfInBounds_toArray, List.set_cons_zero, List.set_cons_succ])
    refine wpAnyH_take (i := 3) (oi := { dst := some 22, op := Op.move (Operand.tmp 7), type := 36, pos := "l03_entry.go:158", after := #[], guard := none }) (v := ?_) rfl (by kernel_rfl) (by kernel_rfl) (by kernel_rfl) (fun _ _ _ h => h) (Or.inl ⟨by rfl, ?_⟩) (by assumption) ?_
    rotate_left
    · intro w hSw; (try dsimp only at hSw); go_simp; (try with_reducible rfl)
    (try simp only [Act.put, List.setIfInBounds_toArray, List.set_cons_zero, List.set_cons_succ])
    refine wpAnyH_take (i := 4) (oi := { dst := some 23, op := Op.move (Operand.tmp 8), type := 3, pos := "l03_entry.go:158", after := #[], guard := none }) (v := ?_) rfl (by kernel_rfl) (by kernel_rfl) (by kernel_rfl) (fun _ _ _ h => h) (Or.inl ⟨by rfl, ?_⟩) (by assumption) ?_
    rotate_left
    · intro w hSw; (try dsimp only at hSw); go_simp; (try with_reducible rfl)
    (try simp only [Act.put, List.setIfInBounds_toArray, List.set_cons_zero, List.set_cons_succ])
    refine wpAnyH_take (i := 5) (oi := { dst := some 24, op := Op.slice 36 (Operand.tmp 22) none (some (Operand.tmp 23)) none, type := 36, pos := "l03_entry.go:158", after := #[{ on := 3, ground := Ground.data }, { on := 4, ground := Ground.data }], guard := none }) (v := ?_) rfl (by kernel_rfl) (by kernel_rfl) (by kernel_rfl) (fun _ _ _ h => h) (Or.inl ⟨by rfl, ?_⟩) (by assumption) ?_
    rotate_left
    · intro w hSw; (try dsimp only at hSw); go_simp; (try with_reducible rfl)
    (try simp only [Act.put, List.setIfInBounds_toArray, List.set_cons_zero, List.set_cons_succ])
    refine wpAnyH_take (i := 7) (oi := { dst := some 26, op := Op.move (Operand.tmp 7), type := 36, pos := "l03_entry.go:158", after := #[], guard := none }) (v := ?_) rfl (by kernel_rfl) (by kernel_rfl) (by kernel_rfl) (fun _ _ _ h => h) (Or.inl ⟨by rfl, ?_⟩) (by assumption) ?_
    rotate_left
    · intro w hSw; (try dsimp only at hSw); go_simp; (try with_reducible rfl)
    (try simp only [Act.put, List.setIfInBounds_toArray, List.set_cons_zero, List.set_cons_succ])
    refine wpAnyH_take (i := 8) (oi := { dst := some 27, op := Op.move (Operand.tmp 8), type := 3, pos := "l03_entry.go:158", after := #[], guard := none }) (v := ?_) rfl (by kernel_rfl) (by kernel_rfl) (by kernel_rfl) (fun _ _ _ h => h) (Or.inl ⟨by rfl, ?_⟩) (by assumption) ?_
    rotate_left
    · intro w hSw; (try dsimp only at hSw); go_simp; (try with_reducible rfl)
    (try simp only [Act.put, List.setIfInBounds_toArray, List.set_cons_zero, List.set_cons_succ])
    refine wpAnyH_take (i := 9) (oi := { dst := some 28, op := Op.binOp BinOp.add 3 (Operand.tmp 27) (Operand.const (Value.int IntKind.i64 1)) 3, type := 3, pos := "l03_entry.go:158", after := #[{ on := 8, ground := Ground.data }], guard := none }) (v := ?_) rfl (by kernel_rfl) (by kernel_rfl) (by kernel_rfl) (fun _ _ _ h => h) (Or.inl ⟨by rfl, ?_⟩) (by assumption) ?_
    rotate_left
    · intro w hSw; (try dsimp only at hSw); go_simp; (try with_reducible rfl)
    (try simp only [Act.put, List.setIfInBounds_toArray, List.set_cons_zero, List.set_cons_succ])
    refine wpAnyH_take (i := 10) (oi := { dst := some 29, op := Op.slice 36 (Operand.tmp 26) (some (Operand.tmp 28)) none none, type := 36, pos := "l03_entry.go:158", after := #[{ on := 7, ground := Ground.data }, { on := 9, ground := Ground.data }], guard := none }) (v := ?_) rfl (by kernel_rfl) (by kernel_rfl) (by kernel_rfl) (fun _ _ _ h => h) (Or.inl ⟨by rfl, ?_⟩) (by assumption) ?_
    rotate_left
    · intro w hSw; (try dsimp only at hSw); go_simp; (try with_reducible rfl)
    (try simp only [Act.put, List.setIfInBounds_toArray, List.set_cons_zero, List.set_cons_succ])
    refine wpAnyH_ready (rs := [2]) (by kernel_rfl) (by simp) ?_
    refine AllReadyH.cons (o := { dst := some 21, op := Op.buildSlice 36 0 #[], type := 36, pos := "l03_entry.go:158", after := #[], guard := none }) rfl (fun K hK => ?_) (AllReadyH.nil)
    go_simp
    clear hHeld
    refine hK.out _ _ ?_ (fun hHeld => ?_)
    · (try dsimp only)
      first | exact SK.out _ (Below.mono (by assumption) hw1') | exact SK.out _ (hbz1.mono hw1') | exact SK.out _ (below_three' hb8 hw1' _ _ _)
    clear hK K
    (try simp only [Act.put, List.setIfInBounds_toArray, List.set_cons_zero, List.set_cons_succ])
    refine wpAnyH_ready (rs := [6]) (by kernel_rfl) (by simp) ?_
    refine AllReadyH.cons (o := { dst := some 25, op := Op.call { callee := Callee.builtin Builtin.append, args := #[Operand.tmp 21, Operand.tmp 24], argTypes := #[36, 36] }, type := 36, pos := "l03_entry.go:158", after := #[{ on := 2, ground := Ground.data }, { on := 5, ground := Ground.data }], guard := none }) rfl (fun K hK => ?_) (AllReadyH.nil)
    refine step_strs w3.heap.size rfl _ _ rfl (.slice (some ⟨w3.heap.size, 0, none⟩) 0 0) [] rfl OZ1.out (some ⟨b0, o0, none⟩) (L.take k) lc _ hLk.out rfl HVa.out (fun e => by cases e) hlenL hs1 hbz1 ?_
    intro v4 w4 hown4 hbel4 hgr4
    obtain ⟨xo, xc, rfl⟩ := own_slice hown4
    simp only [List.nil_append] at hown4 ⊢
    have SD := HTd.out.below hbel4
    clear hHeld
    refine hK.out _ _ ?_ (fun hHeld => ?_)
    · (try dsimp only)
      first | exact SK.out _ (Below.mono (by assumption) hw1') | exact SK.out _ (hbz1.mono hw1') | exact SK.out _ (below_three' hb8 hw1' _ _ _)
    clear hK K
    (try simp only [Act.put, List.setIfInBounds_toArray, List.set_cons_zero, List.set_cons_succ])
    refine wpAnyH_ready (rs := [11]) (by kernel_rfl) (by simp) ?_
    refine AllReadyH.cons (o := { dst := some 30, op := Op.call { callee := Callee.builtin Builtin.append, args := #[Operand.tmp 25, Operand.tmp 29], argTypes := #[36, 36] }, type := 36, pos := "l03_entry.go:158", after := #[{ on := 6, ground := Ground.data }, { on := 10, ground := Ground.data }, { on := 6, ground := Ground.chain }], guard := none }) rfl (fun K hK => ?_) (AllReadyH.nil)
    refine step_strs w3.heap.size rfl _ _ rfl (.slice xo (L.take k).length xc) (L.take k) rfl hown4 (some a2) (L.drop (k + 1)) (lc - (k + 1)) _ hLd.out rfl SD (fun e => by cases e) hlen1 hbel4.size hbel4 ?_
    intro v7 w7 hown7 hbel7 hgr7
    obtain ⟨yo, yc, rfl⟩ := own_slice hown7
    have ST7 : Hid (StrsAt w7 yo (eraseV L k)) := Lib.hid (own_strs hown7)
    clear hown7
    rw [HLs]
    clear hHeld
    refine hK.out _ _ ?_ (fun hHeld => ?_)
    · (try dsimp only)
      first | exact SK.out _ (Below.mono (by assumption) hw1') | exact SK.out _ (hbz1.mono hw1') | exact SK.out _ (below_three' hb8 hw1' _ _ _)
    clear hK K
    (try simp only [Act.put, List.setIfInBounds_toArray, List.set_cons_zero, List.set_cons_succ])
    refine wpAnyH_ready (rs := [12]) (by kernel_rfl) (by simp) ?_
    refine AllReadyH.cons (o := { dst := some 31, op := Op.call { callee := Callee.value (Operand.func 101), args := #[Operand.tmp 19, Operand.tmp 20, Operand.tmp 30], argTypes := #[26, 9, 36] }, type := 26, pos := "l03_entry.go:158", after := #[{ on := 0, ground := Ground.data }, { on := 1, ground := Ground.data }, { on := 11, ground := Ground.data }, { on := 11, ground := Ground.chain }], guard := none }) rfl (fun K hK => ?_) (AllReadyH.nil)
    go_simp
    refine (HSet.out w7 yo yc hbel7 ST7.out).mono ?_
    rintro e w8 ⟨⟨po, pc, qo, qc, rfl, e1, e2⟩, hb8⟩
    have E1 := Lib.hid e1; have E2 := Lib.hid e2; clear e1 e2
    have U8 := Lib.hid (U3.out.below hb8)
    obtain ⟨⟨k0, k1, k2⟩, f0, f1, f2⟩ := U8.out.cells
    clear hHeld
    refine hK.out _ _ ?_ (fun hHeld => ?_)
    · (try dsimp only)
      first | exact SK.out _ (Below.mono (by assumption) hw1') | exact SK.out _ (hbz1.mono hw1') | exact SK.out _ (below_three' hb8 hw1' _ _ _)
    clear hK K
    (try simp only [Act.put, List.setIfInBounds_toArray, List.set_cons_zero, List.set_cons_succ])
    refine wpAnyH_take (i := 13) (oi := { dst := some 32, op := Op.build 30 #[(0, Operand.tmp 31)], type := 30, pos := "l03_entry.go:158", after := #[{ on := 12, ground := Ground.data }], guard := none }) (v := ?_) rfl (by kernel_rfl) (by kernel_rfl) (by kernel_rfl) (fun _ _ _ h => h) (Or.inl ⟨by rfl, ?_⟩) (by assumption) ?_
    rotate_left
    · intro w hSw; (try dsimp only at hSw); go_simp; (try with_reducible rfl)
    (try simp only [Act.put, List.setIfInBounds_toArray, List.set_cons_zero, List.set_cons_succ])
    refine wpAnyH_ready (rs := [14]) (by kernel_rfl) (by simp) ?_
    refine AllReadyH.cons (o := { dst := none, op := Op.store 30 (Operand.tmp 6) (Operand.tmp 32), type := 0, pos := "l03_entry.go:158", after := #[{ on := 13, ground := Ground.data }, { on := 12, ground := Ground.chain }, { on := 0, ground := Ground.phase }, { on := 1, ground := Ground.phase }, { on := 2, ground := Ground.phase }, { on := 3, ground := Ground.phase }, { on := 4, ground := Ground.phase }, { on := 5, ground := Ground.phase }, { on := 6, ground := Ground.phase }, { on := 7, ground := Ground.phase }, { on := 8, ground := Ground.phase }, { on := 9, ground := Ground.phase }, { on := 10, ground := Ground.phase }, { on := 11, ground := Ground.phase }, { on := 12, ground := Ground.phase }, { on := 13, ground := Ground.phase }], guard := none }) rfl (fun K hK => ?_) (AllReadyH.nil)
    go_simp
    clear hHeld
    refine hK.out _ _ ?_ (fun hHeld => ?_)
    · (try dsimp only)
      first | exact SK.out _ (Below.mono (by assumption) hw1') | exact SK.out _ (hbz1.mono hw1') | exact SK.out _ (below_three' hb8 hw1' _ _ _)
    clear hK K
    (try simp only [Act.put, List.setIfInBounds_toArray, List.set_cons_zero, List.set_cons_succ])
    refine wpAnyH_done (by kernel_rfl) ?_ _
    clear hHeld
    obtain ⟨⟨q0, q1, q2⟩, _⟩ := (((U8.out.set0 (.slice po d.length pc)).set1 (.slice qo T.length qc)).set2 (.int .i64 0)).cells
    clear k0 k1 k2 f0 f1 f2
    go_wp2_with fail
    refine bodyPost_ret (v := .agg #[.slice po d.length pc, .slice qo T.length qc, .int .i64 0]) (by simp [results, Tryz.results58, go_sem, q0, q1, q2]) rfl ?_
    rw [HOut.out]
    exact fin_out B3.out hb8 hw1 E1.out E2.out _ _ _
end Go.Proofs.YtjajpdghamecoaaGreat
/- ValueDrop: what the specification's text returns. -/
namespace Go.Proofs.YtjajpdghamecoaaGreat
open Go.RowKit
attribute [local go_sem ↓] Go.wp_at_zero Go.wp_at_succ

theorem dropR_code {d : RdnL} {l : List AttrV} {nm val : ByteArray} {c : Int} (h : vcode (rightB d l) nm val = c) (hc : c ≠ 0) : dropR d l nm val = (c, [], []) := by
  unfold dropR; rw [h, if_pos hc]
set_option maxRecDepth 100000 in
set_option maxHeartbeats 1000000 in
theorem SpecValueDrop_any (ao bo : Option Addr) (d : RdnL) (l : List AttrV) (ca cb : Nat) (nm val : ByteArray) (w : World) (hd : DnAt w ao d) (hl : AttrsAt w bo l) (hfd : Fits d) (hfl : FitsA l) (hn : nm.size ≤ maxLen) (hv : val.size ≤ maxLen) :
    Calls Tryz.prog 15 #[.agg #[.slice ao d.length ca, .slice bo l.length cb], .string nm, .string val] w (SpecOut w (dropR d l nm val)) := by
  have HD := Lib.hid hd; have HL := Lib.hid hl; have FD := Lib.hid hfd; have FL := Lib.hid hfl; have Hn := Lib.hid hn; have Hv := Lib.hid hv; clear hd hl hfd hfl
  go_enter Tryz.func15, Tryz.ntmps15
  go_wp2_with fail
  refine calls_any' (fun W => Below w.heap.size w W ∧ Two W w.heap.size 26 (.slice ao d.length ca) (.slice bo l.length cb) ∧ Three W (w.heap.size + 1) 30 (.slice none 0 0) (.slice none 0 0) (.int .i64 0)) ⟨more (more (Below.refl _ _) _) _, (twoNew w 26 _ _).alloc _, threeNext w _ 30 _ _ _⟩ ?_
  rintro W ⟨hbW, t0, t1⟩
  refine (l03Long_any nm val W hn hv).mono ?_
  rintro e w1 ⟨rfl, rfl⟩
  have B1 := Lib.hid hbW; have T1 := Lib.hid t0; have U1 := Lib.hid t1
  clear hbW t0 t1
  by_cases hbig : 8000 < nm.size ∨ 8000 < val.size
  · have hq : (decide (8000 < nm.size) || decide (8000 < val.size)) = true := by simpa using hbig
    rw [hq]
    have HO := Lib.hid (dropR_code (d := d) (l := l) (vcode_big (r := rightB d l) hbig) (by decide))
    clear hbig hq
    go_wp2_with fail
    refine (l03Ill_any 2 W).mono ?_
    rintro e w4 ⟨rfl, hb4⟩
    have U4 := Lib.hid (U1.out.below hb4); have B4 := Lib.hid (B1.out.trans (hb4.mono B1.out.size))
    clear hb4
    obtain ⟨⟨k0, k1, k2⟩, f0, f1, f2⟩ := U4.out.cells
    obtain ⟨⟨q0, q1, q2⟩, _⟩ := (((U4.out.set0 (.slice none 0 0)).set1 (.slice none 0 0)).set2 (.int .i64 2)).cells
    unfold failV
    go_wp2_with fail
    refine bodyPost_ret (v := failV 2) (by simp [results, Tryz.results15, go_sem, q0, q1, q2, failV]) rfl ?_
    rw [HO.out]
    exact specOut_fail (below_three B4.out _ _ _)
  · have hn8 : ¬ 8000 < nm.size := fun h => hbig (.inl h)
    have hv8 : ¬ 8000 < val.size := fun h => hbig (.inr h)
    have hq : (decide (8000 < nm.size) || decide (8000 < val.size)) = false := by simp; omega
    rw [hq]
    have HOb : Hid ((rightB d l && nmL nm && valB val) = false → dropR d l nm val = (1, [], [])) := Lib.hid (fun h => dropR_code (vcode_one hn8 hv8 h) (by decide))
    have HOk : Hid ((rightB d l && nmL nm && valB val) = true → vcode (rightB d l) nm val = 0) := Lib.hid (fun h => vcode_ok hn8 hv8 h)
    clear hbig hq
    obtain ⟨⟨p0, p1⟩, _⟩ := T1.out.cells
    go_wp2_with fail
    clear p0 p1
    refine (SpecEntryRight_any ao bo d l ca cb W (HD.out.below B1.out) (HL.out.below B1.out) FD.out FL.out).mono ?_
    rintro e w2 ⟨rfl, hb2⟩
    have B2 := Lib.hid (B1.out.trans (hb2.mono B1.out.size)); have T2 := Lib.hid (T1.out.below hb2); have U2 := Lib.hid (U1.out.below hb2)
    clear hb2 B1 T1 U1
    have HIll : Hid (∀ w3, Below w.heap.size w w3 → Three w3 (w.heap.size + 1) 30 (.slice none 0 0) (.slice none 0 0) (.int .i64 0) → Calls Tryz.prog 54 #[.int .i64 1] w3 fun e w4 => e = .returned (failV 1) ∧ Below w.heap.size w w4 ∧ Three w4 (w.heap.size + 1) 30 (.slice none 0 0) (.slice none 0 0) (.int .i64 0)) :=
      Lib.hid (fun w3 h1 h2 => (l03Ill_any 1 w3).mono fun e w4 ⟨a, b⟩ => ⟨a, h1.trans (b.mono h1.size), h2.below b⟩)
    cases hr : rightB d l
    · have HO := Lib.hid (HOb.out (by rw [hr]; rfl))
      clear HOb HOk
      go_wp2_with fail
      refine (HIll.out w2 B2.out U2.out).mono ?_
      rintro e w4 ⟨rfl, b4, u4⟩
      have U4 := Lib.hid u4; have B4 := Lib.hid b4
      clear b4 u4
      obtain ⟨⟨k0, k1, k2⟩, f0, f1, f2⟩ := U4.out.cells
      obtain ⟨⟨q0, q1, q2⟩, _⟩ := (((U4.out.set0 (.slice none 0 0)).set1 (.slice none 0 0)).set2 (.int .i64 1)).cells
      unfold failV
      go_wp2_with fail
      refine bodyPost_ret (v := failV 1) (by simp [results, Tryz.results15, go_sem, q0, q1, q2, failV]) rfl ?_
      rw [HO.out]
      exact specOut_fail (below_three B4.out _ _ _)
    · go_wp2_with fail
      refine (SpecNameRight_any nm w2 Hn.out).mono ?_
      rintro e w3 ⟨rfl, rfl⟩
      cases hm : nmL nm
      · have HO := Lib.hid (HOb.out (by rw [hr, hm]; rfl))
        clear HOb HOk
        go_wp2_with fail
        refine (HIll.out w2 B2.out U2.out).mono ?_
        rintro e w4 ⟨rfl, b4, u4⟩
        have U4 := Lib.hid u4; have B4 := Lib.hid b4
        clear b4 u4
        obtain ⟨⟨k0, k1, k2⟩, f0, f1, f2⟩ := U4.out.cells
        obtain ⟨⟨q0, q1, q2⟩, _⟩ := (((U4.out.set0 (.slice none 0 0)).set1 (.slice none 0 0)).set2 (.int .i64 1)).cells
        unfold failV
        go_wp2_with fail
        refine bodyPost_ret (v := failV 1) (by simp [results, Tryz.results15, go_sem, q0, q1, q2, failV]) rfl ?_
        rw [HO.out]
        exact specOut_fail (below_three B4.out _ _ _)
      · go_wp2_with fail
        refine (l02Value_any val w2 Hv.out).mono ?_
        rintro e w3 ⟨rfl, hb3⟩
        have B3 := Lib.hid (B2.out.trans (hb3.mono B2.out.size)); have T3 := Lib.hid (T2.out.below hb3); have U3 := Lib.hid (U2.out.below hb3)
        clear hb3 B2 T2 U2
        cases hp : valB val
        · have HO := Lib.hid (HOb.out (by rw [hr, hm, hp]; rfl))
          clear HOb HOk
          go_wp2_with fail
          refine (HIll.out w3 B3.out U3.out).mono ?_
          rintro e w4 ⟨rfl, b4, u4⟩
          have U4 := Lib.hid u4; have B4 := Lib.hid b4
          clear b4 u4
          obtain ⟨⟨k0, k1, k2⟩, f0, f1, f2⟩ := U4.out.cells
          obtain ⟨⟨q0, q1, q2⟩, _⟩ := (((U4.out.set0 (.slice none 0 0)).set1 (.slice none 0 0)).set2 (.int .i64 1)).cells
          unfold failV
          go_wp2_with fail
          refine bodyPost_ret (v := failV 1) (by simp [results, Tryz.results15, go_sem, q0, q1, q2, failV]) rfl ?_
          rw [HO.out]
          exact specOut_fail (below_three B4.out _ _ _)
        · have HC := Lib.hid (HOk.out (by rw [hr, hm, hp]; rfl))
          clear HOb HOk HIll
          obtain ⟨⟨p0, p1⟩, _⟩ := T3.out.cells
          have HAdd := Lib.hid (l03Drop_any ao bo d l ca cb nm val w3 (HD.out.below B3.out) (HL.out.below B3.out) FD.out FL.out (by omega) (by omega) HC.out)
          generalize hre : dropR d l nm val = r at *
          have HRe := Lib.hid hre; clear hre
          obtain ⟨c, D, T⟩ := r
          have hw1 : w.heap.size + 1 < w3.heap.size := U3.out.lt
          go_wp2_with fail
          refine HAdd.out.mono ?_
          rintro e w4 ⟨⟨vo, vc, uo, uc, rfl, x4, y4⟩, hb4⟩
          dsimp only at x4 y4 ⊢
          have U4 := Lib.hid (U3.out.below hb4); have B4 := Lib.hid (B3.out.trans (hb4.mono B3.out.size)); have X4 := Lib.hid x4; have Y4 := Lib.hid y4
          clear hb4 x4 y4 p0 p1
          obtain ⟨⟨k0, k1, k2⟩, f0, f1, f2⟩ := U4.out.cells
          obtain ⟨⟨q0, q1, q2⟩, _⟩ := (((U4.out.set0 (.slice vo D.length vc)).set1 (.slice uo T.length uc)).set2 (.int .i64 c)).cells
          go_wp2_with fail
          refine bodyPost_ret (v := .agg #[.slice vo D.length vc, .slice uo T.length uc, .int .i64 c]) (by simp [results, Tryz.results15, go_sem, q0, q1, q2]) rfl ?_
          exact ⟨⟨vo, vc, uo, uc, rfl, own_mono (own_cellOut (own_cellOut (own_cellOut X4.out hw1) hw1) hw1) B3.out.size, (((Y4.out.cellOut hw1).cellOut hw1).cellOut hw1).mono B3.out.size⟩, below_three B4.out _ _ _⟩
end Go.Proofs.YtjajpdghamecoaaGreat
/- The state of a law that has a result in hand. -/
namespace Go.Proofs.YtjajpdghamecoaaGreat
open Go.RowKit
attribute [local go_sem ↓] Go.wp_at_zero Go.wp_at_succ

theorem EntOwn.ent {w : World} {v : Value} {d : RdnL} {l : List AttrV} {lo : Nat} (h : EntOwn w v d l lo) : EntAt w v d l := by
  obtain ⟨G, g, rfl, _, _, h3, _, h5⟩ := h
  exact ⟨_, _, _, _, rfl, h3, h5.attrs, Nat.le_refl _, Nat.le_refl _⟩
theorem Two.mid' {w w' : World} {g a b : Nat} {T : TypeId} {x y : Value} (h : Two w g T x y) (hm : Mid a b w w') (hx : g < a ∨ b ≤ g) : Two w' g T x y := (hm.2.2.2.2 g h.lt hx).trans h
theorem Three.mid {w w' : World} {g a b : Nat} {T : TypeId} {x y z : Value} (h : Three w g T x y z) (hm : Mid a b w w') (hx : g < a ∨ b ≤ g) : Three w' g T x y z := (hm.2.2.2.2 g h.lt hx).trans h
/-- the law's argument is as it was, what the specification returned is as it was, and the program's result lies in blocks from glo to below ghi, itself in the block ghi -/
structure StG (w a3 : World) (A0 A1 v u : Value) (c : Int) (glo ghi : Nat) (D : RdnL) (T : List AttrV) (W : World) : Prop where
  base : Below w.heap.size w W
  low : Below a3.heap.size a3 W
  arg : Two W w.heap.size 52 A0 A1
  cell : Three W ghi 30 v u (.int .i64 c)
  out : OutIn W glo ghi v u D T
structure StM (w a3 : World) (A0 A1 v u : Value) (c : Int) (glo ghi : Nat) (D : RdnL) (T : List AttrV) (W : World) : Prop where
  base : Below w.heap.size w W
  low : Below a3.heap.size a3 W
  arg : Two W w.heap.size 52 A0 A1
  cell : Three W ghi 30 v u (.int .i64 c)
  out : OutMk W glo ghi v u D T
section
variable {w a3 W W' : World} {A0 A1 v u : Value} {c : Int} {glo ghi : Nat} {D : RdnL} {T : List AttrV}
theorem StG.below (h : StG w a3 A0 A1 v u c glo ghi D T W) (hb : Below W.heap.size W W') : StG w a3 A0 A1 v u c glo ghi D T W' := ⟨h.base.trans (hb.mono h.base.size), h.low.trans (hb.mono h.low.size), h.arg.below hb, h.cell.below hb, h.out.below hb⟩
theorem StM.below (h : StM w a3 A0 A1 v u c glo ghi D T W) (hb : Below W.heap.size W W') : StM w a3 A0 A1 v u c glo ghi D T W' := ⟨h.base.trans (hb.mono h.base.size), h.low.trans (hb.mono h.low.size), h.arg.below hb, h.cell.below hb, h.out.below hb⟩
theorem StG.gcells (h : StG w a3 A0 A1 v u c glo ghi D T W) : (W.cell? ⟨ghi, 0, none⟩ = some v ∧ W.cell? ⟨ghi, 1, none⟩ = some u ∧ W.cell? ⟨ghi, 2, none⟩ = some (.int .i64 c)) ∧ (W.frozen? ⟨ghi, 0, none⟩ = false ∧ W.frozen? ⟨ghi, 1, none⟩ = false ∧ W.frozen? ⟨ghi, 2, none⟩ = false) := h.cell.cells
theorem StM.gcells (h : StM w a3 A0 A1 v u c glo ghi D T W) : (W.cell? ⟨ghi, 0, none⟩ = some v ∧ W.cell? ⟨ghi, 1, none⟩ = some u ∧ W.cell? ⟨ghi, 2, none⟩ = some (.int .i64 c)) ∧ (W.frozen? ⟨ghi, 0, none⟩ = false ∧ W.frozen? ⟨ghi, 1, none⟩ = false ∧ W.frozen? ⟨ghi, 2, none⟩ = false) := h.cell.cells
theorem StG.gl (h : StG w a3 A0 A1 v u c glo ghi D T W) : ghi < W.heap.size := h.cell.lt
theorem StG.dn {vo : Option Addr} {n vc : Nat} (h : StG w a3 A0 A1 (.slice vo n vc) u c glo ghi D T W) : DnAt W vo D := own_dn h.out.1.1
theorem StG.attrs {uo : Option Addr} {n uc : Nat} (h : StG w a3 A0 A1 v (.slice uo n uc) c glo ghi D T W) : AttrsAt W uo T := h.out.2.attrs
theorem StG.mid {hi : Nat} (h : StG w a3 A0 A1 v u c glo ghi D T W) (hm : Mid a3.heap.size hi W W') (h1 : w.heap.size < a3.heap.size) (h2 : w.heap.size ≤ a3.heap.size) (h3 : hi ≤ glo) (h4 : glo ≤ ghi) : StG w a3 A0 A1 v u c glo ghi D T W' :=
  ⟨hm.below h.base h2, hm.below h.low (Nat.le_refl _), h.arg.mid' hm (.inl h1), h.cell.mid hm (.inr (by omega)), h.out.mid hm (.inr h3)⟩
theorem StG.marked (h : StG w a3 A0 A1 v u c glo ghi D T W) (ho : OutMk W' glo ghi v u D T) (hm : Mid glo ghi W W') (h1 : w.heap.size < glo) (h2 : a3.heap.size ≤ glo) : StM w a3 A0 A1 v u c glo ghi D T W' :=
  ⟨hm.below h.base (Nat.le_of_lt h1), hm.below h.low h2, h.arg.mid' hm (.inl h1), h.cell.mid hm (.inr (Nat.le_refl _)), ho⟩
theorem stG_of {w5 : World} {vo uo : Option Addr} {n m vc uc : Nat} (hb : Below w.heap.size w w5) (hl : Below a3.heap.size a3 w5) (ht : Two w5 w.heap.size 52 A0 A1) (ho : w5.ownsRow glo 97 2 (.slice vo n vc) D.length (rs D)) (ha : AttrsOwn w5 glo (.slice uo m uc) T) (c : Int) :
    StG w a3 A0 A1 (.slice vo n vc) (.slice uo m uc) c glo w5.heap.size D T (w5.alloc (.cells #[.slice vo n vc, .slice uo m uc, .int .i64 c] 30)) := by
  have hal := more (Below.refl w5.heap.size w5) (.cells #[.slice vo n vc, .slice uo m uc, .int .i64 c] 30)
  exact ⟨more hb _, more hl _, ht.alloc _, heap_alloc_new w5 _, (rowIn_of ho).below hal, (attrsMk_of ha _).below hal⟩
end
end Go.Proofs.YtjajpdghamecoaaGreat
/- The law FnExactValueDrop: its walk. -/
namespace Go.Proofs.YtjajpdghamecoaaGreat
open Go.RowKit
attribute [local go_sem ↓] Go.wp_at_zero Go.wp_at_succ

theorem SpecValueDrop_ent (v : Value) (d : RdnL) (l : List AttrV) (nm val : ByteArray) (w : World) (h : EntAt w v d l) (hfd : Fits d) (hfl : FitsA l) (hn : nm.size ≤ maxLen) (hv : val.size ≤ maxLen) : Calls Tryz.prog 15 #[v, .string nm, .string val] w (SpecOut w (dropR d l nm val)) := by
  obtain ⟨ao, ca, bo, cb, rfl, h2, h3, _, _⟩ := h
  exact SpecValueDrop_any ao bo d l ca cb nm val w h2 h3 hfd hfl hn hv
set_option maxRecDepth 100000 in
set_option maxHeartbeats 1000000 in
theorem FnExactValueDrop_walk (ao bo : Option Addr) (d : RdnL) (l : List AttrV) (ca cb : Nat) (nm val : ByteArray) (w : World) (hd : DnAt w ao d) (hl : AttrsAt w bo l) (hfd : Long d) (hfl : LongA l) (hnm : nm.size ≤ maxLen) (hval : val.size ≤ maxLen) :
    Calls Tryz.prog 6 #[.agg #[.slice ao d.length ca, .slice bo l.length cb], .string nm, .string val] w fun e w' => e = .returned (.bool true) ∧ Below w.heap.size w w' := by
  have HD := Lib.hid hd; have HL := Lib.hid hl; have LD := Lib.hid hfd; have LL := Lib.hid hfl; have Hnm := Lib.hid hnm; have Hval := Lib.hid hval; clear hd hl hfd hfl
  unfold maxLen at hnm hval
  by_cases hbig : 1048576 < nm.size
  · have g : 1048576 < (nm.size : Int) := by omega
    go_enter Tryz.func6, Tryz.ntmps6
    go_wp2
    go_ret
    exact ⟨rfl, more (Below.refl _ _) _⟩
  have gn : ¬ 1048576 < (nm.size : Int) := by omega
  by_cases hbigv : 1048576 < val.size
  · have g : 1048576 < (val.size : Int) := by omega
    go_enter Tryz.func6, Tryz.ntmps6
    go_wp2
    go_ret
    exact ⟨rfl, more (Below.refl _ _) _⟩
  have gv : ¬ 1048576 < (val.size : Int) := by omega
  go_enter Tryz.func6, Tryz.ntmps6
  have HB0 : Hid (Below w.heap.size w (w.alloc (.cells #[.slice ao d.length ca, .slice bo l.length cb] 52))) := Lib.hid (more (Below.refl _ _) _)
  have HT0 : Hid (Two (w.alloc (.cells #[.slice ao d.length ca, .slice bo l.length cb] 52)) w.heap.size 52 (.slice ao d.length ca) (.slice bo l.length cb)) := Lib.hid (twoNew w 52 _ _)
  go_wp2_with fail
  refine (szEntry_any ao bo d l ca cb 1048576 _ (HD.out.below HB0.out) (HL.out.below HB0.out) LD.out LL.out (by omega) (by omega)).mono ?_
  rintro e w1 ⟨rfl, b1'⟩
  have b1 := HB0.out.trans (b1'.mono HB0.out.size)
  have T1 := Lib.hid (HT0.out.below b1')
  obtain ⟨⟨p0, p1⟩, _⟩ := T1.out.cells
  clear b1'
  by_cases hfit : ((sizeE d l : Nat) : Int) ≤ 1048576
  · rw [leftR_pos hfit]
    obtain ⟨hfd, hfl⟩ := fitsE (d := d) (l := l) (by omega)
    have FD := Lib.hid hfd; have FL := Lib.hid hfl
    have hdl := hfd.1
    have HSz : Hid (sizeE d l ≤ 1048576) := Lib.hid (by omega)
    have HSm := Lib.hid (dropR_small (d := d) (nm := nm) (val := val) hfl)
    clear hfd hfl
    have h0 : ¬ (1048576 : Int) - ((sizeE d l : Nat) : Int) < 0 := by omega
    generalize ((sizeE d l : Nat) : Int) = t at *
    go_wp2_with fail
    refine (toEntry_any ao bo d l ca cb w1 (HD.out.below b1) (HL.out.below b1) hdl FL.out).mono ?_
    rintro e w2 ⟨v2, rfl, e2, b2⟩
    have B2 := Lib.hid (b1.trans (b2.mono b1.size))
    have T2 := Lib.hid (T1.out.below b2)
    clear b2 b1 T1 p0 p1
    have HAt : Hid (∀ xo cx yo cy Y, DnAt Y xo d → AttrsAt Y yo l → Calls Tryz.prog 11 #[.agg #[.slice xo d.length cx, .slice yo l.length cy], .string nm, .string val] Y (ImplOut Y (dropR d l nm val))) :=
      Lib.hid (fun xo cx yo cy Y h1 h2 => ValueDrop_out xo yo d l cx cy nm val Y h1 h2 FD.out FL.out Hnm.out Hval.out)
    have HSp := Lib.hid (SpecValueDrop_ent v2 d l nm val w2 e2 FD.out FL.out Hnm.out Hval.out)
    clear e2
    generalize dropR d l nm val = r at *
    obtain ⟨c, D, T⟩ := r
    have hD6 : D.length ≤ 6 := HSm.out.1
    have hT8 : cntA T T.length ≤ 800 := HSm.out.2.1
    have FT : Hid (FitsA T) := Lib.hid HSm.out.2.2
    clear HSm
    go_wp2_with fail
    refine HSp.out.mono ?_
    rintro e w3 ⟨⟨vo0, vc0, uo0, uc0, rfl, x3', y3'⟩, b3⟩
    have x3 := own_dn x3'; have y3 := y3'.attrs
    dsimp only at x3 y3 ⊢
    clear x3' y3'
    have B3 := Lib.hid (more (B2.out.trans (b3.mono B2.out.size)) (.cells #[.slice vo0 D.length vc0, .slice uo0 T.length uc0, .int .i64 c] 30))
    have T3 := Lib.hid ((T2.out.below b3).alloc (.cells #[.slice vo0 D.length vc0, .slice uo0 T.length uc0, .int .i64 c] 30))
    have hal := more (Below.refl w3.heap.size w3) (.cells #[.slice vo0 D.length vc0, .slice uo0 T.length uc0, .int .i64 c] 30)
    have S3 : Hid (Three (w3.alloc (.cells #[.slice vo0 D.length vc0, .slice uo0 T.length uc0, .int .i64 c] 30)) w3.heap.size 30 (.slice vo0 D.length vc0) (.slice uo0 T.length uc0) (.int .i64 c) ∧ DnAt (w3.alloc (.cells #[.slice vo0 D.length vc0, .slice uo0 T.length uc0, .int .i64 c] 30)) vo0 D ∧ AttrsAt (w3.alloc (.cells #[.slice vo0 D.length vc0, .slice uo0 T.length uc0, .int .i64 c] 30)) uo0 T) :=
      Lib.hid ⟨heap_alloc_new w3 _, x3.below hal, y3.below hal⟩
    obtain ⟨⟨p0, p1⟩, _⟩ := T3.out.cells
    clear b3 x3 y3 B2 T2 HSp hal
    go_wp2_with fail
    clear p0 p1
    refine calls_any' (fun W => Below w.heap.size w W ∧ Two W w.heap.size 52 (.slice ao d.length ca) (.slice bo l.length cb) ∧ Three W w3.heap.size 30 (.slice vo0 D.length vc0) (.slice uo0 T.length uc0) (.int .i64 c) ∧ DnAt W vo0 D ∧ AttrsAt W uo0 T) ⟨B3.out, T3.out, S3.out⟩ ?_
    clear B3 T3 S3
    rintro a3 ⟨bA, tA, sA⟩
    have S3 := Lib.hid sA
    have hg3 : w3.heap.size < a3.heap.size := sA.1.lt
    generalize w3.heap.size = g3 at *
    refine (toEntry_row ao bo d l ca cb a3 (HD.out.below bA) (HL.out.below bA) hdl FL.out).mono ?_
    rintro e w4 ⟨v4, rfl, e4, b4⟩
    have B4 := Lib.hid (bA.trans (b4.mono bA.size)); have C4 := Lib.hid b4
    have T4 := Lib.hid (tA.below b4)
    have E4 := Lib.hid e4
    have L34 := b4.size
    have hwl : w.heap.size < a3.heap.size := tA.lt
    have hwa : w.heap.size ≤ a3.heap.size := bA.size
    obtain ⟨G, g, hve, _⟩ := e4
    subst hve
    clear b4 bA tA sA
    obtain ⟨_, _, _, _, he1, x5, y5, _⟩ := E4.out.ent
    have X5 : Hid (DnAt w4 (some ⟨G, 0, none⟩) d ∧ AttrsAt w4 (some ⟨g, 0, none⟩) l) := Lib.hid (by
      injection he1 with he1
      simp at he1
      obtain ⟨⟨rfl, rfl⟩, rfl, rfl⟩ := he1
      exact ⟨x5, y5⟩)
    clear he1 x5 y5
    have hB4 : Below w4.heap.size w4 (w4.alloc (.cells #[.slice (some ⟨G, 0, none⟩) d.length d.length, .slice (some ⟨g, 0, none⟩) l.length l.length] 26)) := more (Below.refl _ _) _
    have R5 : Hid (Below w.heap.size w (w4.alloc (.cells #[.slice (some ⟨G, 0, none⟩) d.length d.length, .slice (some ⟨g, 0, none⟩) l.length l.length] 26)) ∧ Below a3.heap.size a3 (w4.alloc (.cells #[.slice (some ⟨G, 0, none⟩) d.length d.length, .slice (some ⟨g, 0, none⟩) l.length l.length] 26)) ∧ Below w4.heap.size w4 (w4.alloc (.cells #[.slice (some ⟨G, 0, none⟩) d.length d.length, .slice (some ⟨g, 0, none⟩) l.length l.length] 26)) ∧ Two (w4.alloc (.cells #[.slice (some ⟨G, 0, none⟩) d.length d.length, .slice (some ⟨g, 0, none⟩) l.length l.length] 26)) w.heap.size 52 (.slice ao d.length ca) (.slice bo l.length cb) ∧ Two (w4.alloc (.cells #[.slice (some ⟨G, 0, none⟩) d.length d.length, .slice (some ⟨g, 0, none⟩) l.length l.length] 26)) w4.heap.size 26 (.slice (some ⟨G, 0, none⟩) d.length d.length) (.slice (some ⟨g, 0, none⟩) l.length l.length)) :=
      Lib.hid ⟨more B4.out _, more C4.out _, hB4, T4.out.alloc _, twoNew w4 26 _ _⟩
    clear hB4
    go_wp2_with fail
    refine calls_any' (fun W => Below w.heap.size w W ∧ Below a3.heap.size a3 W ∧ Below w4.heap.size w4 W ∧ Two W w.heap.size 52 (.slice ao d.length ca) (.slice bo l.length cb) ∧ Two W w4.heap.size 26 (.slice (some ⟨G, 0, none⟩) d.length d.length) (.slice (some ⟨g, 0, none⟩) l.length l.length)) R5.out ?_
    clear R5 B4 T4 C4
    rintro W ⟨hbW, hc3, hb4, t0, t1⟩
    refine (HAt.out (some ⟨G, 0, none⟩) d.length (some ⟨g, 0, none⟩) l.length W (X5.out.1.below hb4) (X5.out.2.below hb4)).mono ?_
    rintro e w5 ⟨⟨vo, vc, uo, uc, rfl, o5, a5⟩, b5⟩
    dsimp only at o5 a5 ⊢
    have hlo : w4.heap.size ≤ W.heap.size := hb4.size
    have hgg : W.heap.size ≤ w5.heap.size := b5.size
    have G5 := Lib.hid (stG_of (hbW.trans (b5.mono hbW.size)) (hc3.trans (b5.mono hc3.size)) (t0.below b5) o5 a5 c)
    have C5 := Lib.hid (more (hb4.trans (b5.mono hb4.size)) (.cells #[.slice vo D.length vc, .slice uo T.length uc, .int .i64 c] 30))
    have U5 := Lib.hid ((t1.below b5).alloc (.cells #[.slice vo D.length vc, .slice uo T.length uc, .int .i64 c] 30))
    generalize W.heap.size = glo at *
    clear hbW hc3 hb4 t0 t1 o5 a5 b5
    obtain ⟨⟨s0, s1, s2⟩, _⟩ := G5.out.gcells
    obtain ⟨⟨r0, r1, r2⟩, _⟩ := (S3.out.1.below G5.out.low).cells
    go_wp2_with fail
    clear s0 s1 s2 r0 r1 r2
    refine calls_any' (fun Y => StG w a3 (.slice ao d.length ca) (.slice bo l.length cb) (.slice vo D.length vc) (.slice uo T.length uc) c glo w5.heap.size D T Y ∧ Below w4.heap.size w4 Y ∧ Two Y w4.heap.size 26 (.slice (some ⟨G, 0, none⟩) d.length d.length) (.slice (some ⟨g, 0, none⟩) l.length l.length)) ⟨G5.out, C5.out, U5.out⟩ ?_
    clear G5 C5 U5
    generalize w5.heap.size = ghi at *
    rintro a5 ⟨gA, cA, uA⟩
    have HEq : Hid (∀ (Y : World) (xo : Option Addr) (cx : Nat) (yo : Option Addr) (cy : Nat), Below a3.heap.size a3 Y → DnAt Y xo D → AttrsAt Y yo T → Calls Tryz.prog 32 #[.agg #[.slice xo D.length cx, .slice yo T.length cy, .int .i64 c], .agg #[.slice vo0 D.length vc0, .slice uo0 T.length uc0, .int .i64 c]] Y fun e w' => e = .returned (.bool true) ∧ Below Y.heap.size Y w') :=
      Lib.hid (fun Y xo cx yo cy h h1 h2 => eqEntryOut_same xo yo vo0 uo0 cx cy vc0 uc0 c D T Y h1 h2 (S3.out.2.1.below h) (S3.out.2.2.below h) (by omega) FT.out)
    refine (HEq.out a5 vo vc uo uc gA.low gA.dn gA.attrs).mono ?_
    rintro e w6 ⟨rfl, b6⟩
    have G6 := Lib.hid (gA.below b6); have C6 := Lib.hid (cA.trans (b6.mono cA.size)); have U6 := Lib.hid (uA.below b6)
    clear b6 gA cA uA
    have SK : Hid (∀ Y : World, Below w6.heap.size w6 Y → (Below w6.heap.size w6 Y ∧ Y.cell? ⟨w.heap.size, 0, none⟩ = some (.slice ao d.length ca) ∧ Y.cell? ⟨w.heap.size, 1, none⟩ = some (.slice bo l.length cb) ∧ Y.cell? ⟨w4.heap.size, 0, none⟩ = some (.slice (some ⟨G, 0, none⟩) d.length d.length) ∧ Y.cell? ⟨w4.heap.size, 1, none⟩ = some (.slice (some ⟨g, 0, none⟩) l.length l.length))) :=
      Lib.hid (fun Y h => ⟨h, (G6.out.arg.below h).cells.1.1, (G6.out.arg.below h).cells.1.2, (U6.out.below h).cells.1.1, (U6.out.below h).cells.1.2⟩)
    have H29 : Hid (∀ Y, Below w6.heap.size w6 Y → Calls Tryz.prog 31 #[.agg #[.slice ao d.length ca, .slice bo l.length cb]] Y fun e w' => (∃ zo cz uo cu, e = .returned (.agg #[.slice zo d.length cz, .slice uo l.length cu]) ∧ DnAt w' zo d ∧ AttrsAt w' uo l) ∧ Below w6.heap.size w6 w') :=
      Lib.hid (fun Y h => (toEntry_any ao bo d l ca cb Y (HD.out.below (G6.out.base.trans (h.mono G6.out.base.size))) (HL.out.below (G6.out.base.trans (h.mono G6.out.base.size))) hdl FL.out).mono fun e w' ⟨v, h1, ⟨zo, cz, uo, cu, h2, h3, h4, _⟩, h5⟩ => ⟨⟨zo, cz, uo, cu, by rw [h1, h2], h3, h4⟩, h.trans (h5.mono h.size)⟩)
    have H31 : Hid (∀ Y zo cz uo cu, Below w6.heap.size w6 Y → DnAt Y zo d → AttrsAt Y uo l → Calls Tryz.prog 33 #[.agg #[.slice (some ⟨G, 0, none⟩) d.length d.length, .slice (some ⟨g, 0, none⟩) l.length l.length], .agg #[.slice zo d.length cz, .slice uo l.length cu]] Y fun e w' => e = .returned (.bool true) ∧ Below w6.heap.size w6 w') :=
      Lib.hid (fun Y zo cz uo cu h h3 h4 => (eqEntry_any (some ⟨G, 0, none⟩) (some ⟨g, 0, none⟩) zo uo d l d.length l.length cz cu Y (X5.out.1.below (C6.out.trans (h.mono C6.out.size))) (X5.out.2.below (C6.out.trans (h.mono C6.out.size))) h3 h4 hdl FL.out).mono fun _ _ g => ⟨g.1, h.trans (g.2.mono h.size)⟩)
    have hb0 : Below w6.heap.size w6 w6 := Below.refl _ _
    have hbd := hb0.drew
    go_wp2_with fail
    go_region_held3 (fun Y => Below w6.heap.size w6 Y ∧ Y.cell? ⟨w.heap.size, 0, none⟩ = some (.slice ao d.length ca) ∧ Y.cell? ⟨w.heap.size, 1, none⟩ = some (.slice bo l.length cb) ∧ Y.cell? ⟨w4.heap.size, 0, none⟩ = some (.slice (some ⟨G, 0, none⟩) d.length d.length) ∧ Y.cell? ⟨w4.heap.size, 1, none⟩ = some (.slice (some ⟨g, 0, none⟩) l.length l.length))
      (exact SK.out _ (by assumption))
      (first
        | (go_at_call 31; refine (H29.out _ (by assumption)).mono ?_; rintro e w7 ⟨⟨zo7, cz7, uo7, cu7, rfl, hz6, hu6⟩, hb7⟩; have Z7 := Lib.hid hz6; have W7 := Lib.hid hu6; clear hz6 hu6)
        | (go_at_call 33; refine (H31.out _ _ _ _ _ (by assumption) ?_ ?_).mono ?_; (focus (first | exact Z7.out | exact Z7.out.below ((Below.refl _ _).drew))); (focus (first | exact W7.out | exact W7.out.below ((Below.refl _ _).drew))); rintro e w8 ⟨rfl, hb8⟩)
        | (fail "none"))
    have G8 := Lib.hid (G6.out.below hb8); have C8 := Lib.hid (C6.out.trans (hb8.mono C6.out.size)); have U8 := Lib.hid (U6.out.below hb8)
    clear SK H29 H31 hb0 hbd hb7 hb8 Z7 W7 G6 C6 U6
    obtain ⟨⟨p0, p1⟩, _⟩ := U8.out.cells
    go_wp2_with fail
    refine (markEntry_any _ d l a3.heap.size w4.heap.size w8 w4 E4.out rfl C8.out HSz.out).mono ?_
    rintro e w9 ⟨⟨n9, hn9, rfl⟩, m9⟩
    have G9 := Lib.hid (G8.out.mid m9 hwl hwa hlo hgg)
    clear m9 p0 p1 G8 C8 U8
    have hp9 : ¬ (n9 : Int) < 0 := by omega
    obtain ⟨⟨s0, s1, s2⟩, _⟩ := G9.out.gcells
    obtain ⟨⟨r0, r1, r2⟩, _⟩ := (S3.out.1.below G9.out.low).cells
    go_wp2_with fail
    clear s0 s1 s2 r0 r1 r2
    refine (HEq.out w9 vo vc uo uc G9.out.low G9.out.dn G9.out.attrs).mono ?_
    rintro e w10 ⟨rfl, b10⟩
    have G10 := Lib.hid (G9.out.below b10)
    clear b10 G9
    obtain ⟨⟨s0, s1, s2⟩, _⟩ := G10.out.gcells
    go_wp2_with fail
    clear s0 s1 s2
    refine (markEntryOut_own vo uo vc uc c D T glo ghi w10 G10.out.out (by omega) hT8 (Nat.le_of_lt G10.out.gl)).mono ?_
    rintro e w11 ⟨rfl, o11, m11⟩
    have G11 := Lib.hid (G10.out.marked o11 m11 (by omega) (by omega))
    clear o11 m11 G10
    have HH : Hid (∀ Y, StM w a3 (.slice ao d.length ca) (.slice bo l.length cb) (.slice vo D.length vc) (.slice uo T.length uc) c glo ghi D T Y → Calls Tryz.prog 36 #[.agg #[.slice vo D.length vc, .slice uo T.length uc, .int .i64 c], .int .i64 1] Y fun e w' => e = .returned (.int .i64 (cntE D T : Int)) ∧ Below Y.heap.size Y w') :=
      Lib.hid (fun Y h => heldEntryOut_own vo uo vc uc c D T glo ghi Y h.out (by omega) hT8)
    have hq1 : ¬ (cntE D T : Int) < 0 := by omega
    generalize (cntE D T : Int) = Q at *
    have hq2 : (Q != Q) = false := by simp
    obtain ⟨⟨s0, s1, s2⟩, _⟩ := G11.out.gcells
    go_wp2_with fail
    clear s0 s1 s2
    refine (HH.out w11 G11.out).mono ?_
    rintro e w12 ⟨rfl, b12⟩
    have G12 := Lib.hid (G11.out.below b12)
    clear b12 G11
    obtain ⟨⟨p0, p1⟩, _⟩ := G12.out.arg.cells
    go_wp2_with fail
    clear p0 p1
    refine (toEntry_any ao bo d l ca cb w12 (HD.out.below G12.out.base) (HL.out.below G12.out.base) hdl FL.out).mono ?_
    rintro e w13 ⟨v13, rfl, ⟨xo, cx, yo, cy, rfl, x13, y13, _, _⟩, b13⟩
    have G13 := Lib.hid (G12.out.below b13)
    have X13 := Lib.hid x13; have Y13 := Lib.hid y13
    clear b13 G12 x13 y13
    go_wp2_with fail
    refine (HAt.out xo cx yo cy w13 X13.out Y13.out).mono ?_
    rintro e w14 ⟨⟨ho, hc, io, ic, rfl, o14, a14⟩, b14⟩
    dsimp only at o14 a14 ⊢
    have hal := more (Below.refl w14.heap.size w14) (.cells #[.slice ho D.length hc, .slice io T.length ic, .int .i64 c] 30)
    have G14 := Lib.hid ((G13.out.below b14).below hal)
    have O14 := Lib.hid ((own_dn o14).below hal); have A14 := Lib.hid ((attrsMk_of a14 1).attrs.below hal)
    have V14 : Hid (Three (w14.alloc (.cells #[.slice ho D.length hc, .slice io T.length ic, .int .i64 c] 30)) w14.heap.size 30 (.slice ho D.length hc) (.slice io T.length ic) (.int .i64 c)) := Lib.hid (heap_alloc_new w14 _)
    clear b14 hal G13 X13 Y13 o14 a14
    obtain ⟨⟨s0, s1, s2⟩, _⟩ := V14.out.cells
    obtain ⟨⟨r0, r1, r2⟩, _⟩ := (S3.out.1.below G14.out.low).cells
    go_wp2_with fail
    clear s0 s1 s2 r0 r1 r2
    refine (HEq.out _ ho hc io ic G14.out.low O14.out A14.out).mono ?_
    rintro e w15 ⟨rfl, b15⟩
    have G15 := Lib.hid (G14.out.below b15)
    clear b15 G14 O14 A14 V14
    obtain ⟨⟨s0, s1, s2⟩, _⟩ := G15.out.gcells
    go_wp2_with fail
    clear s0 s1 s2
    refine (HH.out w15 G15.out).mono ?_
    rintro e w16 ⟨rfl, b16⟩
    have G16 := Lib.hid (G15.out.below b16)
    clear b16 G15
    go_wp2
    go_ret
    exact ⟨rfl, G16.out.base⟩
  · rw [leftR_neg hfit]
    clear hfit
    go_wp2
    go_ret
    exact ⟨rfl, b1⟩
end Go.Proofs.YtjajpdghamecoaaGreat
