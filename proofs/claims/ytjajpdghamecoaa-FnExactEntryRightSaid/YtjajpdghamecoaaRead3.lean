/- DnRead: what the texts of the program and of the specification return. -/
import Derived.Test.YtjajpdghamecoaaRead2
namespace Go.Proofs.Ytjajpdghamecoaa
open Go.RowKit
attribute [local go_sem ↓] Go.wp_at_zero Go.wp_at_succ

def goodB (s : ByteArray) : Bool := dnB (scanL s.data.toList) && ((textS (scanL s.data.toList)).toList == s.toList)
def readC (s : ByteArray) : Int := if 8000 < s.size then 2 else if goodB s = true then 0 else 3
def readD (s : ByteArray) : RdnL := if readC s = 0 then scanL s.data.toList else []
theorem read_long {s : ByteArray} (h : 8000 < s.size) : readC s = 2 ∧ readD s = [] := by unfold readD readC; rw [if_pos h]; exact ⟨rfl, rfl⟩
theorem read_bad {s : ByteArray} (h : ¬ 8000 < s.size) (hg : goodB s = false) : readC s = 3 ∧ readD s = [] := by unfold readD readC; rw [if_neg h, hg]; exact ⟨rfl, rfl⟩
theorem read_good {s : ByteArray} (h : ¬ 8000 < s.size) (hg : goodB s = true) : readC s = 0 ∧ readD s = scanL s.data.toList := by unfold readD readC; rw [if_neg h, hg]; exact ⟨rfl, rfl⟩
theorem text_eq {d : RdnL} {s : ByteArray} (h : ((textS d).toList == s.toList) = true) : textL d = s.data.toList := by
  rw [Lib.toList_data, Lib.toList_data] at h
  simpa [textS] using h
theorem good_empty {s : ByteArray} (h : s.size = 0) : goodB s = true ∧ scanL s.data.toList = [] := by
  have e : s.data.toList = [] := List.eq_nil_of_length_eq_zero (by rw [size_len]; exact h)
  unfold goodB
  rw [Lib.toList_data, Lib.toList_data, e]
  exact ⟨by decide, rfl⟩
theorem ok_good {s : ByteArray} (h : okB s = true) (h0 : 0 < s.size) : goodB s = true ∧ specD s.data.toList = scanL s.data.toList := by
  unfold okB at h
  cases hd : dnB (specD s.data.toList)
  · rw [dnText_no hd, Lib.toList_data, Lib.toList_data] at h
    exfalso
    have e : s.data.toList = [] := by simpa using h
    have := size_len s; rw [e] at this; simp at this; omega
  · rw [dnText_yes hd] at h
    have e := text_eq h
    have e2 : scanL s.data.toList = specD s.data.toList := by
      have := scan_text _ (dnB_all_of hd)
      rw [e] at this; exact this
    refine ⟨?_, e2.symm⟩
    unfold goodB
    rw [e2, hd, h]; rfl
theorem good_ok {s : ByteArray} (h : goodB s = true) (h0 : 0 < s.size) : okB s = true := by
  unfold goodB at h
  rw [Bool.and_eq_true] at h
  obtain ⟨h1, h2⟩ := h
  have e := text_eq h2
  have hne : scanL s.data.toList ≠ [] := by
    intro hh; rw [hh] at e
    have := size_len s; rw [← e] at this; simp [textL, Lib.join_nil] at this; omega
  have e2 : specD s.data.toList = scanL s.data.toList := by
    have := cut_text _ (dnB_all_of h1) hne
    rw [e] at this; exact this
  unfold okB
  rw [e2, dnText_yes h1]; exact h2
theorem ok_iff {s : ByteArray} (h0 : 0 < s.size) : okB s = goodB s := by
  cases h : goodB s
  · cases h' : okB s
    · rfl
    · rw [(ok_good h' h0).1] at h; exact h
  · exact good_ok h h0

set_option maxRecDepth 100000 in
set_option maxHeartbeats 1000000 in
theorem DnRead_any (s : ByteArray) (w : World) (hm : s.size ≤ maxLen) :
    Calls Try.prog 16 #[.string s] w fun e w' => GivesOut w (readD s) (readC s) e w' := by
  unfold maxLen at hm
  have B0 := Lib.hid (more (Below.refl w.heap.size w) (.cells #[.slice none 0 0, .int .i64 0] 29))
  by_cases h8 : 8000 < s.size
  · rw [(read_long h8).1, (read_long h8).2]
    go_enter Try.func16, Try.ntmps16
    go_wp2
    refine bodyPost_ret (v := .agg #[.slice none 0 0, .int .i64 2]) (by simp [results, Try.results16, go_sem]) rfl ⟨⟨_, rfl, own_nil _ _⟩, ?_⟩
    exact (Below.refl _ _).alloc (Nat.le_refl _) _
  · have HF := Lib.hid (scan_fits s (by omega))
    have HG : Hid (goodB s = (dnB (scanL s.data.toList) && ((textS (scanL s.data.toList)).toList == s.toList))) := Lib.hid rfl
    have HB := Lib.hid (fun h => read_bad (s := s) h8 h)
    have HGd := Lib.hid (fun h => read_good (s := s) h8 h)
    go_enter Try.func16, Try.ntmps16
    go_wp2_with fail
    refine (scanDn_any s _ (by omega)).mono ?_
    rintro e w1 ⟨⟨v, rfl, hown⟩, hb1⟩
    have HO := Lib.hid hown
    obtain ⟨ao, ac, rfl⟩ := own_slice hown
    have HDN := Lib.hid (own_dn hown)
    have B1 := Lib.hid (B0.out.trans (hb1.mono B0.out.size))
    have T1 := Lib.hid hb1
    clear hown hb1
    generalize scanL s.data.toList = D at *
    cases hd : dnB D
    · have HE := Lib.hid (HB.out (by rw [HG.out, hd]; rfl))
      go_wp2_with fail
      refine (DnRight_any _ _ _ _ HDN.out HF.out).mono ?_
      rintro e w2 ⟨rfl, hb2⟩
      rw [hd]
      have B2 := Lib.hid (B1.out.trans (hb2.mono B1.out.size))
      have T2 := Lib.hid (T1.out.trans (hb2.mono T1.out.size))
      clear hb2
      obtain ⟨⟨c0, c1⟩, f0, f1⟩ := two_new (by have := T2.out; simpa using this)
      go_wp2
      refine bodyPost_ret (v := .agg #[.slice none 0 0, .int .i64 3]) (by simp [results, Try.results16, go_sem, c0, c1]) rfl ?_
      show GivesOut w (readD s) (readC s) _ _
      rw [HE.out.1, HE.out.2]
      refine ⟨⟨_, rfl, own_nil _ _⟩, ?_⟩
      exact (B2.out.setCell (Nat.le_refl _) _).setCell (Nat.le_refl _) _
    · have HT := Lib.hid (fun w h => DnText_any ao D ac w h HF.out)
      rw [dnText_yes hd] at HT
      cases ht : ((textS D).toList == s.toList)
      · have HE := Lib.hid (HB.out (by rw [HG.out, hd, ht]; rfl))
        have ht' : ((textS D).toList != s.toList) = true := by simp [bne, ht]
        go_wp2_with fail
        refine (DnRight_any _ _ _ _ HDN.out HF.out).mono ?_
        rintro e w2 ⟨rfl, hb2⟩
        rw [hd]
        have B2 := Lib.hid (B1.out.trans (hb2.mono B1.out.size))
        have T2 := Lib.hid (T1.out.trans (hb2.mono T1.out.size))
        have D2 := Lib.hid (HDN.out.below hb2)
        clear hb2
        go_wp2_with fail
        refine (HT.out _ D2.out).mono ?_
        rintro e w3 ⟨rfl, hb3⟩
        have B3 := Lib.hid (B2.out.trans (hb3.mono B2.out.size))
        have T3 := Lib.hid (T2.out.trans (hb3.mono T2.out.size))
        clear hb3
        obtain ⟨⟨c0, c1⟩, f0, f1⟩ := two_new (by have := T3.out; simpa using this)
        go_wp2
        refine bodyPost_ret (v := .agg #[.slice none 0 0, .int .i64 3]) (by simp [results, Try.results16, go_sem, c0, c1]) rfl ?_
        show GivesOut w (readD s) (readC s) _ _
        rw [HE.out.1, HE.out.2]
        refine ⟨⟨_, rfl, own_nil _ _⟩, ?_⟩
        exact (B3.out.setCell (Nat.le_refl _) _).setCell (Nat.le_refl _) _
      · have HE := Lib.hid (HGd.out (by rw [HG.out, hd, ht]; rfl))
        have ht' : ((textS D).toList != s.toList) = false := by simp [bne, ht]
        go_wp2_with fail
        refine (DnRight_any _ _ _ _ HDN.out HF.out).mono ?_
        rintro e w2 ⟨rfl, hb2⟩
        rw [hd]
        have B2 := Lib.hid (B1.out.trans (hb2.mono B1.out.size))
        have T2 := Lib.hid (T1.out.trans (hb2.mono T1.out.size))
        have D2 := Lib.hid (HDN.out.below hb2)
        have O2 := Lib.hid (own_below HO.out hb2)
        clear hb2
        go_wp2_with fail
        refine (HT.out _ D2.out).mono ?_
        rintro e w3 ⟨rfl, hb3⟩
        have B3 := Lib.hid (B2.out.trans (hb3.mono B2.out.size))
        have T3 := Lib.hid (T2.out.trans (hb3.mono T2.out.size))
        have O3 := Lib.hid (own_below O2.out hb3)
        clear hb3
        obtain ⟨⟨c0, c1⟩, f0, f1⟩ := two_new (by have := T3.out; simpa using this)
        go_wp2
        refine bodyPost_ret (v := .agg #[.slice ao D.length ac, .int .i64 0]) (by simp [results, Try.results16, go_sem, c0, c1]) rfl ?_
        show GivesOut w (readD s) (readC s) _ _
        rw [HE.out.1, HE.out.2]
        refine ⟨⟨_, rfl, ?_⟩, ?_⟩
        · exact own_mono (own_set (own_set O3.out (by simp)) (by simp)) (by simp)
        · exact (B3.out.setCell (Nat.le_refl _) _).setCell (Nat.le_refl _) _
set_option maxRecDepth 100000 in
set_option maxHeartbeats 1000000 in
theorem l02Read_none (s : ByteArray) (w : World) (h0 : s.size = 0) :
    Calls Try.prog 56 #[.string s] w fun e w' => (∃ v, e = .returned (.tuple #[v, .bool true]) ∧ w'.ownsRow w.heap.size 61 2 v 0 (rs [])) ∧ Below w.heap.size w w' := by
  have hemp : s.toList.isEmpty = true := by
    rw [Lib.toList_data, List.isEmpty_iff]
    exact List.eq_nil_of_length_eq_zero (by rw [size_len]; exact h0)
  have H0 := Lib.hid h0; clear h0
  go_enter Try.func56, Try.ntmps56
  go_wp2
  go_ret2
  exact ⟨⟨_, rfl, World.ownsRow_made _ _ 0 (Nat.le_refl _) (by unfold maxLen; omega) rfl⟩, (Below.refl _ _).alloc (Nat.le_refl _) _⟩
set_option maxRecDepth 100000 in
set_option maxHeartbeats 1000000 in
theorem SpecDnRead_any (s : ByteArray) (w : World) (hm : s.size ≤ maxLen) :
    Calls Try.prog 18 #[.string s] w fun e w' => GivesOut w (readD s) (readC s) e w' := by
  unfold maxLen at hm
  have B0 := Lib.hid (more (Below.refl w.heap.size w) (.cells #[.slice none 0 0, .int .i64 0] 29))
  by_cases h8 : 8000 < s.size
  · rw [(read_long h8).1, (read_long h8).2]
    go_enter Try.func18, Try.ntmps18
    go_wp2
    refine bodyPost_ret (v := .agg #[.slice none 0 0, .int .i64 2]) (by simp [results, Try.results18, go_sem]) rfl ⟨⟨_, rfl, own_nil _ _⟩, ?_⟩
    exact (Below.refl _ _).alloc (Nat.le_refl _) _
  · by_cases h0 : s.size = 0
    · obtain ⟨hg, hsc⟩ := good_empty h0
      obtain ⟨e1, e2⟩ := read_good h8 hg
      rw [e1, e2, hsc]
      have H0 := Lib.hid h0
      clear hg hsc e1 e2 h0
      go_enter Try.func18, Try.ntmps18
      go_wp2_with fail
      refine (l02Read_none s _ H0.out).mono ?_
      rintro e w1 ⟨⟨v, rfl, hown⟩, hb1⟩
      have HO := Lib.hid hown
      obtain ⟨ao, ac, rfl⟩ := own_slice hown
      have B1 := Lib.hid (B0.out.trans (hb1.mono B0.out.size))
      obtain ⟨⟨c0, c1⟩, f0, f1⟩ := two_new (by simpa using hb1)
      clear hown hb1
      go_wp2
      refine bodyPost_ret (v := .agg #[.slice ao 0 ac, .int .i64 0]) (by simp [results, Try.results18, go_sem, c0, c1]) rfl ⟨⟨_, rfl, ?_⟩, ?_⟩
      · exact own_mono (own_set (own_set HO.out (by simp)) (by simp)) (by simp)
      · exact (B1.out.setCell (Nat.le_refl _) _).setCell (Nat.le_refl _) _
    · cases hg : okB s
      · obtain ⟨e1, e2⟩ := read_bad h8 (by rw [← ok_iff (by omega)]; exact hg)
        rw [e1, e2]
        clear e1 e2
        go_enter Try.func18, Try.ntmps18
        go_wp2_with fail
        refine (l02Read_some s _ (by omega) (by omega)).mono ?_
        rintro e w1 ⟨⟨v, rfl, hown⟩, hb1⟩
        rw [hg]
        obtain ⟨ao, ac, rfl⟩ := own_slice hown
        have B1 := Lib.hid (B0.out.trans (hb1.mono B0.out.size))
        obtain ⟨⟨c0, c1⟩, f0, f1⟩ := two_new (by simpa using hb1)
        clear hown hb1
        go_wp2
        refine bodyPost_ret (v := .agg #[.slice none 0 0, .int .i64 3]) (by simp [results, Try.results18, go_sem, c0, c1]) rfl ⟨⟨_, rfl, own_nil _ _⟩, ?_⟩
        exact (B1.out.setCell (Nat.le_refl _) _).setCell (Nat.le_refl _) _
      · obtain ⟨hgd, hsp⟩ := ok_good hg (by omega)
        obtain ⟨e1, e2⟩ := read_good h8 hgd
        rw [e1, e2, ← hsp]
        clear e1 e2 hgd hsp
        go_enter Try.func18, Try.ntmps18
        go_wp2_with fail
        refine (l02Read_some s _ (by omega) (by omega)).mono ?_
        rintro e w1 ⟨⟨v, rfl, hown⟩, hb1⟩
        rw [hg]
        have HO := Lib.hid hown
        obtain ⟨ao, ac, rfl⟩ := own_slice hown
        have B1 := Lib.hid (B0.out.trans (hb1.mono B0.out.size))
        obtain ⟨⟨c0, c1⟩, f0, f1⟩ := two_new (by simpa using hb1)
        clear hown hb1
        generalize hD : specD s.data.toList = D at *
        have HDs := Lib.hid hD; clear hD
        go_wp2
        refine bodyPost_ret (v := .agg #[.slice ao D.length ac, .int .i64 0]) (by simp [results, Try.results18, go_sem, c0, c1]) rfl ⟨⟨_, rfl, ?_⟩, ?_⟩
        · rw [HDs.out]; exact own_mono (own_set (own_set HO.out (by simp)) (by simp)) (by simp)
        · exact (B1.out.setCell (Nat.le_refl _) _).setCell (Nat.le_refl _) _
end Go.Proofs.Ytjajpdghamecoaa
