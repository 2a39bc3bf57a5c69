/- Reading names: l02Read and DnRead. -/
import Derived.Test.YtjajpdghamecoaaRead
namespace Go.Proofs.Ytjajpdghamecoaa
open Go.RowKit
attribute [local go_sem ↓] Go.wp_at_zero Go.wp_at_succ

/-- the text of the name read is the text -/
def okB (s : ByteArray) : Bool := (dnTextS (specD s.data.toList)).toList == s.toList
def ReadS (w : World) (s : ByteArray) (e : Ending) (w' : World) : Prop :=
  (∃ v, e = .returned (.tuple #[v, .bool (okB s)]) ∧ w'.ownsRow w.heap.size 61 2 v (specD s.data.toList).length (rs (specD s.data.toList))) ∧ Below w.heap.size w w'
theorem spec_succ (s : ByteArray) (k : Nat) (h : k < (cutF [] s.data.toList).length) : (specD s.data.toList).take (k + 1) = (specD s.data.toList).take k ++ [rdn2 (cutF [] s.data.toList)[k]] := by
  rw [List.take_succ_eq_append_getElem (by unfold specD; simpa using h)]
  unfold specD
  rw [List.getElem_map]
set_option maxRecDepth 100000 in
set_option maxHeartbeats 2000000 in
theorem l02Read_some (s : ByteArray) (w : World) (hs : s.size ≤ 8000) (h0 : 0 < s.size) :
    Calls Try.prog 56 #[.string s] w fun e w' => ReadS w s e w' := by
  have hcn := cutF_count _ [] s.data.toList (Nat.le_refl _)
  rw [size_len] at hcn
  have hemp : s.toList.isEmpty = false := by
    rw [Lib.toList_data, List.isEmpty_eq_false_iff]
    intro h; have := size_len s; rw [h] at this; simp at this; omega
  have HF := Lib.hid (spec_fits s hs)
  go_enter Try.func56, Try.ntmps56
  go_wp2_with fail
  refine (l02Cut_any s _ hs).mono ?_
  rintro e w2 ⟨⟨l, rfl, hl⟩, hb2⟩
  obtain ⟨lo, lc, rfl⟩ := own_slice hl
  have hlen : (tss (cutF [] s.data.toList)).length = (cutF [] s.data.toList).length := tss_len _
  rw [hlen] at hl ⊢
  have HL := Lib.hid (own_mono (B' := w.heap.size) hl (by simp))
  have B2 := Lib.hid ((more (Below.refl w.heap.size w) (.cells #[] 61)).trans (hb2.mono (by simp)))
  have HO : Hid (w2.ownsRow w.heap.size 61 2 (.slice (some ⟨w.heap.size, 0, none⟩) 0 0) 0 (rs [])) := Lib.hid (own_below (World.ownsRow_made _ _ 0 (Nat.le_refl _) (by unfold maxLen; omega) rfl) hb2)
  clear hl hb2 hlen
  generalize hn : (cutF [] s.data.toList).length = n at *
  have Hn := Lib.hid hn; clear hn
  go_wp2_with fail
  go_loopw [4, 6] (fun v i wr => ∃ k : Nat, k ≤ n ∧ i = .int .i64 k ∧ wr.ownsRow w.heap.size 61 2 v ((specD s.data.toList).take k).length (rs ((specD s.data.toList).take k)) ∧ wr.ownsRow w.heap.size 9 1 (.slice lo n lc) n (ss (tss (cutF [] s.data.toList))) ∧ Below w.heap.size w wr) (fun _ i _ => n - (intOf i).toNat)
  case atStart => exact ⟨0, Nat.zero_le _, rfl, by rw [List.take_zero]; exact HO.out, HL.out, B2.out⟩
  case round =>
    clear HO HL B2
    obtain ⟨k, hk, rfl, hown, hl, hbel⟩ := hrel
    have hpl : ((specD s.data.toList).take k).length ≤ 8001 := by rw [List.length_take]; omega
    have hsz := hbel.size
    have HO := Lib.hid hown
    have HL := Lib.hid hl
    by_cases hlt : k < n
    · have hkl : k < (cutF [] s.data.toList).length := by have := Hn.out; omega
      have HN := Lib.hid (spec_succ s k hkl)
      obtain ⟨g, cp, hv, _, hg⟩ := hl.form (by omega)
      have e : lo = some ⟨g, 0, none⟩ := by injection hv
      subst e
      have hcell : wr.cell? ⟨g, k, none⟩ = some (.string (toS (cutF [] s.data.toList)[k])) := by
        have := hl.cells (g := g) rfl k (.string (toS (cutF [] s.data.toList)[k])) (by
          unfold ss tss; rw [List.getElem?_map, List.getElem?_map, List.getElem?_eq_getElem hkl]; rfl)
        rwa [add_plain] at this
      have hxs : (toS (cutF [] s.data.toList)[k]).size ≤ 8000 := by
        have := cutF_part _ [] s.data.toList (Nat.le_refl _) _ (List.getElem_mem hkl)
        rw [size_len] at this
        rw [toS_size]; simp only [List.length_nil] at this; omega
      have HR := Lib.hid (fun w => l02Rdn_any (toS (cutF [] s.data.toList)[k]) w hxs)
      rw [toS_list] at HR
      have HD : Hid (rdn2 (cutF [] s.data.toList)[k] = ((rdn2 (cutF [] s.data.toList)[k]).1, (rdn2 (cutF [] s.data.toList)[k]).2)) := Lib.hid rfl
      clear hown hl hv
      generalize rdn2 (cutF [] s.data.toList)[k] = r at *
      generalize toS (cutF [] s.data.toList)[k] = x at *
      generalize r.1 = A at *
      generalize r.2 = V at *
      generalize (specD s.data.toList).take k = pre at *
      go_wp2_with fail
      refine (HR.out _).mono ?_
      rintro e w3 ⟨rfl, hb3⟩
      have HO3 := Lib.hid (own_below HO.out hb3)
      have HL3 := Lib.hid (own_below HL.out hb3)
      have B3 := Lib.hid (hbel.trans (hb3.mono hsz))
      have HA := Lib.hid (own_apart HO3.out HL3.out (by decide))
      clear hb3 hcell
      go_wp2_with (first | (at_builtin; refine append_rdn2 w.heap.size rfl _ _ rfl _ pre rfl HO3.out A V rfl (by omega) B3.out.size B3.out ?_; intro v' w4 hown4 hbel4 hg4; have HO4 := Lib.hid hown4; have HL4 := Lib.hid ((HL3.out.alloc _).kept hg4 HA.out); clear hown4 hg4) | (fail "none"))
      go_roundw
      case rel => exact ⟨k + 1, by omega, by go_num, by rw [HN.out, HD.out]; exact HO4.out, HL4.out, hbel4⟩
      case measure => simp [intOf]; omega
    · have e : (specD s.data.toList).take k = specD s.data.toList := List.take_of_length_le (by unfold specD; rw [List.length_map, Hn.out]; omega)
      rw [e] at HO hown
      have HF2 : Hid (Fits (specD s.data.toList)) := Lib.hid (by have := HF.out k; rw [e] at this; exact this)
      have HOK : Hid (okB s = ((dnTextS (specD s.data.toList)).toList == s.toList)) := Lib.hid rfl
      obtain ⟨ao, ac, rfl⟩ := own_slice hown
      have HDN := Lib.hid (own_dn hown)
      clear e hpl hown hl
      generalize hD : specD s.data.toList = D at *
      have HDs := Lib.hid hD; clear hD
      go_wp2_with fail
      refine (SpecDnText_any _ _ _ _ HDN.out HF2.out).mono ?_
      rintro e w3 ⟨rfl, hb3⟩
      have HO3 := Lib.hid (own_below HO.out hb3)
      have B3 := Lib.hid (hbel.trans (hb3.mono hsz))
      clear hb3
      go_wp2
      go_ret2
      exact ⟨⟨.slice ao D.length ac, by rw [HOK.out]; rfl, by rw [HDs.out]; exact HO3.out⟩, B3.out⟩
end Go.Proofs.Ytjajpdghamecoaa
