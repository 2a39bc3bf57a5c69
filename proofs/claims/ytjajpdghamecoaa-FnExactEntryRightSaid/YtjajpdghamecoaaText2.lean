/- DnText: what the specification's text returns. -/
import Derived.Test.YtjajpdghamecoaaText
namespace Go.Proofs.Ytjajpdghamecoaa
open Go.RowKit
attribute [local go_sem ↓] Go.wp_at_zero Go.wp_at_succ

/-- the text of the first k pairs -/
def textTo (d : RdnL) (k : Nat) : ByteArray := textS (d.take k)
theorem join_snoc (l : List (List UInt8)) (x sep : List UInt8) (h : l ≠ []) : Lib.join (l ++ [x]) sep = Lib.join l sep ++ sep ++ x := by
  rcases l with _ | ⟨y, l⟩
  · exact absurd rfl h
  · rw [List.cons_append, Lib.join_cons, Lib.join_cons]
    simp [Lib.joinTail, List.append_assoc]
theorem textTo_one (d : RdnL) (h : 0 < d.length) : textTo d 1 = rdnS d[0] := by
  unfold textTo textS textL
  rw [List.take_succ_eq_append_getElem h, List.take_zero, List.nil_append, List.map_singleton, Lib.join_one]
theorem textTo_succ (d : RdnL) (k : Nat) (h : k < d.length) (h0 : 0 < k) : textTo d (k + 1) = textTo d k ++ ⟨#[44]⟩ ++ rdnS d[k] := by
  unfold textTo textS textL
  rw [List.take_succ_eq_append_getElem h, List.map_append, List.map_singleton, join_snoc _ _ _ (by
    intro e
    have := congrArg List.length e
    rw [List.length_map, List.length_take, List.length_nil] at this; omega)]
  apply ByteArray.ext
  simp
theorem textTo_size (d : RdnL) (k : Nat) (h : Fits d) (h6 : d.length ≤ 6) : (textTo d k).size ≤ 30000000 := by
  have h1 := text_len (d.take k) ⟨by have := h.1; simp; omega, fun r hr => h.2 r (List.mem_of_mem_take hr)⟩
  have h2 : (d.take k).length ≤ 6 := by rw [List.length_take]; omega
  have h3 : (textTo d k).size = (textL (d.take k)).length := rfl
  rw [h3]
  omega
theorem cat_assoc (a b c : ByteArray) : a ++ b ++ c = a ++ (b ++ c) := by apply ByteArray.ext; simp

set_option maxRecDepth 100000 in
set_option maxHeartbeats 1000000 in
theorem l02Text_any (ao : Option Addr) (d : RdnL) (cap : Nat) (w : World) (hd : DnAt w ao d) (hf : Fits d) (h6 : d.length ≤ 6) :
    Calls Try.prog 48 #[.slice ao d.length cap] w fun e w' => e = .returned (.string (textS d)) ∧ Below w.heap.size w w' := by
  have HD := Lib.hid hd; have HF := Lib.hid hf; clear hd hf
  go_enter Try.func48, Try.ntmps48
  go_wp2
  go_loopw [3, 4] (fun t i wr => ∃ k : Nat, k ≤ d.length ∧ i = .int .i64 k ∧ t = .string (textTo d k) ∧ Below w.heap.size w wr) (fun _ i _ => d.length - (intOf i).toNat)
  case atStart => exact ⟨0, Nat.zero_le _, rfl, rfl, Below.refl _ _⟩
  case round =>
    obtain ⟨k, hk, rfl, rfl, hbel⟩ := hrel
    have hsz := hbel.size
    by_cases hlt : k < d.length
    · obtain ⟨b, off, rfl, hb0, hd1, hd2⟩ := HD.out.at hlt
      have hb : b < wr.heap.size := Nat.lt_of_lt_of_le hb0 hsz
      have hc1 := (hbel.cell (p := ⟨b, off + k * 2, none⟩) hb0).trans hd1
      have hc2 := (hbel.cell (p := ⟨b, off + k * 2 + 1, none⟩) hb0).trans hd2
      clear hd1 hd2
      have hz := HF.out.small hlt
      have hts := textTo_size d k HF.out h6
      have g1 : (0 : Int) ≤ (k : Int) := by omega
      have g2 : (k : Int) < (d.length : Int) := by omega
      have HE : Hid (rdnS d[k] = d[k].1 ++ ⟨#[61]⟩ ++ escS d[k].2) := Lib.hid rfl
      by_cases h0 : k = 0
      · subst h0
        have HN := Lib.hid (textTo_one d hlt)
        rw [show off + 0 * 2 = off by omega] at hc1 hc2
        have e0 : textTo d 0 = ByteArray.empty := rfl
        generalize textTo d 0 = T at *
        have E0 := Lib.hid e0
        clear e0
        generalize d[0].1 = A at *
        generalize d[0].2 = V at *
        have hes := escS_size V
        have ha0 := cat T A (by omega)
        have ha1 := cat (T ++ A) ⟨#[61]⟩ (by rw [ByteArray.size_append, sz1]; omega)
        have ha2 := cat (T ++ A ++ ⟨#[61]⟩) (escS V) (by rw [ByteArray.size_append, ByteArray.size_append, sz1]; omega)
        clear hes
        go_wp2_with fail
        go_region_held3 (fun w' => w'.cell? ⟨b, off, none⟩ = some (.string A) ∧ w'.cell? ⟨b, off + 1, none⟩ = some (.string V))
          (first | go_keep | exact ⟨(hb2.cell (p := ⟨b, off, none⟩) hb).trans hc1, (hb2.cell (p := ⟨b, off + 1, none⟩) hb).trans hc2⟩)
          (first | (go_at_call 90; refine (l02Escape_any _ _ hz.2).mono ?_; rintro e w2 ⟨rfl, hb2⟩))
        go_wp2
        go_roundw
        case rel => exact ⟨1, by omega, by go_num, by rw [HN.out, HE.out, E0.out]; simp, hbel.drew.trans (hb2.mono hsz)⟩
        case measure => simp [intOf]; omega
      · have HN := Lib.hid (textTo_succ d k hlt (by omega))
        have h0' : 0 < k := by omega
        generalize textTo d k = T at *
        generalize d[k].1 = A at *
        generalize d[k].2 = V at *
        have hes := escS_size V
        have ha := cat T ⟨#[44]⟩ (by rw [sz1]; omega)
        have ha0 := cat (T ++ ⟨#[44]⟩) A (by rw [ByteArray.size_append, sz1]; omega)
        have ha1 := cat (T ++ ⟨#[44]⟩ ++ A) ⟨#[61]⟩ (by rw [ByteArray.size_append, ByteArray.size_append, sz1, sz1]; omega)
        have ha2 := cat (T ++ ⟨#[44]⟩ ++ A ++ ⟨#[61]⟩) (escS V) (by rw [ByteArray.size_append, ByteArray.size_append, ByteArray.size_append, sz1, sz1]; omega)
        clear hes h0
        go_wp2_with fail
        go_region_held3 (fun w' => w'.cell? ⟨b, off + k * 2, none⟩ = some (.string A) ∧ w'.cell? ⟨b, off + k * 2 + 1, none⟩ = some (.string V))
          (first | go_keep | exact ⟨(hb2.cell (p := ⟨b, off + k * 2, none⟩) hb).trans hc1, (hb2.cell (p := ⟨b, off + k * 2 + 1, none⟩) hb).trans hc2⟩)
          (first | (go_at_call 90; refine (l02Escape_any _ _ hz.2).mono ?_; rintro e w2 ⟨rfl, hb2⟩))
        go_wp2
        go_roundw
        case rel => exact ⟨k + 1, by omega, by go_num, by rw [HN.out, HE.out]; simp only [cat_assoc], hbel.drew.trans (hb2.mono hsz)⟩
        case measure => simp [intOf]; omega
    · have HE : Hid (textTo d k = textS d) := Lib.hid (by unfold textTo; rw [List.take_of_length_le (by omega)])
      go_wp2
      go_ret
      exact ⟨ret_str HE.out, hbel⟩
def dnTextS (d : RdnL) : ByteArray := if dnB d = true then textS d else ByteArray.empty
theorem dnText_yes {d : RdnL} (h : dnB d = true) : dnTextS d = textS d := by unfold dnTextS; rw [if_pos h]
theorem dnText_no {d : RdnL} (h : dnB d = false) : dnTextS d = ByteArray.empty := by unfold dnTextS; rw [h]; rfl
theorem dnB_six {d : RdnL} (h : dnB d = true) : d.length ≤ 6 := by unfold dnB at h; simp at h; exact h.1
set_option maxHeartbeats 400000 in
theorem DnText_any (ao : Option Addr) (d : RdnL) (cap : Nat) (w : World) (hd : DnAt w ao d) (hf : Fits d) :
    Calls Try.prog 11 #[.slice ao d.length cap] w fun e w' => e = .returned (.string (dnTextS d)) ∧ Below w.heap.size w w' := by
  cases hr : dnB d
  · have HE := Lib.hid (dnText_no hr)
    go_enter Try.func11, Try.ntmps11
    go_wp2_with (first | (go_at_call 13; refine (DnRight_any _ _ _ _ hd hf).mono ?_; rintro e w1 ⟨rfl, hb1⟩; rw [hr]))
    go_ret
    exact ⟨ret_str HE.out.symm, hb1⟩
  · rw [dnText_yes hr]
    exact DnText_in ao d cap w hd hf hr
set_option maxHeartbeats 400000 in
theorem SpecDnText_any (ao : Option Addr) (d : RdnL) (cap : Nat) (w : World) (hd : DnAt w ao d) (hf : Fits d) :
    Calls Try.prog 12 #[.slice ao d.length cap] w fun e w' => e = .returned (.string (dnTextS d)) ∧ Below w.heap.size w w' := by
  have hl := hf.1
  cases hr : dnB d
  · have HE := Lib.hid (dnText_no hr)
    by_cases h4 : 400 < d.length
    · go_enter Try.func12, Try.ntmps12
      go_wp2
      go_ret
      exact ⟨ret_str HE.out.symm, Below.refl _ _⟩
    · go_enter Try.func12, Try.ntmps12
      go_wp2_with (first | (go_at_call 14; refine (SpecDnRight_any _ _ _ _ hd hf).mono ?_; rintro e w1 ⟨rfl, hb1⟩; rw [hr]))
      go_ret
      exact ⟨ret_str HE.out.symm, hb1⟩
  · have HE := Lib.hid (dnText_yes hr)
    have h6 := dnB_six hr
    go_enter Try.func12, Try.ntmps12
    go_wp2_with (first | (go_at_call 14; refine (SpecDnRight_any _ _ _ _ hd hf).mono ?_; rintro e w1 ⟨rfl, hb1⟩; rw [hr]) | (go_at_call 48; refine (l02Text_any _ _ _ _ (hd.below hb1) hf h6).mono ?_; rintro e w2 ⟨rfl, hb2⟩))
    go_ret
    exact ⟨ret_str HE.out.symm, hb1.trans (hb2.mono hb1.size)⟩
end Go.Proofs.Ytjajpdghamecoaa
