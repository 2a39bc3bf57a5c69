/- DnText: what the texts of the program and of the specification return. -/
import Derived.Test.YtjajpdghamecoaaEsc
import Derived.Test.YtjajpdghamecoaaOwn
import Derived.Test.YtjajpdghamecoaaShelf
import Derived.Deep.RegionHeld3
import Derived.Deep.DrawnRows
import Derived.Laws.Concat
namespace Go.Proofs.Ytjajpdghamecoaa
open Go.RowKit
attribute [local go_sem ↓] Go.wp_at_zero Go.wp_at_succ

theorem cat (a b : ByteArray) (h : a.size + b.size ≤ 1000000000) (W : World) : (Op.stringOp .add a b).run Try.prog W = .ok (.string (a ++ b)) W := run_string_add_sum W a b (by omega)
theorem escS_size (s : ByteArray) : (escS s).size ≤ 2 * s.size := by
  have := escTo_len s.data.toList s.data.toList.length
  rw [size_len] at this
  exact this
theorem sz1 (c : UInt8) : (⟨#[c]⟩ : ByteArray).size = 1 := rfl
/-- the text of one pair -/
def rdnS (r : ByteArray × ByteArray) : ByteArray := r.1 ++ ⟨#[61]⟩ ++ escS r.2
def partsTo (d : RdnL) (k : Nat) : List ByteArray := (d.take k).map rdnS
theorem partsTo_len (d : RdnL) (k : Nat) (h : k ≤ d.length) : (partsTo d k).length = k := by simp [partsTo]; omega
theorem partsTo_succ (d : RdnL) (k : Nat) (h : k < d.length) : partsTo d (k + 1) = partsTo d k ++ [rdnS d[k]] := by unfold partsTo; rw [List.take_succ_eq_append_getElem h, List.map_append]; rfl
theorem Fits.small {d : RdnL} (h : Fits d) {k : Nat} (hk : k < d.length) : d[k].1.size ≤ 1048576 ∧ d[k].2.size ≤ 1048576 := h.2 _ (List.getElem_mem hk)

/-- the text of a name -/
def textL (d : RdnL) : List UInt8 := Lib.join (d.map (fun r => (rdnS r).data.toList)) [44]
def textS (d : RdnL) : ByteArray := ⟨(textL d).toArray⟩
theorem rdnS_size (r : ByteArray × ByteArray) (h1 : r.1.size ≤ 1048576) (h2 : r.2.size ≤ 1048576) : (rdnS r).data.toList.length ≤ 4000000 := by
  have := escS_size r.2
  rw [size_len]
  unfold rdnS
  rw [ByteArray.size_append, ByteArray.size_append, sz1]
  omega
theorem join_len (l : List (List UInt8)) (m : Nat) (h : ∀ x ∈ l, x.length ≤ m) : (Lib.join l [44]).length ≤ l.length * (m + 1) := by
  cases l with
  | nil => simp [Lib.join_nil]
  | cons x l =>
    rw [Lib.join_cons]
    have : ∀ (r : List (List UInt8)), (∀ x ∈ r, x.length ≤ m) → (Lib.joinTail [44] r).length ≤ r.length * (m + 1) := by
      intro r
      induction r with
      | nil => intro _; simp [Lib.joinTail]
      | cons y r ih =>
        intro hr
        have h1 := ih (fun x hx => hr x (List.mem_cons_of_mem _ hx))
        have h2 := hr y (List.mem_cons_self ..)
        simp only [Lib.joinTail, List.map_cons, List.flatten_cons, List.length_append, List.length_cons, List.length_nil] at h1 ⊢
        rw [Nat.add_mul]; omega
    have h1 := this l (fun y hy => h y (List.mem_cons_of_mem _ hy))
    have h2 := h x (List.mem_cons_self ..)
    rw [List.length_append, List.length_cons, Nat.add_mul]; omega
theorem text_len (d : RdnL) (h : Fits d) : (textL d).length ≤ d.length * 4000001 := by
  have := join_len (d.map (fun r => (rdnS r).data.toList)) 4000000 (fun x hx => by
    obtain ⟨r, hr, rfl⟩ := List.mem_map.1 hx
    exact rdnS_size r (h.2 r hr).1 (h.2 r hr).2)
  rw [List.length_map] at this
  exact this
set_option maxRecDepth 100000 in
set_option maxHeartbeats 1000000 in
theorem DnText_in (ao : Option Addr) (d : RdnL) (cap : Nat) (w : World) (hd : DnAt w ao d) (hf : Fits d) (hr : dnB d = true) :
    Calls Try.prog 11 #[.slice ao d.length cap] w fun e w' => e = .returned (.string (textS d)) ∧ Below w.heap.size w w' := by
  have hl := hf.1
  have HD := Lib.hid hd; have HF := Lib.hid hf; clear hd hf
  go_enter Try.func11, Try.ntmps11
  go_wp2_with (first | (go_at_call 13; refine (DnRight_any _ _ _ _ HD.out HF.out).mono ?_; rintro e w1 ⟨rfl, hb1⟩; rw [hr]))
  clear hr
  have hz1 := hb1.size
  go_loopw [3, 10] (fun v i wr => ∃ k : Nat, k ≤ d.length ∧ i = .int .i64 k ∧ wr.ownsRow w.heap.size 9 1 v (partsTo d k).length (ss (partsTo d k)) ∧ Below w.heap.size w wr) (fun _ i _ => d.length - (intOf i).toNat)
  case atStart => exact ⟨0, Nat.zero_le _, rfl, ⟨rfl, .inl ⟨rfl, rfl⟩⟩, hb1⟩
  case round =>
    obtain ⟨k, hk, rfl, hown, hbel⟩ := hrel
    have hsz := hbel.size
    have hpl := partsTo_len d k hk
    by_cases hlt : k < d.length
    · obtain ⟨b, off, rfl, hb0, hd1, hd2⟩ := HD.out.at hlt
      have hb : b < wr.heap.size := Nat.lt_of_lt_of_le hb0 hsz
      have hc1 := (hbel.cell (p := ⟨b, off + k * 2, none⟩) hb0).trans hd1
      have hc2 := (hbel.cell (p := ⟨b, off + k * 2 + 1, none⟩) hb0).trans hd2
      have hz := HF.out.small hlt
      have HN := Lib.hid (partsTo_succ d k hlt)
      generalize partsTo d k = pre at *
      have HP := Lib.hid hpl; clear hpl
      have g1 : (0 : Int) ≤ (k : Int) := by omega
      have g2 : (k : Int) < (d.length : Int) := by omega
      have HE : Hid (rdnS d[k] = d[k].1 ++ ⟨#[61]⟩ ++ escS d[k].2) := Lib.hid rfl
      have HPl : Hid (pre.length ≤ 1000000000) := Lib.hid (by have := HP.out; omega)
      generalize d[k].1 = A at *
      generalize d[k].2 = V at *
      have D1 := Lib.hid hd1; have D2 := Lib.hid hd2; clear hd1 hd2
      have hes := escS_size V
      have ha1 := cat A ⟨#[61]⟩ (by rw [sz1]; omega)
      have ha2 := cat (A ++ ⟨#[61]⟩) (escS V) (by rw [ByteArray.size_append, sz1]; omega)
      clear hes
      go_wp2_with fail
      go_region_held3 (fun w' => w'.cell? ⟨b, off + k * 2, none⟩ = some (.string A) ∧ w'.cell? ⟨b, off + k * 2 + 1, none⟩ = some (.string V))
        (first | go_keep | exact ⟨(hbel3.cell (p := ⟨b, off + k * 2, none⟩) hb0).trans D1.out, (hbel3.cell (p := ⟨b, off + k * 2 + 1, none⟩) hb0).trans D2.out⟩ | exact ⟨(hb2.cell (p := ⟨b, off + k * 2, none⟩) hb).trans hc1, (hb2.cell (p := ⟨b, off + k * 2 + 1, none⟩) hb).trans hc2⟩)
        (first | (go_at_call 46; refine (escapeValue_any _ _ hz.2).mono ?_; rintro e w2 ⟨rfl, hb2⟩; have O2 := own_below hown.drew hb2; have L2 := Nat.le_trans hsz hb2.size; have B2 := hbel.drew.trans (hb2.mono hsz)) | (refine step_str w.heap.size (by rfl) _ _ (by rfl) _ pre (by rfl) O2 _ (by rfl) HPl.out L2 B2 ?_; intro g cp w3 hown3 hbel3 hsz3))
      go_wp2
      go_roundw
      case rel => exact ⟨k + 1, by omega, by go_num, by rw [HN.out, HE.out]; exact hown3, hbel3⟩
      case measure => simp [intOf]; omega
    · have e : k = d.length := by omega
      subst e
      have HE : Hid (textS d = ⟨(Lib.join ((partsTo d d.length).map (·.data.toList)) [44]).toArray⟩) := Lib.hid (by unfold textS textL partsTo; rw [List.take_length, List.map_map]; rfl)
      have HT := Lib.hid (text_len d HF.out)
      have HPt : Hid ((partsTo d d.length).map (·.data.toList) = d.map (fun r => (rdnS r).data.toList)) := Lib.hid (by unfold partsTo; rw [List.take_length, List.map_map]; rfl)
      obtain ⟨ao', cap', rfl⟩ := own_slice hown
      by_cases h0 : d.length = 0
      · have hd0 : d = [] := List.length_eq_zero_iff.1 h0
        subst hd0
        have hown' := Lib.hid hown
        clear hown
        go_wp2_with (first | (go_at_call 47; refine (Try.strings_Join_none _ _ _ _).mono ?_; rintro e w2 ⟨rfl, hw⟩; subst hw))
        go_ret
        exact ⟨ret_str (by rw [HE.out]; rfl), hbel⟩
      · obtain ⟨g, cp, hv, hg1, hg2⟩ := hown.form (by rw [partsTo_len d _ (Nat.le_refl _)]; omega)
        have e2 : ao' = some ⟨g, 0, none⟩ := by injection hv
        subst e2
        have hJ := Try.strings_Join g 0 cap' (partsTo d d.length) ⟨#[44]⟩ wr (fun j x hj => by
          have := hown.cells (g := g) rfl j (.string x) (by unfold ss; rw [List.getElem?_map, hj]; rfl)
          rw [add_plain] at this; rw [Nat.zero_add]; exact this) hg2 (by rw [partsTo_len d _ (Nat.le_refl _)]; omega) (own_cap hown) (by
            have h := HT.out
            rw [HPt.out]; exact Nat.le_trans h (by omega))
        have HJ := Lib.hid hJ
        have HO := Lib.hid hown
        clear hJ hown hv
        rw [partsTo_len d _ (Nat.le_refl _)] at HJ ⊢
        go_wp2_with (first | (go_at_call 47; refine HJ.out.mono ?_; rintro e w2 ⟨rfl, hb2⟩))
        go_ret
        exact ⟨ret_str HE.out.symm, hbel.trans (hb2.mono hsz)⟩
end Go.Proofs.Ytjajpdghamecoaa
