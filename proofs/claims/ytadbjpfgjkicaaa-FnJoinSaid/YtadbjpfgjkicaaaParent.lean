/- DnParent and DnJoin: what the texts of the program and of the specification return. -/
import Derived.Test.YtadbjpfgjkicaaaJoinR
import Derived.Laws.AppendOwnNone
namespace Go.Proofs.Ytadbjpfgjkicaaa
open Go.RowKit
attribute [local go_sem ↓] Go.wp_at_zero Go.wp_at_succ

theorem own_mono {w : World} {B B' e z n : Nat} {v : Value} {xs : List Value} (h : w.ownsRow B e z v n xs) (hB : B' ≤ B) : w.ownsRow B' e z v n xs := by
  refine ⟨h.1, ?_⟩
  rcases h.2 with h | ⟨g, cap, cur, h1, h2, h3⟩
  · exact .inl h
  · exact .inr ⟨g, cap, cur, h1, Nat.le_trans hB h2, h3⟩
/-- a new name is returned -/
def GivesDn (w : World) (d : RdnL) (e : Ending) (w' : World) : Prop := (∃ v, e = .returned v ∧ w'.ownsRow w.heap.size 39 2 v d.length (rs d)) ∧ Below w.heap.size w w'
theorem own_nil (w : World) (B : Nat) : w.ownsRow B 39 2 (.slice none 0 0) 0 (rs []) := ⟨rfl, .inl ⟨rfl, rfl⟩⟩
theorem dn_cells {w : World} {b off : Nat} {d : RdnL} (h : DnAt w (some ⟨b, off, none⟩) d) : ∀ j u, (rs d)[j]? = some u → w.cell? ((⟨b, off, none⟩ : Addr).add j) = some u := by
  intro j u hu
  have hj : j < (rs d).length := by
    rcases Nat.lt_or_ge j (rs d).length with h | h
    · exact h
    · rw [List.getElem?_eq_none h] at hu; cases hu
  rw [rs_length] at hj
  obtain ⟨b', off', e, _, c1, c2⟩ := h.at (k := j / 2) (by omega)
  cases e
  have ea : (⟨b, off, none⟩ : Addr).add j = ⟨b, off + j, none⟩ := by unfold Addr.add; split <;> simp_all
  rw [ea]
  have hg := rs_get d (j / 2) (by omega)
  rcases Nat.mod_two_eq_zero_or_one j with hm | hm
  · have ej : j = j / 2 * 2 := by omega
    rw [ej] at hu ⊢
    rw [hg.1] at hu
    rw [← hu]; exact c1
  · have ej : j = j / 2 * 2 + 1 := by omega
    rw [ej] at hu ⊢
    rw [hg.2] at hu
    rw [← hu, ← Nat.add_assoc]; exact c2
theorem rs_one (d : RdnL) : ∀ u ∈ rs d, u.oneCell' = true := by
  intro u hu
  unfold rs at hu
  rw [List.mem_flatMap] at hu
  obtain ⟨r, _, hr⟩ := hu
  simp at hr
  rcases hr with rfl | rfl <;> rfl
theorem rs_append (a b : RdnL) : rs (a ++ b) = rs a ++ rs b := by unfold rs; rw [List.flatMap_append]
/-- append(v, dn...) onto a row that the call owns -/
theorem append_dn {ops : Array Oper} {rest : List Oper} {o : Oper} {a : Act} {Q : Exit → Act → World → Prop} {w0 wr : World} (B : Nat) (hgd : o.guard = none) (s x : Operand)
    (ho : o.op = .call { callee := .builtin .append, args := #[s, x], argTypes := #[27, 27] }) (v : Value) (pre : RdnL) (hs : a.eval s = v) (hown : wr.ownsRow B 39 2 v pre.length (rs pre))
    (ao : Option Addr) (d : RdnL) (c n : Nat) (hn : n = d.length) (hx : a.eval x = .slice ao n c) (hd : DnAt wr ao d) (hc : ao = none → c = 0) (hlen : pre.length + d.length ≤ 1000000000) (hB : B ≤ wr.heap.size) (hbel : Below B w0 wr)
    (h : ∀ v' w', w'.ownsRow B 39 2 v' (pre ++ d).length (rs (pre ++ d)) → Below B w0 w' → wpList Try.prog ops Q rest (a.put o.dst v') w') :
    wpList Try.prog ops Q (o :: rest) a wr := by
  obtain ⟨i0, hi, hz0, hz1, hz2⟩ := info_parts Try.info39
  subst hn
  rcases ao with _ | ad
  · have hd0 : d = [] := by
      rcases hd with h | ⟨b, off, e, _⟩
      · exact h
      · cases e
    subst hd0
    have := hc rfl
    subst this
    refine wpList_append_own_none hgd s x 27 ho B 39 i0 2 Try.underlying27 hi v pre.length (rs pre) hs hown hx (h v wr (by rw [List.append_nil]; exact hown) hbel)
  · have hnews : ∀ j u, (rs d)[j]? = some u → wr.cell? (ad.add j) = some u := by
      rcases hd with hd | ⟨b, off, e, h2, h3⟩
      · subst hd; intro j u hu; simp [rs] at hu
      · cases e; exact dn_cells (.inr ⟨b, off, rfl, h2, h3⟩)
    refine wpList_append_own _ hgd s x 27 ho B 39 i0 _ 2 32 Try.underlying27 hi hz0 hz1 hz2 rfl (by decide) v pre.length (rs pre) hs hown ad d.length c (rs d) hx (rs_length d) hnews (rs_one d) ?_ ?_ hB ?_
    · unfold maxLen; omega
    · omega
    · intro v' w' h1 h2 h3
      refine h v' w' ?_ (hbel.grown h2 hB (fun k hk => (hown.lt k hk).1))
      rw [rs_append, List.length_append]; exact h1

theorem cut27s (w : World) (ao : Option Addr) (d : RdnL) (k cap : Nat) (hk : k ≤ d.length) (h0 : d.length ≠ 0) (hc : d.length ≤ cap) (hd : DnAt w ao d) :
    ∃ ad, (∀ W : World, (Instr.slice 27 (.slice ao d.length cap) (some (.int .i64 (k : Int))) none none).run Try.prog W = .ok (.slice (some ad) (d.length - k) (cap - k)) W) ∧ DnAt w (some ad) (d.drop k) := by
  obtain ⟨ao', h1, h2⟩ := cut27 w ao d k cap hk hc hd
  obtain ⟨b, off, rfl, hb, _⟩ := hd.at (k := 0) (by omega)
  have h3 := h1 w
  rw [run_slice_l w 27 _ d.length cap (by rw [Try.elem27]; exact Try.underlying27) .i64 (k : Int) (by omega) (by omega), Try.elem27, Try.size39] at h3
  rcases ao' with _ | ad
  · simp [Result.andThen, sliced] at h3
    split at h3 <;> simp at h3
  · exact ⟨ad, h1, h2⟩
def parentL (d : RdnL) : RdnL := if dnB d = true then d.drop 1 else []
theorem parent_no {d : RdnL} (h : dnB d = false ∨ d.length = 0) : parentL d = [] := by
  unfold parentL
  rcases h with h | h
  · rw [h]; rfl
  · rw [List.length_eq_zero_iff.1 h]; simp
theorem parent_yes {d : RdnL} (h : dnB d = true) : parentL d = d.drop 1 := by unfold parentL; rw [if_pos h]
set_option maxHeartbeats 1000000 in
theorem DnParent_any (ao : Option Addr) (d : RdnL) (cap : Nat) (w : World) (hc : d.length ≤ cap) (hd : DnAt w ao d) (hf : Fits d) :
    Calls Try.prog 41 #[.slice ao d.length cap] w fun e w' => GivesDn w (parentL d) e w' := by
  have hl := hf.1
  cases h1 : dnB d
  · have HE := Lib.hid (parent_no (d := d) (.inl h1))
    go_enter Try.func41, Try.ntmps41
    go_wp2_with fail
    refine (DnRight_any _ _ _ _ hd hf).mono ?_
    rintro e w1 ⟨rfl, hb1⟩
    rw [h1]
    go_wp2
    go_ret
    exact ⟨⟨_, rfl, by rw [HE.out]; exact own_nil _ _⟩, hb1⟩
  by_cases h0 : d.length = 0
  · have HE := Lib.hid (parent_no (d := d) (.inr h0))
    have h0' : ((d.length : Int) == 0) = true := by rw [h0]; rfl
    have H0 := Lib.hid h0; clear h0
    go_enter Try.func41, Try.ntmps41
    go_wp2_with fail
    refine (DnRight_any _ _ _ _ hd hf).mono ?_
    rintro e w1 ⟨rfl, hb1⟩
    rw [h1]
    go_wp2
    go_ret
    exact ⟨⟨_, rfl, by rw [HE.out]; exact own_nil _ _⟩, hb1⟩
  · have HE := Lib.hid (parent_yes h1)
    have h0' : ((d.length : Int) == 0) = false := by rw [beq_eq_false_iff_ne]; omega
    go_enter Try.func41, Try.ntmps41
    go_wp2_with fail
    refine (DnRight_any _ _ _ _ hd hf).mono ?_
    rintro e w1 ⟨rfl, hb1⟩
    rw [h1]
    obtain ⟨ao', hcut, hdr⟩ := cut27 w1 ao d 1 cap (by omega) hc (hd.below hb1)
    have hcut' : ∀ W : World, (Instr.slice 27 (.slice ao d.length cap) (some (.int .i64 1)) none none).run Try.prog W = .ok (.slice ao' (d.length - 1) (cap - 1)) W := hcut
    have HJ := Lib.hid (joinRdns_any w1.heap.size 0 1 [(ao', cap - 1, d.drop 1)] (w1.alloc (.cells #[.slice ao' (d.length - 1) (cap - 1)] 27)) ⟨by simp, fun i hi => by
      match i, hi with
      | 0, _ => exact ⟨by simp, (hdr.below ((Below.refl _ _).alloc (Nat.le_refl _) _)), hf.drop 1⟩⟩ (by simp))
    have HFl : Hid (flat [(ao', cap - 1, d.drop 1)] = d.drop 1) := Lib.hid (by unfold flat; simp)
    rw [HFl.out] at HJ
    have HDR := Lib.hid hdr
    clear hcut hdr
    go_wp2_with fail
    refine HJ.out.mono ?_
    rintro e w2 ⟨⟨v, rfl, hown⟩, hb2⟩
    have HO := Lib.hid hown
    clear hown
    go_wp2
    go_ret
    exact ⟨⟨_, rfl, by rw [HE.out]; exact own_mono HO.out (by have := hb1.size; simp; omega)⟩, (more hb1 _).trans (hb2.mono (by have := hb1.size; simp; omega))⟩
set_option maxHeartbeats 1000000 in
theorem SpecDnParent_any (ao : Option Addr) (d : RdnL) (cap : Nat) (w : World) (hc : d.length ≤ cap) (hd : DnAt w ao d) (hf : Fits d) :
    Calls Try.prog 42 #[.slice ao d.length cap] w fun e w' => GivesDn w (parentL d) e w' := by
  have hl := hf.1
  by_cases h4 : 400 < d.length
  · have HE := Lib.hid (parent_no (d := d) (.inl (dnB_long (by omega))))
    clear hd hf
    go_enter Try.func42, Try.ntmps42
    go_wp2
    go_ret
    exact ⟨⟨_, rfl, by rw [HE.out]; exact World.ownsRow_made _ _ 0 (Nat.le_refl _) (by unfold maxLen; omega) rfl⟩, (Below.refl _ _).alloc (Nat.le_refl _) _⟩
  by_cases h0 : d.length = 0
  · have HE := Lib.hid (parent_no (d := d) (.inr h0))
    have h0' : ((d.length : Int) == 0) = true := by rw [h0]; rfl
    have H0 := Lib.hid h0; clear h0
    go_enter Try.func42, Try.ntmps42
    go_wp2
    go_ret
    exact ⟨⟨_, rfl, by rw [HE.out]; exact World.ownsRow_made _ _ 0 (Nat.le_refl _) (by unfold maxLen; omega) rfl⟩, (Below.refl _ _).alloc (Nat.le_refl _) _⟩
  have h0' : ((d.length : Int) == 0) = false := by rw [beq_eq_false_iff_ne]; omega
  cases h1 : dnB d
  · have HE := Lib.hid (parent_no (d := d) (.inl h1))
    go_enter Try.func42, Try.ntmps42
    go_wp2_with fail
    refine (SpecDnRight_any _ _ _ _ hd hf).mono ?_
    rintro e w1 ⟨rfl, hb1⟩
    rw [h1]
    go_wp2
    go_ret
    exact ⟨⟨_, rfl, by rw [HE.out]; exact World.ownsRow_made _ _ 0 hb1.size (by unfold maxLen; omega) rfl⟩, more hb1 _⟩
  · have HE := Lib.hid (parent_yes h1)
    go_enter Try.func42, Try.ntmps42
    go_wp2_with fail
    refine (SpecDnRight_any _ _ _ _ hd hf).mono ?_
    rintro e w1 ⟨rfl, hb1⟩
    rw [h1]
    obtain ⟨ad', hcut, hdr⟩ := cut27s w1 ao d 1 cap (by omega) h0 hc (hd.below hb1)
    have hcut' : ∀ W : World, (Instr.slice 27 (.slice ao d.length cap) (some (.int .i64 1)) none none).run Try.prog W = .ok (.slice (some ad') (d.length - 1) (cap - 1)) W := hcut
    have HDR := Lib.hid (hdr.below ((Below.refl _ _).alloc (Nat.le_refl _) (.cells #[] 39)))
    clear hcut hdr
    go_wp2_with (first | (at_builtin; refine append_dn w.heap.size rfl _ _ rfl _ [] rfl (World.ownsRow_made _ _ 0 hb1.size (by unfold maxLen; omega) rfl) (some ad') (d.drop 1) (cap - 1) _ (by simp) rfl HDR.out (fun h => by cases h) (by simp; omega) (Nat.le_trans hb1.size (by simp)) (more hb1 _) ?_; intro v' w2 hown2 hbel2; have HO := Lib.hid hown2; clear hown2) | (fail "none"))
    go_ret
    exact ⟨⟨_, rfl, by rw [HE.out]; exact HO.out⟩, hbel2⟩
end Go.Proofs.Ytadbjpfgjkicaaa
