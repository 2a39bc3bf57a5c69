/- Merged texts: VwS00, L3c, L8, LtS, szRdn, szString. -/
import Derived.Test.YtmanlnlhpgdbpaaM5
import Derived.Test.YtmanlnlhpgdbpaaM4
import Derived.Test.YtmanlnlhpgdbpaaM2
import Derived.Test.YtmanlnlhpgdbpaaM3
/- Copies by the specification: the steps. -/
namespace Go.Proofs.Ytmanlnlhpgdbpaa
open Go.RowKit
attribute [local go_sem ↓] Go.wp_at_zero Go.wp_at_succ

theorem own_zeroD (w : World) {B g : Nat} (hg : g = w.heap.size) (hB : B ≤ g) : (w.alloc (.cells #[] 97)).ownsRow B 97 2 (.slice (some ⟨g, 0, none⟩) 0 0) 0 (rs []) := by
  subst hg
  exact ⟨rfl, .inr ⟨w.heap.size, 0, #[], rfl, hB, heap_alloc_new w _, by simp, by unfold maxLen; simp, rfl, rfl⟩⟩
set_option maxRecDepth 100000 in
theorem l03Ill_any (c : Int) (w : World) :
    Calls Try.prog 65 #[.int .i64 c] w fun e w' => e = .returned (.agg #[.slice none 0 0, .slice none 0 0, .int .i64 c]) ∧ Below w.heap.size w w' := by
  go_enter Try.func65, Try.ntmps65
  go_wp2
  exact bodyPost_ret (v := .agg #[.slice none 0 0, .slice none 0 0, .int .i64 c]) (by simp [results, Try.results65, go_sem]) rfl ⟨rfl, more' (Below.refl _ _) _⟩

theorem grown_set (w : World) (R j : Nat) (x : Value) : w.grownBy (w.setCell ⟨R, j, none⟩ x) (some R) :=
  ⟨rfl, rfl, rfl, by rw [setCell_size]; exact Nat.le_refl _, fun k hk hne => Below.heap_setCell _ _ _ _ (fun e => hne (by rw [show R = k from e.symm]))⟩
theorem own_cellOut {w : World} {B e z n R j : Nat} {v x : Value} {xs : List Value} (h : w.ownsRow B e z v n xs) (hR : R < B) : (w.setCell ⟨R, j, none⟩ x).ownsRow B e z v n xs := by
  refine h.kept (grown_set w R j x) ?_
  cases hu : v.ownBlock with
  | none => exact .inl rfl
  | some g =>
    right
    intro e
    injection e with e
    have := (h.lt g hu).1
    omega
theorem Grow.cellOut {α : Type} {e : Enc α} {T : TypeId} {B R j : Nat} {w : World} {v x : Value} {l : List α} {xs : List Value} (h : Grow e T B w v l xs) (hR : R < B) : Grow e T B (w.setCell ⟨R, j, none⟩ x) v l xs := by
  obtain ⟨hr, P, h1, h2, h3⟩ := h
  refine ⟨own_cellOut hr hR, P, fun i hi => ⟨fun b hx => ⟨((h1 i hi).1 b hx).1, by rw [setCell_size]; exact ((h1 i hi).1 b hx).2⟩, (h1 i hi).2⟩, h2, fun i hi => ?_⟩
  obtain ⟨cs, q1, q2⟩ := h3 i hi
  exact ⟨cs, q1, e.ownFrame q2 (Same.set _ j x (fun hx => by have := ((h1 i hi).1 R hx).1; omega))⟩
theorem Blk.low {w w' : World} {g N : Nat} {cs : List Value} (h : Blk w g cs) (hb : Below N w w') (hg : g < N) : Blk w' g cs := by
  obtain ⟨T, ht⟩ := h
  exact ⟨T, (hb.block g hg).trans ht⟩
section
variable {ops : Array Oper} {o : Oper} {a : Act} {Q : Exit → Act → World → Prop} {K : Act → World → Prop} {E : Prop} {w3 : World}
/-- append([]string{}, texts...) in a drawn region -/
theorem step_texts (B : Nat) (hgd : o.guard = none) (s x : Operand)
    (ho : o.op = .call { callee := .builtin .append, args := #[s, x], argTypes := #[40, 40] }) (v : Value) (hs : a.eval s = v) (hown : w3.ownsRow B 9 1 v 0 [])
    (ao : Option Addr) (d : List ByteArray) (c : Nat) (hx : a.eval x = .slice ao d.length c) (hd : StrsAt w3 ao d) (hc : ao = none → c = 0) (hlen : d.length ≤ 1000000000) (hB : B ≤ w3.heap.size)
    (h : ∀ v' w', w'.ownsRow B 9 1 v' d.length (d.map Value.string) → w3.grownBy w' v.ownBlock → K (a.put o.dst v') w') :
    if Region.wanted o (yielded ops a.tmps) = true then Oper.wp Try.prog o a w3 K Q else E := by
  have hw : Region.wanted o (yielded ops a.tmps) = true := by simp [Region.wanted, hgd]
  rw [if_pos hw]
  obtain ⟨i0, hi, hz0, hz1, hz2⟩ := info_parts Try.info9
  rcases ao with _ | ad
  · have hd0 : d = [] := by
      rcases hd with h | ⟨b, off, e, _⟩
      · exact h
      · cases e
    subst hd0
    have := hc rfl
    subst this
    have hrun := run_append_owned_none (P := Try.prog) (w := w3) B 40 o.type 9 i0 1 Try.underlying40 hi v 0 [] hown
    unfold Oper.wp execOp
    simp only [ho, resolve, invoke, builtin, Sem.run_bind, Sem.run_pure, Result.andThen_ok, List.map_toArray, List.map_cons, List.map_nil, hs, hx]
    erw [hrun]
    exact h v w3 hown ⟨rfl, rfl, rfl, Nat.le_refl _, fun _ _ _ => rfl⟩
  · have hnews : ∀ j u, (d.map Value.string)[j]? = some u → w3.cell? (ad.add j) = some u := by
      rcases hd with hd | ⟨b, off, e, h2, h3⟩
      · subst hd; intro j u hu; simp at hu
      · cases e
        intro j u hu
        have ea : (⟨b, off, none⟩ : Addr).add j = ⟨b, off + j, none⟩ := by unfold Addr.add; split <;> simp_all
        rw [ea]
        rw [List.getElem?_map] at hu
        by_cases hj : j < d.length
        · rw [List.getElem?_eq_getElem hj] at hu
          cases hu
          exact h3 j hj
        · rw [List.getElem?_eq_none (by omega)] at hu; cases hu
    refine wp_append_own _ s x 40 ho B 9 i0 _ 1 16 Try.underlying40 hi hz0 hz1 hz2 rfl (by decide) v 0 [] hs hown ad d.length c (d.map Value.string) hx (by simp) hnews (by intro u hu; obtain ⟨t, _, rfl⟩ := List.mem_map.1 hu; rfl) ?_ ?_ hB ?_
    · unfold maxLen; omega
    · omega
    · intro v' w' h1 h2 h3
      rw [Nat.zero_add] at h1
      exact h v' w' h1 h2
/-- append(attrs, x) in a drawn region -/
theorem step_attr (B : Nat) (hgd : o.guard = none) (s x : Operand)
    (ho : o.op = .call { callee := .builtin .append, args := #[s, x], argTypes := #[37, 37] }) (v : Value) (n : Nat) (xs : List Value) (hs : a.eval s = v) (hown : w3.ownsRow B 62 2 v n xs)
    (A : ByteArray) (p : Option Addr) (m c : Nat) (hx : a.eval x = .slice (some ⟨w3.heap.size, 0, none⟩) 1 1) (hlen : n ≤ 100000000) (hB : B ≤ w3.heap.size)
    (h : ∀ g cap w', w'.ownsRow B 62 2 (.slice (some ⟨g, 0, none⟩) (n + 1) cap) (n + 1) (xs ++ [.string A, .slice p m c]) → (w3.alloc (.cells #[.string A, .slice p m c] 62)).grownBy w' v.ownBlock → (v.ownBlock = some g ∨ g = w3.heap.size + 1) → K (a.put o.dst (.slice (some ⟨g, 0, none⟩) (n + 1) cap)) w') :
    if Region.wanted o (yielded ops a.tmps) = true then Oper.wp Try.prog o a (w3.alloc (.cells #[.string A, .slice p m c] 62)) K Q else E := by
  obtain ⟨i0, hi, hz0, hz1, hz2⟩ := info_parts Try.infoTAttr
  refine step_append_lies _ hgd s x 37 ho B 62 i0 _ 2 40 Try.underlying37 hi hz0 hz1 hz2 rfl (by decide) v n xs hs (hown.alloc _) ⟨w3.heap.size, 0, none⟩ 1 1 [.string A, .slice p m c] hx rfl (World.news_of_block (cs := #[.string A, .slice p m c]) (t := 62) (fr := (0, 0)) (heap_alloc_new _ _)) ?_ (by omega) ?_ ?_ ?_ (w3.heap.size + 1) (by simp) ?_
  · intro u hu; simp at hu; rcases hu with rfl | rfl <;> rfl
  · unfold maxLen; omega
  · omega
  · simp; omega
  · intro g cap w' h1 h2 h3 _
    exact h g cap w' h1 h2 h3
end
section
variable {ops : Array Oper} {rest : List Oper} {o : Oper} {a : Act} {Q : Exit → Act → World → Prop} {W : World}
/-- append([]Rdn{}, dn...) -/
theorem app_dn0 (N : Nat) (hgd : o.guard = none) (s x : Operand)
    (ho : o.op = .call { callee := .builtin .append, args := #[s, x], argTypes := #[32, 32] }) (hs : a.eval s = .slice (some ⟨N, 0, none⟩) 0 0)
    (ao : Option Addr) (d : RdnL) (c n : Nat) (hn : n = d.length) (hx : a.eval x = .slice ao n c) (hd : DnAt W ao d) (hc : ao = none → c = 0) (hlen : ([] : RdnL).length + d.length ≤ 1000000000) (hN : N = W.heap.size)
    (h : ∀ v' w', w'.ownsRow N 97 2 v' d.length (rs d) → Below W.heap.size W w' → N ≤ w'.heap.size → wpList Try.prog ops Q rest (a.put o.dst v') w') :
    wpList Try.prog ops Q (o :: rest) a (W.alloc (.cells #[] 97)) := by
  subst hN
  have B0 : Below W.heap.size W (W.alloc (.cells #[] 97)) := more' (Below.refl _ _) _
  refine append_dn W.heap.size hgd s x ho _ [] hs (own_zeroD _ rfl (Nat.le_refl _)) ao d c n hn hx (hd.below B0) hc hlen B0.size B0 ?_
  intro v' w' h1 h2
  exact h v' w' h1 h2 h2.size
end
end Go.Proofs.Ytmanlnlhpgdbpaa
/- l03Copy: what the specification's text returns. -/
namespace Go.Proofs.Ytmanlnlhpgdbpaa
open Go.RowKit
attribute [local go_sem ↓] Go.wp_at_zero Go.wp_at_succ

set_option maxRecDepth 100000 in
set_option maxHeartbeats 4000000 in
theorem l03Copy_any {S : Bs} (dn : RdnL) (at_ : List AttrT) (dv av : Value) (w : World) (hd : SlAt rdnE S w dn dv) (ha : SlAt attrE S w at_ av) (hze : entryE.sz (dn, at_) ≤ 1048576) :
    Calls Try.prog 71 #[.agg #[dv, av]] w fun e w' => ∃ u0 u1, e = .returned (.agg #[u0, u1]) ∧ entryE.Own (Fresh w w') w' (dn, at_) [u0, u1] ∧ Below w.heap.size w w' := by
  have HE : entryE.sz (dn, at_) = (dn.length + szL rdnE dn) + (at_.length + szL attrE at_) := rfl
  rw [HE] at hze
  have hd0 := hd
  obtain ⟨o2, k2, rfl⟩ := hd.sl
  obtain ⟨o3, k3, rfl⟩ := ha.sl
  have HA := Lib.hid ha
  have HZ : Hid (∀ x ∈ at_, attrE.sz x ≤ 1048576) := Lib.hid (fun x h => by have h1 := szL_mem attrE h; omega)
  have HD : Hid (∀ W : World, Below w.heap.size w W → DnAt W o2 dn) := Lib.hid (fun W b => (dn_of hd0).below b)
  have hac : o2 = none → k2 = 0 := hd0.cap.2.2
  have hl : at_.length ≤ 1048576 := by omega
  have hdl : dn.length ≤ 1048576 := by omega
  clear hd hd0 ha hze HE
  have hlen : ([] : RdnL).length + dn.length ≤ 1000000000 := by simp; omega
  go_enter Try.func71, Try.ntmps71
  have W00 : Hid (∀ (C D : Array Value) (T : TypeId), C = #[.slice o2 dn.length k2, .slice o3 at_.length k3] → D = #[.slice none 0 0, .slice none 0 0] → Below w.heap.size w ((w.alloc (.cells C T)).alloc (.cells D T)) ∧ Blk ((w.alloc (.cells C T)).alloc (.cells D T)) w.heap.size [.slice o2 dn.length k2, .slice o3 at_.length k3] ∧ Blk ((w.alloc (.cells C T)).alloc (.cells D T)) (w.heap.size + 1) [.slice none 0 0, .slice none 0 0]) := Lib.hid (fun C D T hC hD => by subst hC hD; exact ⟨more' (more' (Below.refl _ _) _) _, (Blk.new _ _ _).alloc _, blk_at _ _ _ (by simp)⟩)
  go_wp2_with (first
    | (at_builtin; obtain ⟨b2, t2, r2⟩ := W00.out _ _ 39 rfl rfl; refine app_dn0 _ rfl _ _ rfl rfl o2 dn k2 _ rfl rfl (HD.out _ b2) hac hlen (by simp) ?_; intro v1 w1 hown1 hbel1 hR1; obtain ⟨d0, nn, dc, rfl⟩ := own_slice3' hown1)
    | (fail "none"))
  have T1 := Lib.hid (t2.below hbel1); have R1b := Lib.hid (r2.below hbel1)
  have b1 := b2.trans (hbel1.mono b2.size)
  have hR2 : w.heap.size + 1 + 1 ≤ w1.heap.size := hR1
  clear t2 r2 b2 hbel1 W00
  obtain ⟨d0', dc', e9, _⟩ := own_rdns hown1
  injection e9 with e1 e2 e3
  subst e1 e2 e3
  have OD := Lib.hid (own_rdns hown1)
  refine wp_world (fun W => Below w.heap.size w W ∧ Blk W w.heap.size [.slice o2 dn.length k2, .slice o3 at_.length k3] ∧ Blk W (w.heap.size + 1) [.slice none 0 0, .slice none 0 0] ∧ Blk W w1.heap.size [.slice d0 dn.length dc, .slice none 0 0] ∧ SlOwn rdnE (fun b => w.heap.size + 1 + 1 ≤ b ∧ b < w1.heap.size) W dn (.slice d0 dn.length dc)) ⟨more' b1 _, T1.out.alloc _, R1b.out.alloc _, Blk.new _ _ _, OD.out.frame (Same.of_below' (more' (Below.refl _ _) _))⟩ ?_
  clear OD hown1 T1 R1b b1
  generalize w1.heap.size = R at *
  rintro W ⟨hbW, t0, t1, t2, od⟩
  go_loopw [4] (fun i wr => ∃ (k : Nat) (p : Option Addr) (n c : Nat) (xs : List Value), k ≤ at_.length ∧ i = .int .i64 k ∧ Blk wr w.heap.size [.slice o2 dn.length k2, .slice o3 at_.length k3] ∧ Blk wr (w.heap.size + 1) [.slice none 0 0, .slice none 0 0] ∧ Blk wr R [.slice d0 dn.length dc, .slice p n c] ∧ Grow attrE 62 (R + 1) wr (.slice p n c) (at_.take k) xs ∧ SlOwn rdnE (fun b => w.heap.size + 1 + 1 ≤ b ∧ b < R) wr dn (.slice d0 dn.length dc) ∧ Below w.heap.size w wr) (fun i _ => at_.length - (intOf i).toNat)
  case atStart => exact ⟨0, none, 0, 0, [], Nat.zero_le _, rfl, t0, t1, t2, Grow.nil _ _ _ _, od, hbW⟩
  case round =>
    clear t0 t1 t2 od hbW
    obtain ⟨k, p, n, c, xs, hk, rfl, t0, t1, t2, hg, hod, hbel⟩ := hrel
    obtain ⟨_, _, e9, _⟩ := hg.own
    injection e9 with ep en ec
    subst ep; subst en; subst ec
    have HT0 := Lib.hid t0; have HT1 := Lib.hid t1; have HT2 := Lib.hid t2; have HG := Lib.hid hg; have HOD := Lib.hid hod; have HB := Lib.hid hbel
    have hRs : R < wr.heap.size := t2.lt
    have c0 := t0.cell 0 rfl
    have c1 := t0.cell 1 rfl
    clear t0 t1 t2 hg hod hbel
    by_cases hlt : k < at_.length
    · obtain ⟨b, off, a0, a1, v1, rfl, _, hb0, hx, ⟨hc0, hc1⟩, s1, _⟩ := attr_row HA.out hlt
      have HZ1 : Hid (attrE.sz (a0, a1) ≤ 1048576) := Lib.hid (by have := HZ.out _ (List.getElem_mem hlt); rw [hx] at this; exact this)
      have HT : Hid (at_.take (k + 1) = at_.take k ++ [(a0, a1)]) := Lib.hid (by rw [List.take_succ_eq_append_getElem hlt, hx])
      have HS3 := Lib.hid (s1.frame (Same.of_below' HB.out))
      obtain ⟨o4, k4, rfl⟩ := s1.sl
      clear s1 hx
      have hrl : Hid ((at_.take k).length ≤ 100000000) := Lib.hid (by rw [List.length_take]; omega)
      generalize at_.take k = pre at *
      have g1 : (0 : Int) ≤ (k : Int) := by omega
      have g2 : (k : Int) < (at_.length : Int) := by omega
      have hR3 : R < wr.heap.size := hRs
      have OZ : Hid ((wr.drew.alloc (.cells #[] 9)).ownsRow wr.heap.size 9 1 (.slice (some ⟨wr.heap.size, 0, none⟩) 0 0) 0 []) := Lib.hid ⟨rfl, .inr ⟨wr.heap.size, 0, #[], rfl, Nat.le_refl _, heap_alloc_new wr.drew _, by simp, by unfold maxLen; simp, rfl, rfl⟩⟩
      have BZ : Below wr.heap.size wr (wr.drew.alloc (.cells #[] 9)) := more' (Below.refl _ _).drew _
      have HSz : Hid (StrsAt (wr.drew.alloc (.cells #[] 9)) o4 a1) := Lib.hid (strs_of (HS3.out.frame (Same.of_below' BZ)))
      have hc4 : o4 = none → k4 = 0 := HS3.out.cap.2.2
      have hl1 : a1.length ≤ 1000000000 := by have h1 := HZ1.out; have h2 : attrE.sz (a0, a1) = a0.size + (a1.length + szL strE a1) := rfl; omega
      have hsz1 : wr.heap.size ≤ (wr.drew.alloc (.cells #[] 9)).heap.size := BZ.size
      have hbR : b < w.heap.size := hb0
      have SK1 : Hid (∀ Z' : World, Below R wr Z' → Z'.cell? ⟨w.heap.size, 0, none⟩ = some (.slice o2 dn.length k2) ∧ Z'.cell? ⟨w.heap.size, 1, none⟩ = some (.slice (some ⟨b, off, none⟩) at_.length k3) ∧ Z'.cell? ⟨b, off + k * 2, none⟩ = some (.string a0) ∧ Z'.cell? ⟨b, off + k * 2 + 1, none⟩ = some (.slice o4 a1.length k4)) := Lib.hid (fun Z' h => ⟨(h.cell (p := ⟨w.heap.size, 0, none⟩) (by show w.heap.size < R; omega)).trans c0, (h.cell (p := ⟨w.heap.size, 1, none⟩) (by show w.heap.size < R; omega)).trans c1, (h.cell (p := ⟨b, off + k * 2, none⟩) (by show b < R; omega)).trans ((HB.out.cell (p := ⟨b, off + k * 2, none⟩) hb0).trans hc0), (h.cell (p := ⟨b, off + k * 2 + 1, none⟩) (by show b < R; omega)).trans ((HB.out.cell (p := ⟨b, off + k * 2 + 1, none⟩) hb0).trans hc1)⟩)
      clear hc0 hc1 c0 c1
      have KP : Hid (∀ (L : Array Bool) (Z : World), Below (R + 1) wr Z → Until (fun Z' => Z'.cell? ⟨w.heap.size, 0, none⟩ = some (.slice o2 dn.length k2) ∧ Z'.cell? ⟨w.heap.size, 1, none⟩ = some (.slice (some ⟨b, off, none⟩) at_.length k3) ∧ Z'.cell? ⟨b, off + k * 2, none⟩ = some (.string a0) ∧ Z'.cell? ⟨b, off + k * 2 + 1, none⟩ = some (.slice o4 a1.length k4)) (fun Z => Z.cell? ⟨R, 1, none⟩ = some (.slice p pre.length c)) 20 L Z) :=
        Lib.hid (fun L Z h => ⟨SK1.out Z (h.mono (Nat.le_succ _)), fun _ => (HT2.out.low h (Nat.lt_succ_self _)).cell 1 rfl⟩)
      have hbd : Below (R + 1) wr wr.drew := (Below.refl _ _).drew
      have hbz8 : Below (R + 1) wr (wr.drew.alloc (.cells #[] 9)) := BZ.mono (by omega)
      have hRd : R + 1 ≤ wr.drew.heap.size := hR3
      have M0 := HT0.out.cell 1 rfl
      go_wp2_with fail
      refine wp_region_until (fun Z' => Z'.cell? ⟨w.heap.size, 0, none⟩ = some (.slice o2 dn.length k2) ∧ Z'.cell? ⟨w.heap.size, 1, none⟩ = some (.slice (some ⟨b, off, none⟩) at_.length k3) ∧ Z'.cell? ⟨b, off + k * 2, none⟩ = some (.string a0) ∧ Z'.cell? ⟨b, off + k * 2 + 1, none⟩ = some (.slice o4 a1.length k4)) (fun Z => Z.cell? ⟨R, 1, none⟩ = some (.slice p pre.length c)) 20 (by kernel_rfl) (KP.out #[] _ hbd).1 ((KP.out #[false, false, false, false, false, false, false, false, false, false, false, false, false, false, false, false, false, false, false, false, false] _ hbd).2 rfl) (fun hU => ?_)
      refine wpAnyL_take (i := 0) (oi := { dst := some 17, op := Op.fieldAddr 39 (Operand.tmp 3) 1, type := 0, pos := "l03_entry.go:77", after := #[], guard := none }) (v := ?_) rfl (by decide) (by kernel_rfl) (by kernel_rfl) (by kernel_rfl) (fun _ _ _ h => h) (Or.inl ⟨by rfl, ?_⟩) (by assumption) ?_
      rotate_left
      · intro w hSw; (try dsimp only at hSw); go_simp; (try with_reducible rfl)
      clear hU; intro hU
      (try simp only [Act.put, List.setIfInBounds_toArray, List.set_cons_zero, List.set_cons_succ])
      refine wpAnyL_load (i := 1) (m := 18) (oi := { dst := some 18, op := Op.load 37 (Operand.tmp 17), type := 37, pos := "l03_entry.go:77", after := #[{ on := 0, ground := Ground.data }], guard := none }) (om := { dst := some 35, op := Op.call { callee := Callee.builtin Builtin.append, args := #[Operand.tmp 18, Operand.tmp 34], argTypes := #[37, 37] }, type := 37, pos := "l03_entry.go:77", after := #[{ on := 1, ground := Ground.data }, { on := 17, ground := Ground.data }, { on := 15, ground := Ground.chain }], guard := none }) (ok := { dst := none, op := Op.store 37 (Operand.tmp 36) (Operand.tmp 35), type := 0, pos := "l03_entry.go:77", after := #[{ on := 19, ground := Ground.data }, { on := 18, ground := Ground.data }, { on := 18, ground := Ground.chain }, { on := 0, ground := Ground.phase }, { on := 1, ground := Ground.phase }, { on := 2, ground := Ground.phase }, { on := 3, ground := Ground.phase }, { on := 4, ground := Ground.phase }, { on := 5, ground := Ground.phase }, { on := 6, ground := Ground.phase }, { on := 7, ground := Ground.phase }, { on := 8, ground := Ground.phase }, { on := 9, ground := Ground.phase }, { on := 10, ground := Ground.phase }, { on := 11, ground := Ground.phase }, { on := 12, ground := Ground.phase }, { on := 13, ground := Ground.phase }, { on := 14, ground := Ground.phase }, { on := 15, ground := Ground.phase }, { on := 16, ground := Ground.phase }, { on := 17, ground := Ground.phase }, { on := 18, ground := Ground.phase }], guard := none }) (v := ?_) rfl (by decide) (by kernel_rfl) (by kernel_rfl) (by kernel_rfl) rfl rfl (by kernel_rfl) (by kernel_rfl) (by kernel_rfl) (by kernel_rfl) (fun _ _ _ h => h) (Or.inl ⟨by rfl, ?_⟩) (by assumption) ?_
      rotate_left
      · intro w hSw; (try dsimp only at hSw); go_simp; (try with_reducible rfl)
      clear hU; intro hU
      (try simp only [Act.put, List.setIfInBounds_toArray, List.set_cons_zero, List.set_cons_succ])
      refine wpAnyL_take (i := 2) (oi := { dst := some 19, op := Op.fieldAddr 39 (Operand.tmp 1) 1, type := 0, pos := "l03_entry.go:77", after := #[], guard := none }) (v := ?_) rfl (by decide) (by kernel_rfl) (by kernel_rfl) (by kernel_rfl) (fun _ _ _ h => h) (Or.inl ⟨by rfl, ?_⟩) (by assumption) ?_
      rotate_left
      · intro w hSw; (try dsimp only at hSw); go_simp; (try with_reducible rfl)
      clear hU; intro hU
      (try simp only [Act.put, List.setIfInBounds_toArray, List.set_cons_zero, List.set_cons_succ])
      refine wpAnyL_take (i := 3) (oi := { dst := some 20, op := Op.load 37 (Operand.tmp 19), type := 37, pos := "l03_entry.go:77", after := #[{ on := 2, ground := Ground.data }], guard := none }) (v := ?_) rfl (by decide) (by kernel_rfl) (by kernel_rfl) (by kernel_rfl) (fun _ _ _ h => h) (Or.inl ⟨by rfl, ?_⟩) (by assumption) ?_
      rotate_left
      · intro w hSw; (try dsimp only at hSw); go_simp; (try with_reducible rfl)
      clear hU; intro hU
      (try simp only [Act.put, List.setIfInBounds_toArray, List.set_cons_zero, List.set_cons_succ])
      refine wpAnyL_take (i := 4) (oi := { dst := some 21, op := Op.move (Operand.tmp 4), type := 3, pos := "l03_entry.go:77", after := #[], guard := none }) (v := ?_) rfl (by decide) (by kernel_rfl) (by kernel_rfl) (by kernel_rfl) (fun _ _ _ h => h) (Or.inl ⟨by rfl, ?_⟩) (by assumption) ?_
      rotate_left
      · intro w hSw; (try dsimp only at hSw); go_simp; (try with_reducible rfl)
      clear hU; intro hU
      (try simp only [Act.put, List.setIfInBounds_toArray, List.set_cons_zero, List.set_cons_succ])
      refine wpAnyL_take (i := 5) (oi := { dst := some 22, op := Op.indexAddr 37 (Operand.tmp 20) (Operand.tmp 21), type := 0, pos := "l03_entry.go:77", after := #[{ on := 3, ground := Ground.data }, { on := 4, ground := Ground.data }], guard := none }) (v := ?_) rfl (by decide) (by kernel_rfl) (by kernel_rfl) (by kernel_rfl) (fun _ _ _ h => h) (Or.inl ⟨by rfl, ?_⟩) (by assumption) ?_
      rotate_left
      · intro w hSw; (try dsimp only at hSw); go_simp; (try with_reducible rfl)
      clear hU; intro hU
      (try simp only [Act.put, List.setIfInBounds_toArray, List.set_cons_zero, List.set_cons_succ])
      refine wpAnyL_take (i := 6) (oi := { dst := some 23, op := Op.fieldAddr 62 (Operand.tmp 22) 0, type := 0, pos := "l03_entry.go:77", after := #[{ on := 5, ground := Ground.data }], guard := none }) (v := ?_) rfl (by decide) (by kernel_rfl) (by kernel_rfl) (by kernel_rfl) (fun _ _ _ h => h) (Or.inl ⟨by rfl, ?_⟩) (by assumption) ?_
      rotate_left
      · intro w hSw; (try dsimp only at hSw); go_simp; (try with_reducible rfl)
      clear hU; intro hU
      (try simp only [Act.put, List.setIfInBounds_toArray, List.set_cons_zero, List.set_cons_succ])
      refine wpAnyL_take (i := 7) (oi := { dst := some 24, op := Op.load 9 (Operand.tmp 23), type := 9, pos := "l03_entry.go:77", after := #[{ on := 6, ground := Ground.data }], guard := none }) (v := ?_) rfl (by decide) (by kernel_rfl) (by kernel_rfl) (by kernel_rfl) (fun _ _ _ h => h) (Or.inl ⟨by rfl, ?_⟩) (by assumption) ?_
      rotate_left
      · intro w hSw; (try dsimp only at hSw); go_simp; (try with_reducible rfl)
      clear hU; intro hU
      (try simp only [Act.put, List.setIfInBounds_toArray, List.set_cons_zero, List.set_cons_succ])
      refine wpAnyL_take (i := 9) (oi := { dst := some 26, op := Op.fieldAddr 39 (Operand.tmp 1) 1, type := 0, pos := "l03_entry.go:77", after := #[], guard := none }) (v := ?_) rfl (by decide) (by kernel_rfl) (by kernel_rfl) (by kernel_rfl) (fun _ _ _ h => h) (Or.inl ⟨by rfl, ?_⟩) (by assumption) ?_
      rotate_left
      · intro w hSw; (try dsimp only at hSw); go_simp; (try with_reducible rfl)
      clear hU; intro hU
      (try simp only [Act.put, List.setIfInBounds_toArray, List.set_cons_zero, List.set_cons_succ])
      refine wpAnyL_take (i := 10) (oi := { dst := some 27, op := Op.load 37 (Operand.tmp 26), type := 37, pos := "l03_entry.go:77", after := #[{ on := 9, ground := Ground.data }], guard := none }) (v := ?_) rfl (by decide) (by kernel_rfl) (by kernel_rfl) (by kernel_rfl) (fun _ _ _ h => h) (Or.inl ⟨by rfl, ?_⟩) (by assumption) ?_
      rotate_left
      · intro w hSw; (try dsimp only at hSw); go_simp; (try with_reducible rfl)
      clear hU; intro hU
      (try simp only [Act.put, List.setIfInBounds_toArray, List.set_cons_zero, List.set_cons_succ])
      refine wpAnyL_take (i := 11) (oi := { dst := some 28, op := Op.move (Operand.tmp 4), type := 3, pos := "l03_entry.go:77", after := #[], guard := none }) (v := ?_) rfl (by decide) (by kernel_rfl) (by kernel_rfl) (by kernel_rfl) (fun _ _ _ h => h) (Or.inl ⟨by rfl, ?_⟩) (by assumption) ?_
      rotate_left
      · intro w hSw; (try dsimp only at hSw); go_simp; (try with_reducible rfl)
      clear hU; intro hU
      (try simp only [Act.put, List.setIfInBounds_toArray, List.set_cons_zero, List.set_cons_succ])
      refine wpAnyL_take (i := 12) (oi := { dst := some 29, op := Op.indexAddr 37 (Operand.tmp 27) (Operand.tmp 28), type := 0, pos := "l03_entry.go:77", after := #[{ on := 10, ground := Ground.data }, { on := 11, ground := Ground.data }], guard := none }) (v := ?_) rfl (by decide) (by kernel_rfl) (by kernel_rfl) (by kernel_rfl) (fun _ _ _ h => h) (Or.inl ⟨by rfl, ?_⟩) (by assumption) ?_
      rotate_left
      · intro w hSw; (try dsimp only at hSw); go_simp; (try with_reducible rfl)
      clear hU; intro hU
      (try simp only [Act.put, List.setIfInBounds_toArray, List.set_cons_zero, List.set_cons_succ])
      refine wpAnyL_take (i := 13) (oi := { dst := some 30, op := Op.fieldAddr 62 (Operand.tmp 29) 1, type := 0, pos := "l03_entry.go:77", after := #[{ on := 12, ground := Ground.data }], guard := none }) (v := ?_) rfl (by decide) (by kernel_rfl) (by kernel_rfl) (by kernel_rfl) (fun _ _ _ h => h) (Or.inl ⟨by rfl, ?_⟩) (by assumption) ?_
      rotate_left
      · intro w hSw; (try dsimp only at hSw); go_simp; (try with_reducible rfl)
      clear hU; intro hU
      (try simp only [Act.put, List.setIfInBounds_toArray, List.set_cons_zero, List.set_cons_succ])
      refine wpAnyL_take (i := 14) (oi := { dst := some 31, op := Op.load 40 (Operand.tmp 30), type := 40, pos := "l03_entry.go:77", after := #[{ on := 13, ground := Ground.data }], guard := none }) (v := ?_) rfl (by decide) (by kernel_rfl) (by kernel_rfl) (by kernel_rfl) (fun _ _ _ h => h) (Or.inl ⟨by rfl, ?_⟩) (by assumption) ?_
      rotate_left
      · intro w hSw; (try dsimp only at hSw); go_simp; (try with_reducible rfl)
      clear hU; intro hU
      (try simp only [Act.put, List.setIfInBounds_toArray, List.set_cons_zero, List.set_cons_succ])
      refine wpAnyL_ready (rs := [8]) (by kernel_rfl) (by simp) ?_
      refine AllReadyL.cons (o := { dst := some 25, op := Op.buildSlice 40 0 #[], type := 40, pos := "l03_entry.go:77", after := #[], guard := none }) rfl (fun K hK => ?_) (AllReadyL.nil)
      go_simp
      clear hU
      refine hK.out _ _ ?_ (fun hU => ?_)
      · (try dsimp only)
        first | exact KP.out _ _ (by assumption) | exact KP.out _ _ hbz8 | exact KP.out _ _ hbd | exact KP.out _ _ (Below.alloc (by assumption) (by first | exact hRd | exact hR6) _) | exact ⟨SK1.out _ (Below.setCell (hb7.mono (Nat.le_succ R)) (p := ⟨R, 1, none⟩) (Nat.le_refl _) _), fun h => absurd (h.symm.trans (show _ = true by kernel_rfl)) (by decide)⟩
      clear hK K
      (try simp only [Act.put, List.setIfInBounds_toArray, List.set_cons_zero, List.set_cons_succ])
      refine wpAnyL_ready (rs := [15]) (by kernel_rfl) (by simp) ?_
      refine AllReadyL.cons (o := { dst := some 32, op := Op.call { callee := Callee.builtin Builtin.append, args := #[Operand.tmp 25, Operand.tmp 31], argTypes := #[40, 40] }, type := 40, pos := "l03_entry.go:77", after := #[{ on := 8, ground := Ground.data }, { on := 14, ground := Ground.data }], guard := none }) rfl (fun K hK => ?_) (AllReadyL.nil)
      refine step_texts wr.heap.size rfl _ _ rfl (.slice (some ⟨wr.heap.size, 0, none⟩) 0 0) rfl OZ.out o4 a1 k4 rfl HSz.out hc4 hl1 hsz1 ?_
      intro v6 w6 hown6 hgr6
      have hbel6 : Below wr.heap.size wr w6 := BZ.grown hgr6 hsz1 (fun k hk => (OZ.out.lt k hk).1)
      have Q6 := Lib.hid (own_texts hown6)
      obtain ⟨xo, xc, rfl⟩ := (own_texts hown6).at.sl
      have hb6 : Below (R + 1) wr w6 := hbel6.mono hR3
      have hR6 : R + 1 ≤ w6.heap.size := Nat.le_trans hR3 hbel6.size
      have R6 := Lib.hid (HG.out.below hbel6).row
      clear hown6 hgr6
      clear hU
      refine hK.out _ _ ?_ (fun hU => ?_)
      · (try dsimp only)
        first | exact KP.out _ _ (by assumption) | exact KP.out _ _ hbz8 | exact KP.out _ _ hbd | exact KP.out _ _ (Below.alloc (by assumption) (by first | exact hRd | exact hR6) _) | exact ⟨SK1.out _ (Below.setCell (hb7.mono (Nat.le_succ R)) (p := ⟨R, 1, none⟩) (Nat.le_refl _) _), fun h => absurd (h.symm.trans (show _ = true by kernel_rfl)) (by decide)⟩
      clear hK K
      (try simp only [Act.put, List.setIfInBounds_toArray, List.set_cons_zero, List.set_cons_succ])
      refine wpAnyL_take (i := 16) (oi := { dst := some 33, op := Op.build 62 #[(0, Operand.tmp 24), (1, Operand.tmp 32)], type := 62, pos := "l03_entry.go:77", after := #[{ on := 7, ground := Ground.data }, { on := 15, ground := Ground.data }], guard := none }) (v := ?_) rfl (by decide) (by kernel_rfl) (by kernel_rfl) (by kernel_rfl) (fun _ _ _ h => h) (Or.inl ⟨by rfl, ?_⟩) (by assumption) ?_
      rotate_left
      · intro w hSw; (try dsimp only at hSw); go_simp; (try with_reducible rfl)
      clear hU; intro hU
      (try simp only [Act.put, List.setIfInBounds_toArray, List.set_cons_zero, List.set_cons_succ])
      refine wpAnyL_ready (rs := [17]) (by kernel_rfl) (by simp) ?_
      refine AllReadyL.cons (o := { dst := some 34, op := Op.buildSlice 37 1 #[(0, Operand.tmp 33)], type := 37, pos := "l03_entry.go:77", after := #[{ on := 16, ground := Ground.data }], guard := none }) rfl (fun K hK => ?_) (AllReadyL.nil)
      go_simp
      clear hU
      refine hK.out _ _ ?_ (fun hU => ?_)
      · (try dsimp only)
        first | exact KP.out _ _ (by assumption) | exact KP.out _ _ hbz8 | exact KP.out _ _ hbd | exact KP.out _ _ (Below.alloc (by assumption) (by first | exact hRd | exact hR6) _) | exact ⟨SK1.out _ (Below.setCell (hb7.mono (Nat.le_succ R)) (p := ⟨R, 1, none⟩) (Nat.le_refl _) _), fun h => absurd (h.symm.trans (show _ = true by kernel_rfl)) (by decide)⟩
      clear hK K
      (try simp only [Act.put, List.setIfInBounds_toArray, List.set_cons_zero, List.set_cons_succ])
      refine wpAnyL_ready (rs := [18]) (by kernel_rfl) (by simp) ?_
      refine AllReadyL.cons (o := { dst := some 35, op := Op.call { callee := Callee.builtin Builtin.append, args := #[Operand.tmp 18, Operand.tmp 34], argTypes := #[37, 37] }, type := 37, pos := "l03_entry.go:77", after := #[{ on := 1, ground := Ground.data }, { on := 17, ground := Ground.data }, { on := 15, ground := Ground.chain }], guard := none }) rfl (fun K hK => ?_) (AllReadyL.nil)
      refine step_attr (R + 1) rfl _ _ rfl (.slice p pre.length c) pre.length xs rfl R6.out a0 xo a1.length xc rfl hrl.out hR6 ?_
      intro g7 cp7 w7 h71 h72 h73
      have hb7 : Below (R + 1) wr w7 := (hb6.alloc hR6 _).grown h72 (by simp; omega) (fun r hr => (R6.out.lt r hr).1)
      have T7 := Lib.hid (HT2.out.low hb7 (Nat.lt_succ_self _))
      have q1 := T7.out.cell 1 rfl
      have f1 := T7.out.soft 1
      clear hU
      refine hK.out _ _ ?_ (fun hU => ?_)
      · (try dsimp only)
        first | exact KP.out _ _ (by assumption) | exact KP.out _ _ hbz8 | exact KP.out _ _ hbd | exact KP.out _ _ (Below.alloc (by assumption) (by first | exact hRd | exact hR6) _) | exact ⟨SK1.out _ (Below.setCell (hb7.mono (Nat.le_succ R)) (p := ⟨R, 1, none⟩) (Nat.le_refl _) _), fun h => absurd (h.symm.trans (show _ = true by kernel_rfl)) (by decide)⟩
      clear hK K
      (try simp only [Act.put, List.setIfInBounds_toArray, List.set_cons_zero, List.set_cons_succ])
      refine wpAnyL_take (i := 19) (oi := { dst := some 36, op := Op.fieldAddr 39 (Operand.tmp 3) 1, type := 0, pos := "l03_entry.go:77", after := #[{ on := 0, ground := Ground.phase }, { on := 1, ground := Ground.phase }, { on := 2, ground := Ground.phase }, { on := 3, ground := Ground.phase }, { on := 4, ground := Ground.phase }, { on := 5, ground := Ground.phase }, { on := 6, ground := Ground.phase }, { on := 7, ground := Ground.phase }, { on := 8, ground := Ground.phase }, { on := 9, ground := Ground.phase }, { on := 10, ground := Ground.phase }, { on := 11, ground := Ground.phase }, { on := 12, ground := Ground.phase }, { on := 13, ground := Ground.phase }, { on := 14, ground := Ground.phase }, { on := 15, ground := Ground.phase }, { on := 16, ground := Ground.phase }, { on := 17, ground := Ground.phase }, { on := 18, ground := Ground.phase }], guard := none }) (v := ?_) rfl (by decide) (by kernel_rfl) (by kernel_rfl) (by kernel_rfl) (fun _ _ _ h => h) (Or.inl ⟨by rfl, ?_⟩) (by assumption) ?_
      rotate_left
      · intro w hSw; (try dsimp only at hSw); go_simp; (try with_reducible rfl)
      clear hU; intro hU
      (try simp only [Act.put, List.setIfInBounds_toArray, List.set_cons_zero, List.set_cons_succ])
      refine wpAnyL_ready (rs := [20]) (by kernel_rfl) (by simp) ?_
      refine AllReadyL.cons (o := { dst := none, op := Op.store 37 (Operand.tmp 36) (Operand.tmp 35), type := 0, pos := "l03_entry.go:77", after := #[{ on := 19, ground := Ground.data }, { on := 18, ground := Ground.data }, { on := 18, ground := Ground.chain }, { on := 0, ground := Ground.phase }, { on := 1, ground := Ground.phase }, { on := 2, ground := Ground.phase }, { on := 3, ground := Ground.phase }, { on := 4, ground := Ground.phase }, { on := 5, ground := Ground.phase }, { on := 6, ground := Ground.phase }, { on := 7, ground := Ground.phase }, { on := 8, ground := Ground.phase }, { on := 9, ground := Ground.phase }, { on := 10, ground := Ground.phase }, { on := 11, ground := Ground.phase }, { on := 12, ground := Ground.phase }, { on := 13, ground := Ground.phase }, { on := 14, ground := Ground.phase }, { on := 15, ground := Ground.phase }, { on := 16, ground := Ground.phase }, { on := 17, ground := Ground.phase }, { on := 18, ground := Ground.phase }], guard := none }) rfl (fun K hK => ?_) (AllReadyL.nil)
      go_simp
      clear hU
      refine hK.out _ _ ?_ (fun hU => ?_)
      · (try dsimp only)
        first | exact KP.out _ _ (by assumption) | exact KP.out _ _ hbz8 | exact KP.out _ _ hbd | exact KP.out _ _ (Below.alloc (by assumption) (by first | exact hRd | exact hR6) _) | exact ⟨SK1.out _ (Below.setCell (hb7.mono (Nat.le_succ R)) (p := ⟨R, 1, none⟩) (Nat.le_refl _) _), fun h => absurd (h.symm.trans (show _ = true by kernel_rfl)) (by decide)⟩
      clear hK K
      (try simp only [Act.put, List.setIfInBounds_toArray, List.set_cons_zero, List.set_cons_succ])
      refine wpAnyL_done (by kernel_rfl) ?_ _
      have HG9 : Hid (Grow attrE 62 (R + 1) (w7.setCell ⟨R, 1, none⟩ (.slice (some ⟨g7, 0, none⟩) (pre.length + 1) cp7)) (.slice (some ⟨g7, 0, none⟩) (pre.length + 1) cp7) (pre ++ [(a0, a1)]) (xs ++ [.string a0, .slice xo a1.length xc])) := Lib.hid ((Grow.step HG.out hR3 hbel6 (attr_pack a0 a1 _ (Fresh wr w6) ⟨Q6.out, fun _ h => h, trivial⟩) (more' (Below.refl _ _) _) h71 h72 (fun g' hg' => by
        have e : g7 = g' := by simpa [Value.ownBlock] using hg'
        subst e
        rcases h73 with h | h
        · exact .inl h
        · exact .inr (by omega))).cellOut (Nat.lt_succ_self R))
      have T9 := Lib.hid (T7.out.set 1 (.slice (some ⟨g7, 0, none⟩) (pre.length + 1) cp7))
      have A9 := Lib.hid ((HT0.out.low hb7 (by omega)).far (j := 1) (R := R) (by omega) (.slice (some ⟨g7, 0, none⟩) (pre.length + 1) cp7))
      have U9 := Lib.hid ((HT1.out.low hb7 (by omega)).far (j := 1) (R := R) (by omega) (.slice (some ⟨g7, 0, none⟩) (pre.length + 1) cp7))
      have D9 := Lib.hid (((HOD.out.frame (S := fun b => w.heap.size + 1 + 1 ≤ b ∧ b < R) (fun k h _ => hb7.block k (by have := h.2; omega)))).frame (Same.set _ (g := R) 1 (.slice (some ⟨g7, 0, none⟩) (pre.length + 1) cp7) (by intro h; have := h.2; omega)))
      have B9 := Lib.hid (HB.out.trans (((hb7.mono (Nat.le_succ R)).setCell (p := ⟨R, 1, none⟩) (Nat.le_refl _) (.slice (some ⟨g7, 0, none⟩) (pre.length + 1) cp7)).mono (by omega)))
      clear SK1 KP hbd hbz8 OZ HSz h71 h72 h73 hb7 hbel6 hU T7 q1 f1 BZ HS3 M0
      go_wp2
      go_roundw
      case rel => exact ⟨k + 1, some ⟨g7, 0, none⟩, pre.length + 1, cp7, _, by omega, by go_num, A9.out, U9.out, T9.out, by rw [HT.out]; exact HG9.out, D9.out, B9.out⟩
      case measure => simp [intOf]; omega
    · have e : at_.take k = at_ := List.take_of_length_le (by omega)
      have HO : Hid (SlOwn attrE (fun b => R + 1 ≤ b ∧ b < wr.heap.size) wr at_ (.slice p k c)) := Lib.hid (by have := HG.out.own; rw [e] at this; rw [show k = at_.length by omega]; exact this)
      clear e
      have x0 := HT1.out.cell 0 rfl
      have x1 := HT1.out.cell 1 rfl
      have y0 := HT2.out.cell 0 rfl
      have y1 := HT2.out.cell 1 rfl
      have f0 := HT1.out.soft 0
      have f1 := HT1.out.soft 1
      have y1' : wr.cell? ⟨R, 1, none⟩ = some (.slice p k c) := by rw [y1, List.length_take, Nat.min_eq_left hk]
      clear y1
      have TE := (HT1.out.set 0 (.slice d0 dn.length dc)).set 1 (.slice p k c)
      have j0 := TE.cell 0 rfl
      have j1 := TE.cell 1 rfl
      clear TE
      go_wp2_with fail
      refine bodyPost_ret (v := .agg #[.slice d0 dn.length dc, .slice p k c]) (by simp [results, Try.results71, go_sem, j0, j1]) rfl ⟨_, _, rfl, entry_pack dn at_ _ _ (fun b => w.heap.size + 1 + 1 ≤ b ∧ b < R) (fun b => R + 1 ≤ b ∧ b < wr.heap.size) ⟨?_, (fun b h => ?_), ?_, (fun b h => ?_), fun b h1 h2 => ?_, trivial⟩, ?_⟩
      · exact ((HOD.out.frame (Same.set _ (g := w.heap.size + 1) 0 _ (by intro h; have := h.1; omega))).frame (Same.set _ (g := w.heap.size + 1) 1 _ (by intro h; have := h.1; omega)))
      · exact ⟨by have := h.1; omega, by have := h.2; show _ < (World.heap _).size; simp only [setCell_size]; omega⟩
      · exact ((HO.out.frame (Same.set _ (g := w.heap.size + 1) 0 _ (by intro h; have := h.1; omega))).frame (Same.set _ (g := w.heap.size + 1) 1 _ (by intro h; have := h.1; omega)))
      · exact ⟨by have := h.1; omega, by have := h.2; show _ < (World.heap _).size; simp only [setCell_size]; omega⟩
      · have := h1.2; have := h2.1; omega
      · exact (HB.out.setCell (p := ⟨w.heap.size + 1, 0, none⟩) (by show w.heap.size ≤ w.heap.size + 1; omega) _).setCell (p := ⟨w.heap.size + 1, 1, none⟩) (by show w.heap.size ≤ w.heap.size + 1; omega) _
end Go.Proofs.Ytmanlnlhpgdbpaa
/- Change logs: the specification's copies of changes. -/
namespace Go.Proofs.Ytmanlnlhpgdbpaa
open Go.RowKit
attribute [local go_sem ↓] Go.wp_at_zero Go.wp_at_succ

theorem change_one {S : Bs} {w : World} {x : ChangeT} {cs : List Value} (h : changeE.At S w x cs) : ∀ u ∈ cs, u.oneCell' = true := by
  obtain ⟨a0, a1, a2, a3, a4, v3, v4, rfl, rfl, s3, s4, _⟩ := change_atq h
  obtain ⟨o3, k3, rfl⟩ := s3.sl
  obtain ⟨o4, k4, rfl⟩ := s4.sl
  intro u hu
  simp at hu
  rcases hu with rfl | rfl | rfl | rfl | rfl <;> rfl
section
variable {ops : Array Oper} {rest : List Oper} {o : Oper} {a : Act} {Q : Exit → Act → World → Prop} {W : World}
/-- the cells of a list's rows -/
def RowsOf (S : Bs) (W : World) (d : List ChangeT) (xs : List Value) : Prop := ∀ i (h : i < d.length), ∃ cs, (∀ j (h : j < cs.length), xs[i * changeE.n + j]? = some cs[j]) ∧ changeE.At S W d[i] cs
set_option maxRecDepth 100000 in
/-- append([]Change{}, l...) -/
theorem app_ch0 {S : Bs} (N : Nat) (hgd : o.guard = none) (s x : Operand)
    (ho : o.op = .call { callee := .builtin .append, args := #[s, x], argTypes := #[24, 24] }) (hs : a.eval s = .slice (some ⟨N, 0, none⟩) 0 0)
    (ao : Option Addr) (d : List ChangeT) (c n : Nat) (hn : n = d.length) (hx : a.eval x = .slice ao n c) (hd : SlAt changeE S W d (.slice ao d.length c)) (hlen : d.length ≤ 1048576) (hN : N = W.heap.size)
    (h : ∀ v' xs w', w'.ownsRow W.heap.size 74 5 v' d.length xs → RowsOf S W d xs → Below W.heap.size W w' → wpList Try.prog ops Q rest (a.put o.dst v') w') :
    wpList Try.prog ops Q (o :: rest) a (W.alloc (.cells #[] 74)) := by
  subst hN
  subst hn
  have B0 : Below W.heap.size W (W.alloc (.cells #[] 74)) := more' (Below.refl _ _) _
  have O0 : (W.alloc (.cells #[] 74)).ownsRow W.heap.size 74 5 (.slice (some ⟨W.heap.size, 0, none⟩) 0 0) 0 [] := ⟨rfl, .inr ⟨W.heap.size, 0, #[], rfl, Nat.le_refl _, heap_alloc_new W _, by simp, by unfold maxLen; simp, rfl, rfl⟩⟩
  obtain ⟨i0, hi, hz0, hz1, hz2⟩ := info_parts Try.infoTChange
  have hc := hd.cap.2.2
  rcases ao with _ | ad
  · have hd0 : d = [] := by
      by_cases h0 : d = []
      · exact h0
      · obtain ⟨b, off, cs, e1, _⟩ := hd.row (List.length_pos_iff.2 h0)
        cases e1
    subst hd0
    have := hc rfl
    subst this
    refine wpList_append_own_none hgd s x 24 ho W.heap.size 74 i0 5 Try.underlying24 hi _ 0 [] hs O0 hx (h _ [] _ O0 (fun i hi => by simp at hi) B0)
  · have hxs : ∃ xs : List Value, xs.length = d.length * 5 ∧ (∀ j u, xs[j]? = some u → (W.alloc (.cells #[] 74)).cell? (ad.add j) = some u) ∧ RowsOf S W d xs := by
      by_cases h0 : d = []
      · subst h0; exact ⟨[], rfl, fun j u hu => by simp at hu, fun i hi => by simp at hi⟩
      · obtain ⟨b, off, cs, e1, _, hb, _⟩ := hd.row (List.length_pos_iff.2 h0)
        cases e1
        obtain ⟨xs, h1, h2, h3⟩ := all_cells (e := changeE) (by decide) hd
        refine ⟨xs, h1, fun j u hu => ?_, h3⟩
        rw [Go.WideShapes.add_plain]
        exact (B0.cell (p := ⟨b, off + j, none⟩) hb).trans (h2 j u hu)
    obtain ⟨xs, hxl, hxc, hxr⟩ := hxs
    refine wpList_append_own _ hgd s x 24 ho W.heap.size 74 i0 _ 5 80 Try.underlying24 hi hz0 hz1 hz2 rfl (by decide) _ 0 [] hs O0 ad d.length c xs hx hxl hxc ?_ ?_ ?_ B0.size ?_
    · intro u hu
      obtain ⟨j, hj, rfl⟩ := List.getElem_of_mem hu
      have hj2 : j < d.length * 5 := by rw [← hxl]; exact hj
      have hi2 : j / 5 < d.length := by omega
      obtain ⟨cs, q1, q2⟩ := hxr (j / 5) hi2
      have hcl : cs.length = 5 := changeE.len q2
      have hm : j % 5 < cs.length := by rw [hcl]; omega
      have := q1 (j % 5) hm
      have ej : j / 5 * changeE.n + j % 5 = j := by show j / 5 * 5 + j % 5 = j; omega
      rw [ej, List.getElem?_eq_getElem hj] at this
      injection this with this
      rw [this]
      exact change_one q2 _ (List.getElem_mem hm)
    · unfold maxLen; omega
    · omega
    · intro v' w' h1 h2 h3
      rw [Nat.zero_add, List.nil_append] at h1
      exact h v' xs w' h1 hxr (B0.grown h2 (by simp) (fun r hr => by simp [Value.ownBlock] at hr; omega))
end
/-- a cell of an owned row is written -/
theorem own_cell {w : World} {B T z n g cap j : Nat} {xs : List Value} (h : w.ownsRow B T z (.slice (some ⟨g, 0, none⟩) n cap) n xs) (u : Value) : ∃ ys, (w.setCell ⟨g, j, none⟩ u).ownsRow B T z (.slice (some ⟨g, 0, none⟩) n cap) n ys := by
  rcases h.2 with ⟨e, _⟩ | ⟨g', cap', cur, e, hB, hk, hc, hm, hsz, ht⟩
  · cases e
  cases e
  refine ⟨(cur.setIfInBounds j u).toList.take (n * z), ?_, .inr ⟨g, cap, _, rfl, hB, heap_set u hk, hc, hm, by simpa using hsz, rfl⟩⟩
  have h1 := h.1
  rw [← ht, List.length_take] at h1
  rw [List.length_take]
  simpa using h1
set_option maxRecDepth 100000 in
set_option maxHeartbeats 2000000 in
theorem l08List_row {S : Bs} (v : Value) (d : List ChangeT) (w : World) (hd : SlAt changeE S w d v) (hz : d.length + szL changeE d ≤ 1048576) :
    Calls Try.prog 36 #[v] w fun e w' => (∃ u, e = .returned u ∧ SlOwn changeE (Fresh w w') w' d u ∧ ∃ xs, w'.ownsRow w.heap.size 74 5 u d.length xs) ∧ Below w.heap.size w w' := by
  obtain ⟨ao, ca, rfl⟩ := hd.sl
  have HA := Lib.hid hd
  have HZ : Hid (∀ x ∈ d, changeE.sz x ≤ 1048576) := Lib.hid (fun x h => by have h1 := szL_mem changeE h; omega)
  have hl : d.length ≤ 1048576 := by omega
  clear hd hz
  go_enter Try.func36, Try.ntmps36
  go_wp2_with (first
    | (at_builtin; refine app_ch0 _ rfl _ _ rfl rfl ao d ca _ rfl rfl HA.out hl rfl ?_; intro v1 xs w1 hown hrows hbel)
    | (fail "none"))
  rcases hown.2 with ⟨rfl, h0⟩ | ⟨g, cap, cur, rfl, _⟩
  · have e : d = [] := List.length_eq_zero_iff.1 h0
    subst e
    go_loopw [4] (fun i wr => i = .int .i64 0 ∧ Below w.heap.size w wr) (fun i _ => 0)
    case atStart => exact ⟨rfl, hbel⟩
    case round =>
      obtain ⟨rfl, hb⟩ := hrel
      go_wp2
      go_ret
      exact ⟨⟨_, rfl, own_nilS _ _ _, [], ⟨by simp, .inl ⟨rfl, rfl⟩⟩⟩, hb⟩
  obtain ⟨hh, hc⟩ := Half.start (S := S) (w0 := w) (w := w) (e := changeE) (Nat.le_refl _) hown hrows (fun _ _ h => h)
  have HC := Lib.hid hc
  have hor : ∃ xs, w1.ownsRow w.heap.size 74 5 (.slice (some ⟨g, 0, none⟩) d.length cap) d.length xs := ⟨xs, hown⟩
  clear hown hrows hc
  go_loopw [4] (fun i wr => ∃ k : Nat, k ≤ d.length ∧ i = .int .i64 k ∧ Half changeE S w wr g d k ∧ (∃ xs, wr.ownsRow w.heap.size 74 5 (.slice (some ⟨g, 0, none⟩) d.length cap) d.length xs) ∧ Below w.heap.size w wr) (fun i _ => d.length - (intOf i).toNat)
  case atStart => exact ⟨0, Nat.zero_le _, rfl, hh, hor, hbel⟩
  case round =>
    clear hh hbel hor
    obtain ⟨k, hk, rfl, hh, ⟨xs', hor⟩, hbel⟩ := hrel
    have HH := Lib.hid hh; have HOR := Lib.hid hor; clear hh hor
    by_cases hlt : k < d.length
    · obtain ⟨cs, hrow, hat⟩ := HH.out.row hlt
      obtain ⟨a0, a1, a2, a3, a4, v3, v4, hx, rfl, s3, s4, _⟩ := change_atq hat
      have HZ1 : changeE.sz (a0, a1, a2, (a3, a4)) ≤ 1048576 := by have := HZ.out _ (List.getElem_mem hlt); rw [hx] at this; exact this
      have HE : changeE.sz (a0, a1, a2, (a3, a4)) = 0 + (0 + (a2.size + entryE.sz (a3, a4))) := rfl
      rw [HE] at HZ1
      have CK : Hid (Calls Try.prog 71 #[.agg #[v3, v4]] wr fun e w' => ∃ u0 u1, e = .returned (.agg #[u0, u1]) ∧ entryE.Own (Fresh wr w') w' (a3, a4) [u0, u1] ∧ Below wr.heap.size wr w') := Lib.hid (l03Copy_any a3 a4 v3 v4 wr (s3.frame (Same.of_below' hbel)) (s4.frame (Same.of_below' hbel)) (by omega))
      have HX := Lib.hid hx
      obtain ⟨o3, k3, rfl⟩ := s3.sl
      obtain ⟨o4, k4, rfl⟩ := s4.sl
      have HR := Lib.hid hrow
      have c3 : wr.cell? ⟨g, k * 5 + 3, none⟩ = some (.slice o3 a3.length k3) := hrow.cells 3 (by simp)
      have c4 : wr.cell? ⟨g, k * 5 + 4, none⟩ = some (.slice o4 a4.length k4) := hrow.cells 4 (by simp)
      have g1 : (0 : Int) ≤ (k : Int) := by omega
      have g2 : (k : Int) < (d.length : Int) := by omega
      clear hat s3 s4 hx HZ1 HE hrow
      go_wp2_with fail
      refine CK.out.mono ?_
      rintro e w2 ⟨u0, u1, rfl, q, hb⟩
      obtain ⟨⟨p3, n3, j3, rfl⟩, p4, n4, j4, rfl⟩ := entry_sl q rfl
      have Q := Lib.hid q; have D2 := Lib.hid hb
      have R2 := Lib.hid (HR.out.same (hb.block _ HR.out.lt))
      have b2 := hbel.trans (hb.mono hbel.size)
      clear q hb c3 c4 CK
      have f3 : w2.frozen? ⟨g, k * 5 + 3, none⟩ = false := R2.out.soft _
      have f4 : w2.frozen? ⟨g, k * 5 + 4, none⟩ = false := R2.out.soft _
      have c3 : w2.cell? ⟨g, k * 5 + 3, none⟩ = some (.slice o3 a3.length k3) := R2.out.cells 3 (by simp)
      have c4 : w2.cell? ⟨g, k * 5 + 4, none⟩ = some (.slice o4 a4.length k4) := R2.out.cells 4 (by simp)
      have HH2 : Hid (Half changeE S w ((w2.setCell ⟨g, k * 5 + 3, none⟩ (.slice p3 n3 j3)).setCell ⟨g, k * 5 + 4, none⟩ (.slice p4 n4 j4)) g d (k + 1)) := Lib.hid (HH.out.step hlt D2.out hbel.size (cs := [.int .i64 a0, .int .i64 a1, .string a2, .slice p3 n3 j3, .slice p4 n4 j4]) (by rw [HX.out]; exact change_of_entry Q.out (fun b h => h)) ((R2.out.store (j := 3) (by simp) (.slice p3 n3 j3)).store (j := 4) (by simp) (.slice p4 n4 j4))
        (fun b hb => by rw [Below.heap_setCell _ _ _ _ hb, Below.heap_setCell _ _ _ _ hb]) (by simp only [setCell_size])
        (fun i cs hi hcl hr => (hr.skip (n := 5) hcl (u := 3) (by decide) hi _).skip (n := 5) hcl (u := 4) (by decide) hi _))
      have hgw : w.heap.size ≤ g := HH.out.ge
      have HOR2 : Hid (∃ xs, ((w2.setCell ⟨g, k * 5 + 3, none⟩ (.slice p3 n3 j3)).setCell ⟨g, k * 5 + 4, none⟩ (.slice p4 n4 j4)).ownsRow w.heap.size 74 5 (.slice (some ⟨g, 0, none⟩) d.length cap) d.length xs) := Lib.hid (by
        obtain ⟨ys, hy⟩ := own_cell (j := k * 5 + 3) (own_below HOR.out D2.out) (.slice p3 n3 j3)
        exact own_cell hy _)
      have b3 := (b2.setCell (p := ⟨g, k * 5 + 3, none⟩) hgw (.slice p3 n3 j3)).setCell (p := ⟨g, k * 5 + 4, none⟩) hgw (.slice p4 n4 j4)
      go_wp2
      go_roundw
      case rel => exact ⟨k + 1, by omega, by go_num, HH2.out, HOR2.out, b3⟩
      case measure => simp [intOf]; omega
    · obtain rfl : k = d.length := by omega
      have HO := Lib.hid (HH.out.own HC.out)
      go_wp2
      go_ret
      exact ⟨⟨_, rfl, HO.out, _, HOR.out⟩, hbel⟩
theorem l08List_any {S : Bs} (v : Value) (d : List ChangeT) (w : World) (hd : SlAt changeE S w d v) (hz : d.length + szL changeE d ≤ 1048576) :
    Calls Try.prog 36 #[v] w fun e w' => (∃ u, e = .returned u ∧ SlOwn changeE (Fresh w w') w' d u) ∧ Below w.heap.size w w' :=
  (l08List_row v d w hd hz).mono fun _ _ ⟨⟨u, h1, h2, _⟩, h3⟩ => ⟨⟨u, h1, h2⟩, h3⟩
end Go.Proofs.Ytmanlnlhpgdbpaa
/- Latest: what the specification returns. -/
namespace Go.Proofs.Ytmanlnlhpgdbpaa
open Go.RowKit
attribute [local go_sem ↓] Go.wp_at_zero Go.wp_at_succ

theorem chOne {S : Bs} {w : World} {d : List ChangeT} {b off n ca k c : Nat} (h : SlAt changeE S w d (.slice (some ⟨b, off, none⟩) n ca)) (hk : k < d.length) (hc : 1 ≤ c) :
    SlAt changeE S w [d[k]] (.slice (some ⟨b, off + k * 5, none⟩) 1 c) := by
  obtain ⟨b', off', cs, e1, hS, hb, q1, q2⟩ := h.row hk
  cases e1
  refine ⟨_, c, rfl, hc, (fun x => by cases x), .inr ⟨b, off + k * 5, rfl, hS, hb, fun i hi => ?_⟩⟩
  have e0 : i = 0 := by simp at hi; omega
  subst e0
  exact ⟨cs, by rw [Nat.zero_mul, Nat.add_zero]; exact q1, q2⟩
theorem news_row {w : World} {g : Nat} {cs : List Value} (h : RowAt w g (0 * changeE.n) cs) : ∀ j u, cs[j]? = some u → w.cell? ((⟨g, 0, none⟩ : Addr).add j) = some u := by
  obtain ⟨C, T, h1, h2⟩ := h
  intro j u hu
  have hj : j < cs.length := (List.getElem?_eq_some_iff.1 hu).1
  have h3 := h2 j hj
  rw [Nat.zero_mul] at h3
  rw [Go.WideShapes.add_plain, cell_of_row w g _ C T _ h1, h3, ← List.getElem?_eq_getElem hj]
  exact hu
set_option maxRecDepth 100000 in
set_option maxHeartbeats 2000000 in
theorem SpecLatest_any {S : Bs} (v : Value) (d : List ChangeT) (w : World) (hd : SlAt changeE S w d v) (hz : d.length + szL changeE d ≤ 1048576) :
    Calls Try.prog 7 #[v] w fun e w' => (∃ u, e = .returned u ∧ SlOwn changeE (Fresh w w') w' (latestR d) u) ∧ Below w.heap.size w w' := by
  obtain ⟨ao, ca, rfl⟩ := hd.sl
  have HA := Lib.hid hd
  have HZ : Hid (∀ x ∈ d, 1 + changeE.sz x ≤ 1048576) := Lib.hid (fun x h => by have h1 := szL_mem changeE h; have h2 := List.length_pos_of_mem h; omega)
  clear hd hz
  by_cases c0 : 40 < d.length
  · have HRR : Hid (latestR d = []) := Lib.hid (by unfold latestR; rw [if_pos c0])
    have c0' : (40 : Int) < (d.length : Int) := by omega
    go_enter Try.func7, Try.ntmps7
    go_wp2
    go_ret
    rw [HRR.out]
    exact ⟨⟨_, rfl, ⟨_, 0, rfl, Nat.le_refl _, (fun h => by cases h), .inl rfl⟩⟩, more' (Below.refl _ _) _⟩
  have c0' : ¬ (40 : Int) < (d.length : Int) := by omega
  have hl : d.length ≤ 40 := by omega
  have HRR : Hid (latestR d = lastTo d d.length) := Lib.hid (by unfold latestR; rw [if_neg c0])
  go_enter Try.func7, Try.ntmps7
  go_wp2
  go_loopw [3, 4] (fun v i wr => ∃ k : Nat, k ≤ d.length ∧ i = .int .i64 k ∧ (∃ xs, Grow changeE 74 w.heap.size wr v (lastTo d k) xs) ∧ Below w.heap.size w wr) (fun _ i _ => d.length - (intOf i).toNat)
  case atStart => exact ⟨0, Nat.zero_le _, rfl, ⟨[], ⟨⟨by simp [lastTo], .inr ⟨w.heap.size, 0, #[], by simp [lastTo], Nat.le_refl _, heap_alloc_new w _, by simp [lastTo], by unfold maxLen; simp, rfl, by simp [lastTo]⟩⟩, fun _ _ => False, fun _ h => by simp [lastTo] at h, fun _ _ h => by simp [lastTo] at h, fun _ h => by simp [lastTo] at h⟩⟩, more' (Below.refl _ _) _⟩
  case round =>
    obtain ⟨k, hk, rfl, ⟨xs, hg⟩, hbel⟩ := hrel
    have HG := Lib.hid hg; clear hg
    obtain ⟨p7, n7, q7, hv7⟩ := own_slice3' HG.out.row
    subst hv7
    by_cases hlt : k < d.length
    · obtain ⟨b, off, a0, a1, a2, a3, a4, v3, v4, e1, _, hb0, hx, ⟨hc0, hc1, hc2, hc3, hc4⟩, s3, s4, _⟩ := change_row (HA.out.frame (Same.of_below' hbel)) hlt
      subst e1
      have HAk := Lib.hid (HA.out.frame (Same.of_below' hbel))
      have HT : Hid (lastTo d (k + 1) = lastTo d k ++ (if (d.drop (k + 1)).any (conB a2) = true then [] else [(a0, a1, a2, (a3, a4))])) := Lib.hid (by rw [lastTo_succ d k hlt, hx])
      have HX := Lib.hid hx
      have KC2 := Lib.hid hc2
      clear hc0 hc1 hc2 hc3 hc4 s3 s4 hx
      have g1 : (0 : Int) ≤ (k : Int) := by omega
      have g2 : (k : Int) < (d.length : Int) := by omega
      have hrl2 : Hid ((lastTo d k).length ≤ 100000000) := Lib.hid (by have := lastTo_len d k; omega)
      obtain ⟨wo, hwo⟩ : ∃ x, x = wr := ⟨_, rfl⟩
      subst hwo
      go_wp2_with fail
      go_loopw [5, 6] (fun v i wq => ∃ j : Nat, k + 1 ≤ j ∧ j ≤ d.length ∧ i = .int .i64 (j : Int) ∧ v = .bool (!((d.drop (k + 1)).take (j - (k + 1))).any (conB a2)) ∧ Below wo.heap.size wo wq) (fun _ i _ => d.length - (intOf i).toNat)
      case atStart => exact ⟨k + 1, Nat.le_refl _, by omega, by simp, by simp, Below.refl _ _⟩
      case round =>
        obtain ⟨j, hj1, hj2, rfl, rfl, hq⟩ := hrel
        by_cases hmt : j < d.length
        · obtain ⟨b', off', b0, b1, b2, b3, b4, y3, y4, e1, _, _, hy, ⟨_, _, jc2, _, _⟩, _, _, _⟩ := change_row (HAk.out.frame (Same.of_below' hq)) hmt
          cases e1
          have kc2 : wr.cell? ⟨b, off + k * 5 + 2, none⟩ = some (.string a2) := (hq.cell (p := ⟨b, off + k * 5 + 2, none⟩) hb0).trans KC2.out
          have HM : Hid (((d.drop (k + 1)).take (j + 1 - (k + 1))).any (conB a2) = (((d.drop (k + 1)).take (j - (k + 1))).any (conB a2) || (b2.toList == a2.toList))) := Lib.hid (by
            have hl1 : j - (k + 1) < (d.drop (k + 1)).length := by rw [List.length_drop]; omega
            rw [show j + 1 - (k + 1) = j - (k + 1) + 1 by omega, List.take_succ_eq_append_getElem hl1, List.any_append]
            have e2 : (d.drop (k + 1))[j - (k + 1)] = (b0, b1, b2, (b3, b4)) := by
              rw [List.getElem_drop]
              have e3 : k + 1 + (j - (k + 1)) = j := by omega
              simp only [e3]; exact hy
            rw [e2]; simp [conB])
          generalize ((d.drop (k + 1)).take (j - (k + 1))).any (conB a2) = so at *
          have g3 : (0 : Int) ≤ (j : Int) := by omega
          have g4 : (j : Int) < (d.length : Int) := by omega
          have hqs := hq.size
          cases so
          · have hnt : (!false) = true := rfl
            go_wp2_with fail
            have SK : Hid (∀ Z' : World, Below wr.heap.size wr Z' → Z'.cell? ⟨b, off + j * 5 + 2, none⟩ = some (.string b2) ∧ Z'.cell? ⟨b, off + k * 5 + 2, none⟩ = some (.string a2)) := Lib.hid (fun Z' h => ⟨(h.cell (p := ⟨b, off + j * 5 + 2, none⟩) (Nat.lt_of_lt_of_le hb0 hq.size)).trans jc2, (h.cell (p := ⟨b, off + k * 5 + 2, none⟩) (Nat.lt_of_lt_of_le hb0 hq.size)).trans kc2⟩)
            have BD : Below wr.heap.size wr wr.drew := (Below.refl _ _).drew
            refine wp_region_held_drew (S := (fun Z' => Z'.cell? ⟨b, off + j * 5 + 2, none⟩ = some (.string b2) ∧ Z'.cell? ⟨b, off + k * 5 + 2, none⟩ = some (.string a2))) (by kernel_rfl) ?_ (fun hHeld => ?_)
            · (try dsimp only)
              first | exact SK.out _ (by assumption) | exact SK.out _ BD | exact SK.out _ (more' (by assumption) _) | exact SK.out _ (more' BD _)
            refine wpAnyH_take (i := 0) (oi := { dst := some 26, op := Op.move (Operand.tmp 5), type := 4, pos := "l08_change.go:96", after := #[], guard := none }) (v := ?_) rfl (by kernel_rfl) (by kernel_rfl) (by kernel_rfl) (fun _ _ _ h => h) (Or.inl ⟨by rfl, ?_⟩) (by assumption) ?_
            rotate_left
            · intro w hSw; (try dsimp only at hSw); go_simp; (try with_reducible rfl)
            (try simp only [Act.put, List.setIfInBounds_toArray, List.set_cons_zero, List.set_cons_succ])
            refine wpAnyH_take (i := 1) (oi := { dst := some 27, op := Op.move (Operand.tmp 26), type := 4, pos := "l08_change.go:96", after := #[{ on := 0, ground := Ground.data }], guard := none }) (v := ?_) rfl (by kernel_rfl) (by kernel_rfl) (by kernel_rfl) (fun _ _ _ h => h) (Or.inl ⟨by rfl, ?_⟩) (by assumption) ?_
            rotate_left
            · intro w hSw; (try dsimp only at hSw); go_simp; (try with_reducible rfl)
            (try simp only [Act.put, List.setIfInBounds_toArray, List.set_cons_zero, List.set_cons_succ])
            refine wpAnyH_take (i := 2) (oi := { dst := some 28, op := Op.move (Operand.tmp 0), type := 24, pos := "l08_change.go:96", after := #[{ on := 1, ground := Ground.guard }], guard := some (1, true) }) (v := ?_) rfl (by kernel_rfl) (by kernel_rfl) (by kernel_rfl) (fun _ _ _ h => h) (Or.inl ⟨by rfl, ?_⟩) (by assumption) ?_
            rotate_left
            · intro w hSw; (try dsimp only at hSw); go_simp; (try with_reducible rfl)
            (try simp only [Act.put, List.setIfInBounds_toArray, List.set_cons_zero, List.set_cons_succ])
            refine wpAnyH_take (i := 3) (oi := { dst := some 29, op := Op.move (Operand.tmp 6), type := 3, pos := "l08_change.go:96", after := #[{ on := 1, ground := Ground.guard }], guard := some (1, true) }) (v := ?_) rfl (by kernel_rfl) (by kernel_rfl) (by kernel_rfl) (fun _ _ _ h => h) (Or.inl ⟨by rfl, ?_⟩) (by assumption) ?_
            rotate_left
            · intro w hSw; (try dsimp only at hSw); go_simp; (try with_reducible rfl)
            (try simp only [Act.put, List.setIfInBounds_toArray, List.set_cons_zero, List.set_cons_succ])
            refine wpAnyH_take (i := 4) (oi := { dst := some 30, op := Op.indexAddr 24 (Operand.tmp 28) (Operand.tmp 29), type := 0, pos := "l08_change.go:96", after := #[{ on := 2, ground := Ground.data }, { on := 3, ground := Ground.data }, { on := 1, ground := Ground.guard }], guard := some (1, true) }) (v := ?_) rfl (by kernel_rfl) (by kernel_rfl) (by kernel_rfl) (fun _ _ _ h => h) (Or.inl ⟨by rfl, ?_⟩) (by assumption) ?_
            rotate_left
            · intro w hSw; (try dsimp only at hSw); go_simp; (try with_reducible rfl)
            (try simp only [Act.put, List.setIfInBounds_toArray, List.set_cons_zero, List.set_cons_succ])
            refine wpAnyH_take (i := 5) (oi := { dst := some 31, op := Op.fieldAddr 74 (Operand.tmp 30) 2, type := 0, pos := "l08_change.go:96", after := #[{ on := 4, ground := Ground.data }, { on := 1, ground := Ground.guard }], guard := some (1, true) }) (v := ?_) rfl (by kernel_rfl) (by kernel_rfl) (by kernel_rfl) (fun _ _ _ h => h) (Or.inl ⟨by rfl, ?_⟩) (by assumption) ?_
            rotate_left
            · intro w hSw; (try dsimp only at hSw); go_simp; (try with_reducible rfl)
            (try simp only [Act.put, List.setIfInBounds_toArray, List.set_cons_zero, List.set_cons_succ])
            refine wpAnyH_take (i := 6) (oi := { dst := some 32, op := Op.load 9 (Operand.tmp 31), type := 9, pos := "l08_change.go:96", after := #[{ on := 5, ground := Ground.data }, { on := 1, ground := Ground.guard }], guard := some (1, true) }) (v := ?_) rfl (by kernel_rfl) (by kernel_rfl) (by kernel_rfl) (fun _ _ _ h => h) (Or.inl ⟨by rfl, ?_⟩) (by assumption) ?_
            rotate_left
            · intro w hSw; (try dsimp only at hSw); go_simp; (try with_reducible rfl)
            (try simp only [Act.put, List.setIfInBounds_toArray, List.set_cons_zero, List.set_cons_succ])
            refine wpAnyH_take (i := 7) (oi := { dst := some 33, op := Op.move (Operand.tmp 0), type := 24, pos := "l08_change.go:96", after := #[{ on := 1, ground := Ground.guard }], guard := some (1, true) }) (v := ?_) rfl (by kernel_rfl) (by kernel_rfl) (by kernel_rfl) (fun _ _ _ h => h) (Or.inl ⟨by rfl, ?_⟩) (by assumption) ?_
            rotate_left
            · intro w hSw; (try dsimp only at hSw); go_simp; (try with_reducible rfl)
            (try simp only [Act.put, List.setIfInBounds_toArray, List.set_cons_zero, List.set_cons_succ])
            refine wpAnyH_take (i := 8) (oi := { dst := some 34, op := Op.move (Operand.tmp 4), type := 3, pos := "l08_change.go:96", after := #[{ on := 1, ground := Ground.guard }], guard := some (1, true) }) (v := ?_) rfl (by kernel_rfl) (by kernel_rfl) (by kernel_rfl) (fun _ _ _ h => h) (Or.inl ⟨by rfl, ?_⟩) (by assumption) ?_
            rotate_left
            · intro w hSw; (try dsimp only at hSw); go_simp; (try with_reducible rfl)
            (try simp only [Act.put, List.setIfInBounds_toArray, List.set_cons_zero, List.set_cons_succ])
            refine wpAnyH_take (i := 9) (oi := { dst := some 35, op := Op.indexAddr 24 (Operand.tmp 33) (Operand.tmp 34), type := 0, pos := "l08_change.go:96", after := #[{ on := 7, ground := Ground.data }, { on := 8, ground := Ground.data }, { on := 1, ground := Ground.guard }], guard := some (1, true) }) (v := ?_) rfl (by kernel_rfl) (by kernel_rfl) (by kernel_rfl) (fun _ _ _ h => h) (Or.inl ⟨by rfl, ?_⟩) (by assumption) ?_
            rotate_left
            · intro w hSw; (try dsimp only at hSw); go_simp; (try with_reducible rfl)
            (try simp only [Act.put, List.setIfInBounds_toArray, List.set_cons_zero, List.set_cons_succ])
            refine wpAnyH_take (i := 10) (oi := { dst := some 36, op := Op.fieldAddr 74 (Operand.tmp 35) 2, type := 0, pos := "l08_change.go:96", after := #[{ on := 9, ground := Ground.data }, { on := 1, ground := Ground.guard }], guard := some (1, true) }) (v := ?_) rfl (by kernel_rfl) (by kernel_rfl) (by kernel_rfl) (fun _ _ _ h => h) (Or.inl ⟨by rfl, ?_⟩) (by assumption) ?_
            rotate_left
            · intro w hSw; (try dsimp only at hSw); go_simp; (try with_reducible rfl)
            (try simp only [Act.put, List.setIfInBounds_toArray, List.set_cons_zero, List.set_cons_succ])
            refine wpAnyH_take (i := 11) (oi := { dst := some 37, op := Op.load 9 (Operand.tmp 36), type := 9, pos := "l08_change.go:96", after := #[{ on := 10, ground := Ground.data }, { on := 1, ground := Ground.guard }], guard := some (1, true) }) (v := ?_) rfl (by kernel_rfl) (by kernel_rfl) (by kernel_rfl) (fun _ _ _ h => h) (Or.inl ⟨by rfl, ?_⟩) (by assumption) ?_
            rotate_left
            · intro w hSw; (try dsimp only at hSw); go_simp; (try with_reducible rfl)
            (try simp only [Act.put, List.setIfInBounds_toArray, List.set_cons_zero, List.set_cons_succ])
            refine wpAnyH_take (i := 12) (oi := { dst := some 38, op := Op.binOp BinOp.neq 9 (Operand.tmp 32) (Operand.tmp 37) 9, type := 4, pos := "l08_change.go:96", after := #[{ on := 6, ground := Ground.data }, { on := 11, ground := Ground.data }, { on := 1, ground := Ground.guard }], guard := some (1, true) }) (v := ?_) rfl (by kernel_rfl) (by kernel_rfl) (by kernel_rfl) (fun _ _ _ h => h) (Or.inl ⟨by rfl, ?_⟩) (by assumption) ?_
            rotate_left
            · intro w hSw; (try dsimp only at hSw); go_simp; (try with_reducible rfl)
            (try simp only [Act.put, List.setIfInBounds_toArray, List.set_cons_zero, List.set_cons_succ])
            refine wpAnyH_take (i := 13) (oi := { dst := some 39, op := Op.pick (Operand.tmp 27) (Operand.tmp 38) (Operand.const (Value.bool false)), type := 4, pos := "l08_change.go:96", after := #[{ on := 1, ground := Ground.data }, { on := 12, ground := Ground.data }], guard := none }) (v := ?_) rfl (by kernel_rfl) (by kernel_rfl) (by kernel_rfl) (fun _ _ _ h => h) (Or.inl ⟨by rfl, ?_⟩) (by assumption) ?_
            rotate_left
            · intro w hSw; (try dsimp only at hSw); go_simp; (try with_reducible rfl)
            (try simp only [Act.put, List.setIfInBounds_toArray, List.set_cons_zero, List.set_cons_succ])
            refine wpAnyH_take (i := 14) (oi := { dst := some 5, op := Op.assign (Operand.tmp 39), type := 4, pos := "l08_change.go:96", after := #[{ on := 13, ground := Ground.data }, { on := 1, ground := Ground.chain }, { on := 0, ground := Ground.phase }, { on := 1, ground := Ground.phase }, { on := 2, ground := Ground.phase }, { on := 3, ground := Ground.phase }, { on := 4, ground := Ground.phase }, { on := 5, ground := Ground.phase }, { on := 6, ground := Ground.phase }, { on := 7, ground := Ground.phase }, { on := 8, ground := Ground.phase }, { on := 9, ground := Ground.phase }, { on := 10, ground := Ground.phase }, { on := 11, ground := Ground.phase }, { on := 12, ground := Ground.phase }, { on := 13, ground := Ground.phase }], guard := none }) (v := ?_) rfl (by kernel_rfl) (by kernel_rfl) (by kernel_rfl) (fun _ _ _ h => h) (Or.inl ⟨by rfl, ?_⟩) (by assumption) ?_
            rotate_left
            · intro w hSw; (try dsimp only at hSw); go_simp; (try with_reducible rfl)
            (try simp only [Act.put, List.setIfInBounds_toArray, List.set_cons_zero, List.set_cons_succ])
            refine wpAnyH_done (by kernel_rfl) ?_ _
            clear SK
            have hqd : Below wo.heap.size wo wr.drew := hq.drew
            clear BD hHeld jc2 kc2
            go_wp2
            go_roundw
            case rel => exact ⟨j + 1, by omega, by omega, by go_num, by rw [HM.out]; rfl, hqd⟩
            case measure => simp [intOf]; omega
          · have hnt : (!true) = false := rfl
            go_wp2_with fail
            have SK : Hid (∀ Z' : World, Below wr.heap.size wr Z' → Z'.cell? ⟨b, off + j * 5 + 2, none⟩ = some (.string b2) ∧ Z'.cell? ⟨b, off + k * 5 + 2, none⟩ = some (.string a2)) := Lib.hid (fun Z' h => ⟨(h.cell (p := ⟨b, off + j * 5 + 2, none⟩) (Nat.lt_of_lt_of_le hb0 hq.size)).trans jc2, (h.cell (p := ⟨b, off + k * 5 + 2, none⟩) (Nat.lt_of_lt_of_le hb0 hq.size)).trans kc2⟩)
            have BD : Below wr.heap.size wr wr.drew := (Below.refl _ _).drew
            refine wp_region_held_drew (S := (fun Z' => Z'.cell? ⟨b, off + j * 5 + 2, none⟩ = some (.string b2) ∧ Z'.cell? ⟨b, off + k * 5 + 2, none⟩ = some (.string a2))) (by kernel_rfl) ?_ (fun hHeld => ?_)
            · (try dsimp only)
              first | exact SK.out _ (by assumption) | exact SK.out _ BD | exact SK.out _ (more' (by assumption) _) | exact SK.out _ (more' BD _)
            refine wpAnyH_take (i := 0) (oi := { dst := some 26, op := Op.move (Operand.tmp 5), type := 4, pos := "l08_change.go:96", after := #[], guard := none }) (v := ?_) rfl (by kernel_rfl) (by kernel_rfl) (by kernel_rfl) (fun _ _ _ h => h) (Or.inl ⟨by rfl, ?_⟩) (by assumption) ?_
            rotate_left
            · intro w hSw; (try dsimp only at hSw); go_simp; (try with_reducible rfl)
            (try simp only [Act.put, List.setIfInBounds_toArray, List.set_cons_zero, List.set_cons_succ])
            refine wpAnyH_take (i := 1) (oi := { dst := some 27, op := Op.move (Operand.tmp 26), type := 4, pos := "l08_change.go:96", after := #[{ on := 0, ground := Ground.data }], guard := none }) (v := ?_) rfl (by kernel_rfl) (by kernel_rfl) (by kernel_rfl) (fun _ _ _ h => h) (Or.inl ⟨by rfl, ?_⟩) (by assumption) ?_
            rotate_left
            · intro w hSw; (try dsimp only at hSw); go_simp; (try with_reducible rfl)
            (try simp only [Act.put, List.setIfInBounds_toArray, List.set_cons_zero, List.set_cons_succ])
            refine wpAnyH_take (i := 2) (oi := { dst := some 28, op := Op.move (Operand.tmp 0), type := 24, pos := "l08_change.go:96", after := #[{ on := 1, ground := Ground.guard }], guard := some (1, true) }) (v := undef) rfl (by kernel_rfl) (by kernel_rfl) (by kernel_rfl) (fun _ _ _ h => h) (Or.inr ⟨by rfl, rfl⟩) (by assumption) ?_
            (try simp only [Act.put, List.setIfInBounds_toArray, List.set_cons_zero, List.set_cons_succ])
            refine wpAnyH_take (i := 3) (oi := { dst := some 29, op := Op.move (Operand.tmp 6), type := 3, pos := "l08_change.go:96", after := #[{ on := 1, ground := Ground.guard }], guard := some (1, true) }) (v := undef) rfl (by kernel_rfl) (by kernel_rfl) (by kernel_rfl) (fun _ _ _ h => h) (Or.inr ⟨by rfl, rfl⟩) (by assumption) ?_
            (try simp only [Act.put, List.setIfInBounds_toArray, List.set_cons_zero, List.set_cons_succ])
            refine wpAnyH_take (i := 4) (oi := { dst := some 30, op := Op.indexAddr 24 (Operand.tmp 28) (Operand.tmp 29), type := 0, pos := "l08_change.go:96", after := #[{ on := 2, ground := Ground.data }, { on := 3, ground := Ground.data }, { on := 1, ground := Ground.guard }], guard := some (1, true) }) (v := undef) rfl (by kernel_rfl) (by kernel_rfl) (by kernel_rfl) (fun _ _ _ h => h) (Or.inr ⟨by rfl, rfl⟩) (by assumption) ?_
            (try simp only [Act.put, List.setIfInBounds_toArray, List.set_cons_zero, List.set_cons_succ])
            refine wpAnyH_take (i := 5) (oi := { dst := some 31, op := Op.fieldAddr 74 (Operand.tmp 30) 2, type := 0, pos := "l08_change.go:96", after := #[{ on := 4, ground := Ground.data }, { on := 1, ground := Ground.guard }], guard := some (1, true) }) (v := undef) rfl (by kernel_rfl) (by kernel_rfl) (by kernel_rfl) (fun _ _ _ h => h) (Or.inr ⟨by rfl, rfl⟩) (by assumption) ?_
            (try simp only [Act.put, List.setIfInBounds_toArray, List.set_cons_zero, List.set_cons_succ])
            refine wpAnyH_take (i := 6) (oi := { dst := some 32, op := Op.load 9 (Operand.tmp 31), type := 9, pos := "l08_change.go:96", after := #[{ on := 5, ground := Ground.data }, { on := 1, ground := Ground.guard }], guard := some (1, true) }) (v := undef) rfl (by kernel_rfl) (by kernel_rfl) (by kernel_rfl) (fun _ _ _ h => h) (Or.inr ⟨by rfl, rfl⟩) (by assumption) ?_
            (try simp only [Act.put, List.setIfInBounds_toArray, List.set_cons_zero, List.set_cons_succ])
            refine wpAnyH_take (i := 7) (oi := { dst := some 33, op := Op.move (Operand.tmp 0), type := 24, pos := "l08_change.go:96", after := #[{ on := 1, ground := Ground.guard }], guard := some (1, true) }) (v := undef) rfl (by kernel_rfl) (by kernel_rfl) (by kernel_rfl) (fun _ _ _ h => h) (Or.inr ⟨by rfl, rfl⟩) (by assumption) ?_
            (try simp only [Act.put, List.setIfInBounds_toArray, List.set_cons_zero, List.set_cons_succ])
            refine wpAnyH_take (i := 8) (oi := { dst := some 34, op := Op.move (Operand.tmp 4), type := 3, pos := "l08_change.go:96", after := #[{ on := 1, ground := Ground.guard }], guard := some (1, true) }) (v := undef) rfl (by kernel_rfl) (by kernel_rfl) (by kernel_rfl) (fun _ _ _ h => h) (Or.inr ⟨by rfl, rfl⟩) (by assumption) ?_
            (try simp only [Act.put, List.setIfInBounds_toArray, List.set_cons_zero, List.set_cons_succ])
            refine wpAnyH_take (i := 9) (oi := { dst := some 35, op := Op.indexAddr 24 (Operand.tmp 33) (Operand.tmp 34), type := 0, pos := "l08_change.go:96", after := #[{ on := 7, ground := Ground.data }, { on := 8, ground := Ground.data }, { on := 1, ground := Ground.guard }], guard := some (1, true) }) (v := undef) rfl (by kernel_rfl) (by kernel_rfl) (by kernel_rfl) (fun _ _ _ h => h) (Or.inr ⟨by rfl, rfl⟩) (by assumption) ?_
            (try simp only [Act.put, List.setIfInBounds_toArray, List.set_cons_zero, List.set_cons_succ])
            refine wpAnyH_take (i := 10) (oi := { dst := some 36, op := Op.fieldAddr 74 (Operand.tmp 35) 2, type := 0, pos := "l08_change.go:96", after := #[{ on := 9, ground := Ground.data }, { on := 1, ground := Ground.guard }], guard := some (1, true) }) (v := undef) rfl (by kernel_rfl) (by kernel_rfl) (by kernel_rfl) (fun _ _ _ h => h) (Or.inr ⟨by rfl, rfl⟩) (by assumption) ?_
            (try simp only [Act.put, List.setIfInBounds_toArray, List.set_cons_zero, List.set_cons_succ])
            refine wpAnyH_take (i := 11) (oi := { dst := some 37, op := Op.load 9 (Operand.tmp 36), type := 9, pos := "l08_change.go:96", after := #[{ on := 10, ground := Ground.data }, { on := 1, ground := Ground.guard }], guard := some (1, true) }) (v := undef) rfl (by kernel_rfl) (by kernel_rfl) (by kernel_rfl) (fun _ _ _ h => h) (Or.inr ⟨by rfl, rfl⟩) (by assumption) ?_
            (try simp only [Act.put, List.setIfInBounds_toArray, List.set_cons_zero, List.set_cons_succ])
            refine wpAnyH_take (i := 12) (oi := { dst := some 38, op := Op.binOp BinOp.neq 9 (Operand.tmp 32) (Operand.tmp 37) 9, type := 4, pos := "l08_change.go:96", after := #[{ on := 6, ground := Ground.data }, { on := 11, ground := Ground.data }, { on := 1, ground := Ground.guard }], guard := some (1, true) }) (v := undef) rfl (by kernel_rfl) (by kernel_rfl) (by kernel_rfl) (fun _ _ _ h => h) (Or.inr ⟨by rfl, rfl⟩) (by assumption) ?_
            (try simp only [Act.put, List.setIfInBounds_toArray, List.set_cons_zero, List.set_cons_succ])
            refine wpAnyH_take (i := 13) (oi := { dst := some 39, op := Op.pick (Operand.tmp 27) (Operand.tmp 38) (Operand.const (Value.bool false)), type := 4, pos := "l08_change.go:96", after := #[{ on := 1, ground := Ground.data }, { on := 12, ground := Ground.data }], guard := none }) (v := ?_) rfl (by kernel_rfl) (by kernel_rfl) (by kernel_rfl) (fun _ _ _ h => h) (Or.inl ⟨by rfl, ?_⟩) (by assumption) ?_
            rotate_left
            · intro w hSw; (try dsimp only at hSw); go_simp; (try with_reducible rfl)
            (try simp only [Act.put, List.setIfInBounds_toArray, List.set_cons_zero, List.set_cons_succ])
            refine wpAnyH_take (i := 14) (oi := { dst := some 5, op := Op.assign (Operand.tmp 39), type := 4, pos := "l08_change.go:96", after := #[{ on := 13, ground := Ground.data }, { on := 1, ground := Ground.chain }, { on := 0, ground := Ground.phase }, { on := 1, ground := Ground.phase }, { on := 2, ground := Ground.phase }, { on := 3, ground := Ground.phase }, { on := 4, ground := Ground.phase }, { on := 5, ground := Ground.phase }, { on := 6, ground := Ground.phase }, { on := 7, ground := Ground.phase }, { on := 8, ground := Ground.phase }, { on := 9, ground := Ground.phase }, { on := 10, ground := Ground.phase }, { on := 11, ground := Ground.phase }, { on := 12, ground := Ground.phase }, { on := 13, ground := Ground.phase }], guard := none }) (v := ?_) rfl (by kernel_rfl) (by kernel_rfl) (by kernel_rfl) (fun _ _ _ h => h) (Or.inl ⟨by rfl, ?_⟩) (by assumption) ?_
            rotate_left
            · intro w hSw; (try dsimp only at hSw); go_simp; (try with_reducible rfl)
            (try simp only [Act.put, List.setIfInBounds_toArray, List.set_cons_zero, List.set_cons_succ])
            refine wpAnyH_done (by kernel_rfl) ?_ _
            clear SK
            have hqd : Below wo.heap.size wo wr.drew := hq.drew
            clear BD hHeld jc2 kc2
            go_wp2
            go_roundw
            case rel => exact ⟨j + 1, by omega, by omega, by go_num, by rw [HM.out]; rfl, hqd⟩
            case measure => simp [intOf]; omega
        · have hj : j = d.length := by omega
          have HL : Hid (((d.drop (k + 1)).take (j - (k + 1))).any (conB a2) = (d.drop (k + 1)).any (conB a2)) := Lib.hid (by rw [List.take_of_length_le (by rw [List.length_drop]; omega)])
          subst hj
          rw [HL.out]
          clear HL
          generalize (d.drop (k + 1)).any (conB a2) = r at *
          generalize lastTo d k = pre at *
          cases r
          · have hnt : (!false) = true := rfl
            have hca : d.length ≤ ca := HAk.out.cap.2.1
            have g5 : (k : Int) + 1 ≤ (ca : Int) := by omega
            have g6 : (0 : Int) ≤ (k : Int) + 1 := by omega
            have g7 : ¬ ca = k := by omega
            have g8 : k + 1 - k = 1 := by omega
            have g9 : ((k : Int) + 1).toNat = k + 1 := by omega
            have g10 : k ≤ k + 1 := by omega
            have HT2 : Hid (lastTo d (k + 1) = pre ++ [(a0, a1, a2, (a3, a4))]) := Lib.hid (by rw [HT.out]; rfl)
            have HLs : Hid (Calls Try.prog 36 #[.slice (some ⟨b, off + k * 5, none⟩) 1 (ca - k)] wr fun e w' => (∃ u, e = .returned u ∧ SlOwn changeE (Fresh wr w') w' [(a0, a1, a2, (a3, a4))] u ∧ ∃ xs, w'.ownsRow wr.heap.size 74 5 u 1 xs) ∧ Below wr.heap.size wr w') := Lib.hid (by
              have h1 := chOne (HAk.out.frame (Same.of_below' hq)) hlt (c := ca - k) (by omega)
              have h2 := HZ.out _ (List.getElem_mem hlt)
              rw [HX.out] at h1 h2
              exact l08List_row _ _ wr h1 (by show 1 + szL changeE [(a0, a1, a2, (a3, a4))] ≤ 1048576; rw [szL_cons]; have : szL changeE ([] : List ChangeT) = 0 := rfl; omega))
            have b2 := hbel.trans (hq.mono hbel.size)
            have hs2 := hbel.size
            go_wp2_with fail
            refine HLs.out.mono ?_
            rintro e w3 ⟨⟨u, rfl, hown, _⟩, hb⟩
            obtain ⟨g, cap, Sr, cs, rfl, hgc, hSg, hnSr, hSrS, _, hrow, hxown⟩ := hown.open (i := 0) (by simp)
            have hcl : cs.length = 1 * 5 := changeE.ownLen hxown
            have hone := change_one (changeE.ownAt hxown)
            have hnews := news_row hrow
            have D3 := Lib.hid (hq.trans (hb.mono hq.size))
            have Q3 := Lib.hid (Enc.ownWide _ hxown (fun b h => (⟨Nat.le_trans hq.size (hSrS b h).1, (hSrS b h).2⟩ : Fresh wo w3 b)))
            have b3 := b2.trans (hb.mono b2.size)
            have R3 := Lib.hid (HG.out.below D3.out).row
            have hs3 := D3.out.size
            have hB3 : w.heap.size ≤ w3.heap.size := b3.size
            have hmx : pre.length + 1 ≤ maxLen := by have := hrl2.out; unfold maxLen; omega
            have hby : (pre.length + 1) * 80 ≤ 140737488355328 := by have := hrl2.out; omega
            obtain ⟨i0, hi, hz0, hz1, hz2⟩ := info_parts Try.infoTChange
            clear hown hb hrow hxown HLs hSg hnSr hSrS hgc
            go_wp2_with (first
              | (at_builtin; refine wpList_append_lies _ rfl _ _ 24 rfl w.heap.size 74 i0 _ 5 80 Try.underlying24 hi hz0 hz1 hz2 rfl (by decide) _ pre.length xs rfl R3.out ⟨g, 0, none⟩ 1 cap cs rfl hcl hnews hone (by omega) hmx hby hB3 w3.heap.size rfl ?_; intro g' cap' w5 h1 h2 h3 _)
              | (fail "none"))
            have HG5 : Hid (Grow changeE 74 w.heap.size w5 (.slice (some ⟨g', 0, none⟩) (pre.length + 1) cap') (pre ++ [(a0, a1, a2, (a3, a4))]) (xs ++ cs)) := Lib.hid (Grow.step HG.out hs2 D3.out Q3.out (Below.refl _ _) h1 h2 (fun g1 hg1 => by
              have e : g' = g1 := by simpa [Value.ownBlock] using hg1
              subst e
              rcases h3 with h | h
              · exact .inl h
              · exact .inr (by omega)))
            have B5 : Below w.heap.size w w5 := b3.grown h2 (by omega) (fun r hr => by have := (R3.out.lt r hr).1; omega)
            clear h1 h2 h3 R3
            go_wp2
            go_roundw
            case rel => exact ⟨k + 1, by omega, by go_num, ⟨_, by rw [HT2.out]; exact HG5.out⟩, B5⟩
            case measure => simp [intOf]; omega
          · have hnt : (!true) = false := rfl
            have HT2 : Hid (lastTo d (k + 1) = pre) := Lib.hid (by rw [HT.out]; simp)
            have HG2 := Lib.hid (HG.out.below hq)
            have b2 := hbel.trans (hq.mono hbel.size)
            go_wp2
            go_roundw
            case rel => exact ⟨k + 1, by omega, by go_num, ⟨xs, by rw [HT2.out]; exact HG2.out⟩, b2⟩
            case measure => simp [intOf]; omega
    · obtain rfl : k = d.length := by omega
      have HO : Hid (SlOwn changeE (Fresh w wr) wr (latestR d) (.slice p7 n7 q7)) := Lib.hid (by rw [HRR.out]; exact HG.out.own)
      go_wp2
      go_ret
      exact ⟨⟨_, rfl, HO.out⟩, hbel⟩
end Go.Proofs.Ytmanlnlhpgdbpaa
/- The helpers of the laws: sizes. -/
namespace Go.Proofs.Ytmanlnlhpgdbpaa
open Go.RowKit
attribute [local go_sem ↓] Go.wp_at_zero Go.wp_at_succ

set_option maxRecDepth 100000 in
set_option maxHeartbeats 4000000 in
theorem szRdn_at  (a0 : ByteArray) (a1 : ByteArray)  (left : Int) (w : World)  (hl : rdnE.long (a0, a1)) (g0 : 0 ≤ left) (g1 : left ≤ 1048576) :
    Calls Try.prog 122 #[.agg #[.string a0, .string a1], .int .i64 left] w fun e w' => e = .returned (.int .i64 (leftR (rdnE.sz (a0, a1)) left)) ∧ Below w.heap.size w w' := by
  have HE : Hid (rdnE.sz (a0, a1) = a0.size + (a1.size)) := Lib.hid rfl
  have z0 : a0.size ≤ 9223372036854775807 := by have := hl.1; simp only [strE, maxLen] at this; omega
  have z1 : a1.size ≤ 9223372036854775807 := by have := hl.2; simp only [strE, maxLen] at this; omega
  clear hl
  generalize rdnE.sz (a0, a1) = z at *
  by_cases g2 : (a0.size : Int) ≤ left
  · have c0 : ¬ left - (a0.size : Int) < 0 := by omega
    by_cases g3 : (a1.size : Int) ≤ left - (a0.size : Int)
    · have c1 : ¬ left - (a0.size : Int) - (a1.size : Int) < 0 := by omega
      have HR : Hid (leftR z left = left - (a0.size : Int) - (a1.size : Int)) := Lib.hid (by rw [leftR_pos (by rw [HE.out]; omega), HE.out]; omega)
      go_enter Try.func122, Try.ntmps122
      go_wp2
      go_ret
      exact ⟨ret_int (by rw [HR.out]), (Below.refl _ _).alloc (Nat.le_refl _) _⟩
    · have c1 : left - (a0.size : Int) - (a1.size : Int) < 0 := by omega
      have HR : Hid (leftR z left = -1) := Lib.hid (leftR_neg (by rw [HE.out]; omega))
      go_enter Try.func122, Try.ntmps122
      go_wp2
      go_ret
      exact ⟨ret_int (by rw [HR.out]), (Below.refl _ _).alloc (Nat.le_refl _) _⟩
  · have c0 : left - (a0.size : Int) < 0 := by omega
    have HR : Hid (leftR z left = -1) := Lib.hid (leftR_neg (by rw [HE.out]; omega))
    go_enter Try.func122, Try.ntmps122
    go_wp2
    go_ret
    exact ⟨ret_int (by rw [HR.out]), (Below.refl _ _).alloc (Nat.le_refl _) _⟩
set_option maxRecDepth 100000 in
set_option maxHeartbeats 4000000 in
theorem szRdnS_at {S : Bs} (v : Value) (d : List RdnT) (left : Int) (w : World) (hd : SlAt rdnE S w d v) (hf : (slE rdnE).long d) (h0 : 0 ≤ left) (h1 : left ≤ 1048576) :
    Calls Try.prog 98 #[v, .int .i64 left] w fun e w' => e = .returned (.int .i64 (leftR (d.length + szL rdnE d) left)) ∧ Below w.heap.size w w' := by
  obtain ⟨ao, cap, rfl⟩ := hd.sl
  have hl : d.length ≤ 9223372036854775807 := hf.1
  have HD := Lib.hid hd; have HF := Lib.hid hf; clear hd hf
  by_cases g : (d.length : Int) ≤ left
  · have c1 : ¬ left - (d.length : Int) < 0 := by omega
    go_enter Try.func98, Try.ntmps98
    go_wp2
    go_loopw [1, 5] (fun t i wr => ∃ k : Nat, k ≤ d.length ∧ i = .int .i64 k ∧ ((d.length + szL rdnE (d.take k) : Nat) : Int) ≤ left ∧ t = .int .i64 (left - (d.length + szL rdnE (d.take k) : Nat)) ∧ Below w.heap.size w wr) (fun _ i _ => d.length - (intOf i).toNat)
    case atStart => exact ⟨0, Nat.zero_le _, rfl, by simp [szL]; omega, by simp [szL], Below.refl _ _⟩
    case round =>
      clear c1
      obtain ⟨k, hk, rfl, hle, rfl, hbel⟩ := hrel
      have hsz := hbel.size
      by_cases hlt : k < d.length
      · obtain ⟨b, off, a0, a1, rfl, _, hb0, hx, ⟨hc0, hc1⟩, _⟩ := rdn_row (HD.out.frame (Same.of_below' hbel)) hlt
        have HZ : Hid (rdnE.long (a0, a1)) := Lib.hid (by have := HF.out.2 _ (List.getElem_mem hlt); rw [hx] at this; exact this)
        have HT : Hid (szL rdnE (d.take (k + 1)) = szL rdnE (d.take k) + rdnE.sz (a0, a1)) := Lib.hid (by rw [szL_take rdnE d k hlt, hx])
        have HTl := Lib.hid (szL_le rdnE d (k + 1))
        clear hx
        generalize hq : d.length + szL rdnE (d.take k) = q at *
        have Hq := Lib.hid hq; clear hq
        have HC := Lib.hid (szRdn_at a0 a1 (left - (q : Int)) wr  HZ.out (by omega) (by omega))
        generalize rdnE.sz (a0, a1) = r at *
        go_wp2_with fail
        refine HC.out.mono ?_
        rintro e w2 ⟨rfl, hb2⟩
        have B2 := Lib.hid (hbel.trans (hb2.mono hsz)); clear hb2
        by_cases hfit : (r : Int) ≤ left - (q : Int)
        · rw [leftR_pos hfit]
          have c2 : ¬ left - (q : Int) - (r : Int) < 0 := by omega
          go_wp2
          go_roundw
          case rel =>
            have e := HT.out
            have e3 := Hq.out
            exact ⟨k + 1, by omega, by go_num, by omega, by rw [e]; congr 1; omega, B2.out⟩
          case measure => simp [intOf]; omega
        · rw [leftR_neg hfit]
          have HR : Hid (leftR (d.length + szL rdnE d) left = -1) := Lib.hid (leftR_neg (by
            have := HT.out; have := HTl.out; have := Hq.out; omega))
          go_wp2
          go_ret
          exact ⟨ret_int (by rw [HR.out]), B2.out⟩
      · have HR : Hid (leftR (d.length + szL rdnE d) left = left - (d.length + szL rdnE (d.take k) : Nat)) := Lib.hid (by
          rw [List.take_of_length_le (by omega)] at hle ⊢
          exact leftR_pos hle)
        go_wp2
        go_ret
        exact ⟨ret_int (by rw [HR.out]), hbel⟩
  · have HR : Hid (leftR (d.length + szL rdnE d) left = -1) := Lib.hid (leftR_neg (by omega))
    have c1 : left - (d.length : Int) < 0 := by omega
    go_enter Try.func98, Try.ntmps98
    go_wp2
    go_ret
    exact ⟨ret_int (by rw [HR.out]), Below.refl _ _⟩
end Go.Proofs.Ytmanlnlhpgdbpaa
/- The helpers of the laws: sizes. -/
namespace Go.Proofs.Ytmanlnlhpgdbpaa
open Go.RowKit
attribute [local go_sem ↓] Go.wp_at_zero Go.wp_at_succ

set_option maxRecDepth 100000 in
set_option maxHeartbeats 4000000 in
theorem szStringS_at {S : Bs} (v : Value) (d : List ByteArray) (left : Int) (w : World) (hd : SlAt strE S w d v) (hf : (slE strE).long d) (h0 : 0 ≤ left) (h1 : left ≤ 1048576) :
    Calls Try.prog 138 #[v, .int .i64 left] w fun e w' => e = .returned (.int .i64 (leftR (d.length + szL strE d) left)) ∧ Below w.heap.size w w' := by
  obtain ⟨ao, cap, rfl⟩ := hd.sl
  have hl : d.length ≤ 9223372036854775807 := hf.1
  have HD := Lib.hid hd; have HF := Lib.hid hf; clear hd hf
  by_cases g : (d.length : Int) ≤ left
  · have c1 : ¬ left - (d.length : Int) < 0 := by omega
    go_enter Try.func138, Try.ntmps138
    go_wp2
    go_loopw [1, 5] (fun t i wr => ∃ k : Nat, k ≤ d.length ∧ i = .int .i64 k ∧ ((d.length + szL strE (d.take k) : Nat) : Int) ≤ left ∧ t = .int .i64 (left - (d.length + szL strE (d.take k) : Nat)) ∧ Below w.heap.size w wr) (fun _ i _ => d.length - (intOf i).toNat)
    case atStart => exact ⟨0, Nat.zero_le _, rfl, by simp [szL]; omega, by simp [szL], Below.refl _ _⟩
    case round =>
      clear c1
      obtain ⟨k, hk, rfl, hle, rfl, hbel⟩ := hrel
      have hsz := hbel.size
      by_cases hlt : k < d.length
      · obtain ⟨b, off, A, rfl, _, hb0, hx, hc1⟩ := str_row (HD.out.frame (Same.of_below' hbel)) hlt
        have hz : A.size ≤ maxLen := by have := HF.out.2 _ (List.getElem_mem hlt); rw [hx] at this; exact this
        unfold maxLen at hz
        have HT : Hid (szL strE (d.take (k + 1)) = szL strE (d.take k) + A.size) := Lib.hid (by rw [szL_take strE d k hlt, hx]; rfl)
        have HTl := Lib.hid (szL_le strE d (k + 1))
        clear hx
        generalize hq : d.length + szL strE (d.take k) = q at *
        have Hq := Lib.hid hq; clear hq
        by_cases hfit : ((A.size : Nat) : Int) ≤ left - (q : Int)
        · have c2 : ¬ left - (q : Int) - (A.size : Int) < 0 := by omega
          go_wp2
          go_roundw
          case rel =>
            have e := HT.out
            have e3 := Hq.out
            exact ⟨k + 1, by omega, by go_num, by omega, by rw [e]; congr 1; omega, hbel⟩
          case measure => simp [intOf]; omega
        · have c2 : left - (q : Int) - (A.size : Int) < 0 := by omega
          have HR : Hid (leftR (d.length + szL strE d) left = -1) := Lib.hid (leftR_neg (by
            have := HT.out; have := HTl.out; have := Hq.out; omega))
          go_wp2
          go_ret
          exact ⟨ret_int (by rw [HR.out]), hbel⟩
      · have HR : Hid (leftR (d.length + szL strE d) left = left - (d.length + szL strE (d.take k) : Nat)) := Lib.hid (by
          rw [List.take_of_length_le (by omega)] at hle ⊢
          exact leftR_pos hle)
        go_wp2
        go_ret
        exact ⟨ret_int (by rw [HR.out]), hbel⟩
  · have HR : Hid (leftR (d.length + szL strE d) left = -1) := Lib.hid (leftR_neg (by omega))
    have c1 : left - (d.length : Int) < 0 := by omega
    go_enter Try.func138, Try.ntmps138
    go_wp2
    go_ret
    exact ⟨ret_int (by rw [HR.out]), Below.refl _ _⟩
end Go.Proofs.Ytmanlnlhpgdbpaa
