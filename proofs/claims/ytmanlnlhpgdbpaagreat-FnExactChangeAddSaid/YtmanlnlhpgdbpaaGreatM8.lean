/- Merged texts: VwS00, L3c, L8, MemL. -/
import Derived.Test.YtmanlnlhpgdbpaaGreatM7
import Derived.Test.YtmanlnlhpgdbpaaGreatM6
import Derived.Test.YtmanlnlhpgdbpaaGreatM3
import Derived.Test.YtmanlnlhpgdbpaaGreatM1
import Derived.Deep.RegionHeld
/- Copies by the specification: the steps. -/
namespace Go.Proofs.YtmanlnlhpgdbpaaGreat
open Go.RowKit
attribute [local go_sem ↓] Go.wp_at_zero Go.wp_at_succ

theorem own_zeroD (w : World) {B g : Nat} (hg : g = w.heap.size) (hB : B ≤ g) : (w.alloc (.cells #[] 77)).ownsRow B 77 2 (.slice (some ⟨g, 0, none⟩) 0 0) 0 (rs []) := by
  subst hg
  exact ⟨rfl, .inr ⟨w.heap.size, 0, #[], rfl, hB, heap_alloc_new w _, by simp, by unfold maxLen; simp, rfl, rfl⟩⟩
theorem grown_set (w : World) (R j : Nat) (x : Value) : w.grownBy (w.setCell ⟨R, j, none⟩ x) (some R) :=
  ⟨rfl, rfl, rfl, by rw [setCell_size]; exact Nat.le_refl _, fun k hk hne => Below.heap_setCell _ _ _ _ (fun e => hne (by rw [show R = k from e.symm]))⟩
theorem own_cellOut {w : World} {B e z n R j : Nat} {v x : Value} {xs : List Value} (h : w.ownsRow B e z v n xs) (hR : R < B) : (w.setCell ⟨R, j, none⟩ x).ownsRow B e z v n xs := by
  refine h.kept (grown_set w R j x) ?_
  cases hu : v.ownBlock with
  | none => exact .inl rfl
  | some g =>
    right
    intro e
    injection e with e
    have := (h.lt g hu).1
    omega
theorem Grow.cellOut {α : Type} {e : Enc α} {T : TypeId} {B R j : Nat} {w : World} {v x : Value} {l : List α} {xs : List Value} (h : Grow e T B w v l xs) (hR : R < B) : Grow e T B (w.setCell ⟨R, j, none⟩ x) v l xs := by
  obtain ⟨hr, P, h1, h2, h3⟩ := h
  refine ⟨own_cellOut hr hR, P, fun i hi => ⟨fun b hx => ⟨((h1 i hi).1 b hx).1, by rw [setCell_size]; exact ((h1 i hi).1 b hx).2⟩, (h1 i hi).2⟩, h2, fun i hi => ?_⟩
  obtain ⟨cs, q1, q2⟩ := h3 i hi
  exact ⟨cs, q1, e.ownFrame q2 (Same.set _ j x (fun hx => by have := ((h1 i hi).1 R hx).1; omega))⟩
theorem Blk.low {w w' : World} {g N : Nat} {cs : List Value} (h : Blk w g cs) (hb : Below N w w') (hg : g < N) : Blk w' g cs := by
  obtain ⟨T, ht⟩ := h
  exact ⟨T, (hb.block g hg).trans ht⟩
section
variable {ops : Array Oper} {o : Oper} {a : Act} {Q : Exit → Act → World → Prop} {K : Act → World → Prop} {E : Prop} {w3 : World}
/-- append([]string{}, texts...) in a drawn region -/
theorem step_texts (B : Nat) (hgd : o.guard = none) (s x : Operand)
    (ho : o.op = .call { callee := .builtin .append, args := #[s, x], argTypes := #[94, 94] }) (v : Value) (hs : a.eval s = v) (hown : w3.ownsRow B 9 1 v 0 [])
    (ao : Option Addr) (d : List ByteArray) (c : Nat) (hx : a.eval x = .slice ao d.length c) (hd : StrsAt w3 ao d) (hc : ao = none → c = 0) (hlen : d.length ≤ 1000000000) (hB : B ≤ w3.heap.size)
    (h : ∀ v' w', w'.ownsRow B 9 1 v' d.length (d.map Value.string) → w3.grownBy w' v.ownBlock → K (a.put o.dst v') w') :
    if Region.wanted o (yielded ops a.tmps) = true then Oper.wp Tryz.prog o a w3 K Q else E := by
  have hw : Region.wanted o (yielded ops a.tmps) = true := by simp [Region.wanted, hgd]
  rw [if_pos hw]
  obtain ⟨i0, hi, hz0, hz1, hz2⟩ := info_parts Tryz.info9
  rcases ao with _ | ad
  · have hd0 : d = [] := by
      rcases hd with h | ⟨b, off, e, _⟩
      · exact h
      · cases e
    subst hd0
    have := hc rfl
    subst this
    have hrun := run_append_owned_none (P := Tryz.prog) (w := w3) B 94 o.type 9 i0 1 Tryz.underlying94 hi v 0 [] hown
    unfold Oper.wp execOp
    simp only [ho, resolve, invoke, builtin, Sem.run_bind, Sem.run_pure, Result.andThen_ok, List.map_toArray, List.map_cons, List.map_nil, hs, hx]
    erw [hrun]
    exact h v w3 hown ⟨rfl, rfl, rfl, Nat.le_refl _, fun _ _ _ => rfl⟩
  · have hnews : ∀ j u, (d.map Value.string)[j]? = some u → w3.cell? (ad.add j) = some u := by
      rcases hd with hd | ⟨b, off, e, h2, h3⟩
      · subst hd; intro j u hu; simp at hu
      · cases e
        intro j u hu
        have ea : (⟨b, off, none⟩ : Addr).add j = ⟨b, off + j, none⟩ := by unfold Addr.add; split <;> simp_all
        rw [ea]
        rw [List.getElem?_map] at hu
        by_cases hj : j < d.length
        · rw [List.getElem?_eq_getElem hj] at hu
          cases hu
          exact h3 j hj
        · rw [List.getElem?_eq_none (by omega)] at hu; cases hu
    refine wp_append_own _ s x 94 ho B 9 i0 _ 1 16 Tryz.underlying94 hi hz0 hz1 hz2 rfl (by decide) v 0 [] hs hown ad d.length c (d.map Value.string) hx (by simp) hnews (by intro u hu; obtain ⟨t, _, rfl⟩ := List.mem_map.1 hu; rfl) ?_ ?_ hB ?_
    · unfold maxLen; omega
    · omega
    · intro v' w' h1 h2 h3
      rw [Nat.zero_add] at h1
      exact h v' w' h1 h2
/-- append(attrs, x) in a drawn region -/
theorem step_attr (B : Nat) (hgd : o.guard = none) (s x : Operand)
    (ho : o.op = .call { callee := .builtin .append, args := #[s, x], argTypes := #[44, 44] }) (v : Value) (n : Nat) (xs : List Value) (hs : a.eval s = v) (hown : w3.ownsRow B 109 2 v n xs)
    (A : ByteArray) (p : Option Addr) (m c : Nat) (hx : a.eval x = .slice (some ⟨w3.heap.size, 0, none⟩) 1 1) (hlen : n ≤ 100000000) (hB : B ≤ w3.heap.size)
    (h : ∀ g cap w', w'.ownsRow B 109 2 (.slice (some ⟨g, 0, none⟩) (n + 1) cap) (n + 1) (xs ++ [.string A, .slice p m c]) → (w3.alloc (.cells #[.string A, .slice p m c] 109)).grownBy w' v.ownBlock → (v.ownBlock = some g ∨ g = w3.heap.size + 1) → K (a.put o.dst (.slice (some ⟨g, 0, none⟩) (n + 1) cap)) w') :
    if Region.wanted o (yielded ops a.tmps) = true then Oper.wp Tryz.prog o a (w3.alloc (.cells #[.string A, .slice p m c] 109)) K Q else E := by
  obtain ⟨i0, hi, hz0, hz1, hz2⟩ := info_parts Tryz.infoTAttr
  refine step_append_lies _ hgd s x 44 ho B 109 i0 _ 2 40 Tryz.underlying44 hi hz0 hz1 hz2 rfl (by decide) v n xs hs (hown.alloc _) ⟨w3.heap.size, 0, none⟩ 1 1 [.string A, .slice p m c] hx rfl (World.news_of_block (cs := #[.string A, .slice p m c]) (t := 109) (fr := (0, 0)) (heap_alloc_new _ _)) ?_ (by omega) ?_ ?_ ?_ (w3.heap.size + 1) (by simp) ?_
  · intro u hu; simp at hu; rcases hu with rfl | rfl <;> rfl
  · unfold maxLen; omega
  · omega
  · simp; omega
  · intro g cap w' h1 h2 h3 _
    exact h g cap w' h1 h2 h3
end
section
variable {ops : Array Oper} {rest : List Oper} {o : Oper} {a : Act} {Q : Exit → Act → World → Prop} {W : World}
/-- append([]Rdn{}, dn...) -/
theorem app_dn0 (N : Nat) (hgd : o.guard = none) (s x : Operand)
    (ho : o.op = .call { callee := .builtin .append, args := #[s, x], argTypes := #[42, 42] }) (hs : a.eval s = .slice (some ⟨N, 0, none⟩) 0 0)
    (ao : Option Addr) (d : RdnL) (c n : Nat) (hn : n = d.length) (hx : a.eval x = .slice ao n c) (hd : DnAt W ao d) (hc : ao = none → c = 0) (hlen : ([] : RdnL).length + d.length ≤ 1000000000) (hN : N = W.heap.size)
    (h : ∀ v' w', w'.ownsRow N 77 2 v' d.length (rs d) → Below W.heap.size W w' → N ≤ w'.heap.size → wpList Tryz.prog ops Q rest (a.put o.dst v') w') :
    wpList Tryz.prog ops Q (o :: rest) a (W.alloc (.cells #[] 77)) := by
  subst hN
  have B0 : Below W.heap.size W (W.alloc (.cells #[] 77)) := more' (Below.refl _ _) _
  refine append_dn W.heap.size hgd s x ho _ [] hs (own_zeroD _ rfl (Nat.le_refl _)) ao d c n hn hx (hd.below B0) hc hlen B0.size B0 ?_
  intro v' w' h1 h2
  exact h v' w' h1 h2 h2.size
end
end Go.Proofs.YtmanlnlhpgdbpaaGreat
/- l03Copy: what the specification's text returns. -/
namespace Go.Proofs.YtmanlnlhpgdbpaaGreat
open Go.RowKit
attribute [local go_sem ↓] Go.wp_at_zero Go.wp_at_succ

set_option maxRecDepth 100000 in
set_option maxHeartbeats 4000000 in
theorem l03Copy_any {S : Bs} (dn : RdnL) (at_ : List AttrT) (dv av : Value) (w : World) (hd : SlAt rdnE S w dn dv) (ha : SlAt attrE S w at_ av) (hze : entryE.sz (dn, at_) ≤ 1048576) :
    Calls Tryz.prog 72 #[.agg #[dv, av]] w fun e w' => ∃ u0 u1, e = .returned (.agg #[u0, u1]) ∧ entryE.Own (Fresh w w') w' (dn, at_) [u0, u1] ∧ Below w.heap.size w w' := by
  have HE : entryE.sz (dn, at_) = (dn.length + szL rdnE dn) + (at_.length + szL attrE at_) := rfl
  rw [HE] at hze
  have hd0 := hd
  obtain ⟨o2, k2, rfl⟩ := hd.sl
  obtain ⟨o3, k3, rfl⟩ := ha.sl
  have HA := Lib.hid ha
  have HZ : Hid (∀ x ∈ at_, attrE.sz x ≤ 1048576) := Lib.hid (fun x h => by have h1 := szL_mem attrE h; omega)
  have HD : Hid (∀ W : World, Below w.heap.size w W → DnAt W o2 dn) := Lib.hid (fun W b => (dn_of hd0).below b)
  have hac : o2 = none → k2 = 0 := hd0.cap.2.2
  have hl : at_.length ≤ 1048576 := by omega
  have hdl : dn.length ≤ 1048576 := by omega
  clear hd hd0 ha hze HE
  have hlen : ([] : RdnL).length + dn.length ≤ 1000000000 := by simp; omega
  go_enter Tryz.func72, Tryz.ntmps72
  have W00 : Hid (∀ (C D : Array Value) (T : TypeId), C = #[.slice o2 dn.length k2, .slice o3 at_.length k3] → D = #[.slice none 0 0, .slice none 0 0] → Below w.heap.size w ((w.alloc (.cells C T)).alloc (.cells D T)) ∧ Blk ((w.alloc (.cells C T)).alloc (.cells D T)) w.heap.size [.slice o2 dn.length k2, .slice o3 at_.length k3] ∧ Blk ((w.alloc (.cells C T)).alloc (.cells D T)) (w.heap.size + 1) [.slice none 0 0, .slice none 0 0]) := Lib.hid (fun C D T hC hD => by subst hC hD; exact ⟨more' (more' (Below.refl _ _) _) _, (Blk.new _ _ _).alloc _, blk_at _ _ _ (by simp)⟩)
  go_wp2_with (first
    | (at_builtin; obtain ⟨b2, t2, r2⟩ := W00.out _ _ 46 rfl rfl; refine app_dn0 _ rfl _ _ rfl rfl o2 dn k2 _ rfl rfl (HD.out _ b2) hac hlen (by simp) ?_; intro v1 w1 hown1 hbel1 hR1; obtain ⟨d0, nn, dc, rfl⟩ := own_slice3' hown1)
    | (fail "none"))
  have T1 := Lib.hid (t2.below hbel1); have R1b := Lib.hid (r2.below hbel1)
  have b1 := b2.trans (hbel1.mono b2.size)
  have hR2 : w.heap.size + 1 + 1 ≤ w1.heap.size := hR1
  clear t2 r2 b2 hbel1 W00
  obtain ⟨d0', dc', e9, _⟩ := own_rdns hown1
  injection e9 with e1 e2 e3
  subst e1 e2 e3
  have OD := Lib.hid (own_rdns hown1)
  refine wp_world (fun W => Below w.heap.size w W ∧ Blk W w.heap.size [.slice o2 dn.length k2, .slice o3 at_.length k3] ∧ Blk W (w.heap.size + 1) [.slice none 0 0, .slice none 0 0] ∧ Blk W w1.heap.size [.slice d0 dn.length dc, .slice none 0 0] ∧ SlOwn rdnE (fun b => w.heap.size + 1 + 1 ≤ b ∧ b < w1.heap.size) W dn (.slice d0 dn.length dc)) ⟨more' b1 _, T1.out.alloc _, R1b.out.alloc _, Blk.new _ _ _, OD.out.frame (Same.of_below' (more' (Below.refl _ _) _))⟩ ?_
  clear OD hown1 T1 R1b b1
  generalize w1.heap.size = R at *
  rintro W ⟨hbW, t0, t1, t2, od⟩
  go_loopw [4] (fun i wr => ∃ (k : Nat) (p : Option Addr) (n c : Nat) (xs : List Value), k ≤ at_.length ∧ i = .int .i64 k ∧ Blk wr w.heap.size [.slice o2 dn.length k2, .slice o3 at_.length k3] ∧ Blk wr (w.heap.size + 1) [.slice none 0 0, .slice none 0 0] ∧ Blk wr R [.slice d0 dn.length dc, .slice p n c] ∧ Grow attrE 109 (R + 1) wr (.slice p n c) (at_.take k) xs ∧ SlOwn rdnE (fun b => w.heap.size + 1 + 1 ≤ b ∧ b < R) wr dn (.slice d0 dn.length dc) ∧ Below w.heap.size w wr) (fun i _ => at_.length - (intOf i).toNat)
  case atStart => exact ⟨0, none, 0, 0, [], Nat.zero_le _, rfl, t0, t1, t2, Grow.nil _ _ _ _, od, hbW⟩
  case round =>
    clear t0 t1 t2 od hbW
    obtain ⟨k, p, n, c, xs, hk, rfl, t0, t1, t2, hg, hod, hbel⟩ := hrel
    obtain ⟨_, _, e9, _⟩ := hg.own
    injection e9 with ep en ec
    subst ep; subst en; subst ec
    have HT0 := Lib.hid t0; have HT1 := Lib.hid t1; have HT2 := Lib.hid t2; have HG := Lib.hid hg; have HOD := Lib.hid hod; have HB := Lib.hid hbel
    have hRs : R < wr.heap.size := t2.lt
    have c0 := t0.cell 0 rfl
    have c1 := t0.cell 1 rfl
    clear t0 t1 t2 hg hod hbel
    by_cases hlt : k < at_.length
    · obtain ⟨b, off, a0, a1, v1, rfl, _, hb0, hx, ⟨hc0, hc1⟩, s1, _⟩ := attr_row HA.out hlt
      have HZ1 : Hid (attrE.sz (a0, a1) ≤ 1048576) := Lib.hid (by have := HZ.out _ (List.getElem_mem hlt); rw [hx] at this; exact this)
      have HT : Hid (at_.take (k + 1) = at_.take k ++ [(a0, a1)]) := Lib.hid (by rw [List.take_succ_eq_append_getElem hlt, hx])
      have HS3 := Lib.hid (s1.frame (Same.of_below' HB.out))
      obtain ⟨o4, k4, rfl⟩ := s1.sl
      clear s1 hx
      have hrl : Hid ((at_.take k).length ≤ 100000000) := Lib.hid (by rw [List.length_take]; omega)
      generalize at_.take k = pre at *
      have g1 : (0 : Int) ≤ (k : Int) := by omega
      have g2 : (k : Int) < (at_.length : Int) := by omega
      have hR3 : R < wr.heap.size := hRs
      have OZ : Hid ((wr.drew.alloc (.cells #[] 9)).ownsRow wr.heap.size 9 1 (.slice (some ⟨wr.heap.size, 0, none⟩) 0 0) 0 []) := Lib.hid ⟨rfl, .inr ⟨wr.heap.size, 0, #[], rfl, Nat.le_refl _, heap_alloc_new wr.drew _, by simp, by unfold maxLen; simp, rfl, rfl⟩⟩
      have BZ : Below wr.heap.size wr (wr.drew.alloc (.cells #[] 9)) := more' (Below.refl _ _).drew _
      have HSz : Hid (StrsAt (wr.drew.alloc (.cells #[] 9)) o4 a1) := Lib.hid (strs_of (HS3.out.frame (Same.of_below' BZ)))
      have hc4 : o4 = none → k4 = 0 := HS3.out.cap.2.2
      have hl1 : a1.length ≤ 1000000000 := by have h1 := HZ1.out; have h2 : attrE.sz (a0, a1) = a0.size + (a1.length + szL strE a1) := rfl; omega
      have hsz1 : wr.heap.size ≤ (wr.drew.alloc (.cells #[] 9)).heap.size := BZ.size
      have hbR : b < w.heap.size := hb0
      have SK1 : Hid (∀ Z' : World, Below R wr Z' → Z'.cell? ⟨w.heap.size, 0, none⟩ = some (.slice o2 dn.length k2) ∧ Z'.cell? ⟨w.heap.size, 1, none⟩ = some (.slice (some ⟨b, off, none⟩) at_.length k3) ∧ Z'.cell? ⟨b, off + k * 2, none⟩ = some (.string a0) ∧ Z'.cell? ⟨b, off + k * 2 + 1, none⟩ = some (.slice o4 a1.length k4)) := Lib.hid (fun Z' h => ⟨(h.cell (p := ⟨w.heap.size, 0, none⟩) (by show w.heap.size < R; omega)).trans c0, (h.cell (p := ⟨w.heap.size, 1, none⟩) (by show w.heap.size < R; omega)).trans c1, (h.cell (p := ⟨b, off + k * 2, none⟩) (by show b < R; omega)).trans ((HB.out.cell (p := ⟨b, off + k * 2, none⟩) hb0).trans hc0), (h.cell (p := ⟨b, off + k * 2 + 1, none⟩) (by show b < R; omega)).trans ((HB.out.cell (p := ⟨b, off + k * 2 + 1, none⟩) hb0).trans hc1)⟩)
      clear hc0 hc1 c0 c1
      have KP : Hid (∀ (L : Array Bool) (Z : World), Below (R + 1) wr Z → Until (fun Z' => Z'.cell? ⟨w.heap.size, 0, none⟩ = some (.slice o2 dn.length k2) ∧ Z'.cell? ⟨w.heap.size, 1, none⟩ = some (.slice (some ⟨b, off, none⟩) at_.length k3) ∧ Z'.cell? ⟨b, off + k * 2, none⟩ = some (.string a0) ∧ Z'.cell? ⟨b, off + k * 2 + 1, none⟩ = some (.slice o4 a1.length k4)) (fun Z => Z.cell? ⟨R, 1, none⟩ = some (.slice p pre.length c)) 20 L Z) :=
        Lib.hid (fun L Z h => ⟨SK1.out Z (h.mono (Nat.le_succ _)), fun _ => (HT2.out.low h (Nat.lt_succ_self _)).cell 1 rfl⟩)
      have hbd : Below (R + 1) wr wr.drew := (Below.refl _ _).drew
      have hbz8 : Below (R + 1) wr (wr.drew.alloc (.cells #[] 9)) := BZ.mono (by omega)
      have hRd : R + 1 ≤ wr.drew.heap.size := hR3
      have M0 := HT0.out.cell 1 rfl
      go_wp2_with fail
      refine wp_region_until (fun Z' => Z'.cell? ⟨w.heap.size, 0, none⟩ = some (.slice o2 dn.length k2) ∧ Z'.cell? ⟨w.heap.size, 1, none⟩ = some (.slice (some ⟨b, off, none⟩) at_.length k3) ∧ Z'.cell? ⟨b, off + k * 2, none⟩ = some (.string a0) ∧ Z'.cell? ⟨b, off + k * 2 + 1, none⟩ = some (.slice o4 a1.length k4)) (fun Z => Z.cell? ⟨R, 1, none⟩ = some (.slice p pre.length c)) 20 (by kernel_rfl) (KP.out #[] _ hbd).1 ((KP.out #[false, false, false, false, false, false, false, false, false, false, false, false, false, false, false, false, false, false, false, false, false] _ hbd).2 rfl) (fun hU => ?_)
      refine wpAnyL_take (i := 0) (oi := { dst := some 17, op := Op.fieldAddr 46 (Operand.tmp 3) 1, type := 0, pos := "l03_entry.go:77", after := #[], guard := none }) (v := ?_) rfl (by decide) (by kernel_rfl) (by kernel_rfl) (by kernel_rfl) (fun _ _ _ h => h) (Or.inl ⟨by rfl, ?_⟩) (by assumption) ?_
      rotate_left
      · intro w hSw; (try dsimp only at hSw); go_simp; (try with_reducible rfl)
      clear hU; intro hU
      (try simp only [Act.put, List.setIfInBounds_toArray, List.set_cons_zero, List.set_cons_succ])
      refine wpAnyL_load (i := 1) (m := 18) (oi := { dst := some 18, op := Op.load 44 (Operand.tmp 17), type := 44, pos := "l03_entry.go:77", after := #[{ on := 0, ground := Ground.data }], guard := none }) (om := { dst := some 35, op := Op.call { callee := Callee.builtin Builtin.append, args := #[Operand.tmp 18, Operand.tmp 34], argTypes := #[44, 44] }, type := 44, pos := "l03_entry.go:77", after := #[{ on := 1, ground := Ground.data }, { on := 17, ground := Ground.data }, { on := 15, ground := Ground.chain }], guard := none }) (ok := { dst := none, op := Op.store 44 (Operand.tmp 36) (Operand.tmp 35), type := 0, pos := "l03_entry.go:77", after := #[{ on := 19, ground := Ground.data }, { on := 18, ground := Ground.data }, { on := 18, ground := Ground.chain }, { on := 0, ground := Ground.phase }, { on := 1, ground := Ground.phase }, { on := 2, ground := Ground.phase }, { on := 3, ground := Ground.phase }, { on := 4, ground := Ground.phase }, { on := 5, ground := Ground.phase }, { on := 6, ground := Ground.phase }, { on := 7, ground := Ground.phase }, { on := 8, ground := Ground.phase }, { on := 9, ground := Ground.phase }, { on := 10, ground := Ground.phase }, { on := 11, ground := Ground.phase }, { on := 12, ground := Ground.phase }, { on := 13, ground := Ground.phase }, { on := 14, ground := Ground.phase }, { on := 15, ground := Ground.phase }, { on := 16, ground := Ground.phase }, { on := 17, ground := Ground.phase }, { on := 18, ground := Ground.phase }], guard := none }) (v := ?_) rfl (by decide) (by kernel_rfl) (by kernel_rfl) (by kernel_rfl) rfl rfl (by kernel_rfl) (by kernel_rfl) (by kernel_rfl) (by kernel_rfl) (fun _ _ _ h => h) (Or.inl ⟨by rfl, ?_⟩) (by assumption) ?_
      rotate_left
      · intro w hSw; (try dsimp only at hSw); go_simp; (try with_reducible rfl)
      clear hU; intro hU
      (try simp only [Act.put, List.setIfInBounds_toArray, List.set_cons_zero, List.set_cons_succ])
      refine wpAnyL_take (i := 2) (oi := { dst := some 19, op := Op.fieldAddr 46 (Operand.tmp 1) 1, type := 0, pos := "l03_entry.go:77", after := #[], guard := none }) (v := ?_) rfl (by decide) (by kernel_rfl) (by kernel_rfl) (by kernel_rfl) (fun _ _ _ h => h) (Or.inl ⟨by rfl, ?_⟩) (by assumption) ?_
      rotate_left
      · intro w hSw; (try dsimp only at hSw); go_simp; (try with_reducible rfl)
      clear hU; intro hU
      (try simp only [Act.put, List.setIfInBounds_toArray, List.set_cons_zero, List.set_cons_succ])
      refine wpAnyL_take (i := 3) (oi := { dst := some 20, op := Op.load 44 (Operand.tmp 19), type := 44, pos := "l03_entry.go:77", after := #[{ on := 2, ground := Ground.data }], guard := none }) (v := ?_) rfl (by decide) (by kernel_rfl) (by kernel_rfl) (by kernel_rfl) (fun _ _ _ h => h) (Or.inl ⟨by rfl, ?_⟩) (by assumption) ?_
      rotate_left
      · intro w hSw; (try dsimp only at hSw); go_simp; (try with_reducible rfl)
      clear hU; intro hU
      (try simp only [Act.put, List.setIfInBounds_toArray, List.set_cons_zero, List.set_cons_succ])
      refine wpAnyL_take (i := 4) (oi := { dst := some 21, op := Op.move (Operand.tmp 4), type := 3, pos := "l03_entry.go:77", after := #[], guard := none }) (v := ?_) rfl (by decide) (by kernel_rfl) (by kernel_rfl) (by kernel_rfl) (fun _ _ _ h => h) (Or.inl ⟨by rfl, ?_⟩) (by assumption) ?_
      rotate_left
      · intro w hSw; (try dsimp only at hSw); go_simp; (try with_reducible rfl)
      clear hU; intro hU
      (try simp only [Act.put, List.setIfInBounds_toArray, List.set_cons_zero, List.set_cons_succ])
      refine wpAnyL_take (i := 5) (oi := { dst := some 22, op := Op.indexAddr 44 (Operand.tmp 20) (Operand.tmp 21), type := 0, pos := "l03_entry.go:77", after := #[{ on := 3, ground := Ground.data }, { on := 4, ground := Ground.data }], guard := none }) (v := ?_) rfl (by decide) (by kernel_rfl) (by kernel_rfl) (by kernel_rfl) (fun _ _ _ h => h) (Or.inl ⟨by rfl, ?_⟩) (by assumption) ?_
      rotate_left
      · intro w hSw; (try dsimp only at hSw); go_simp; (try with_reducible rfl)
      clear hU; intro hU
      (try simp only [Act.put, List.setIfInBounds_toArray, List.set_cons_zero, List.set_cons_succ])
      refine wpAnyL_take (i := 6) (oi := { dst := some 23, op := Op.fieldAddr 109 (Operand.tmp 22) 0, type := 0, pos := "l03_entry.go:77", after := #[{ on := 5, ground := Ground.data }], guard := none }) (v := ?_) rfl (by decide) (by kernel_rfl) (by kernel_rfl) (by kernel_rfl) (fun _ _ _ h => h) (Or.inl ⟨by rfl, ?_⟩) (by assumption) ?_
      rotate_left
      · intro w hSw; (try dsimp only at hSw); go_simp; (try with_reducible rfl)
      clear hU; intro hU
      (try simp only [Act.put, List.setIfInBounds_toArray, List.set_cons_zero, List.set_cons_succ])
      refine wpAnyL_take (i := 7) (oi := { dst := some 24, op := Op.load 9 (Operand.tmp 23), type := 9, pos := "l03_entry.go:77", after := #[{ on := 6, ground := Ground.data }], guard := none }) (v := ?_) rfl (by decide) (by kernel_rfl) (by kernel_rfl) (by kernel_rfl) (fun _ _ _ h => h) (Or.inl ⟨by rfl, ?_⟩) (by assumption) ?_
      rotate_left
      · intro w hSw; (try dsimp only at hSw); go_simp; (try with_reducible rfl)
      clear hU; intro hU
      (try simp only [Act.put, List.setIfInBounds_toArray, List.set_cons_zero, List.set_cons_succ])
      refine wpAnyL_take (i := 9) (oi := { dst := some 26, op := Op.fieldAddr 46 (Operand.tmp 1) 1, type := 0, pos := "l03_entry.go:77", after := #[], guard := none }) (v := ?_) rfl (by decide) (by kernel_rfl) (by kernel_rfl) (by kernel_rfl) (fun _ _ _ h => h) (Or.inl ⟨by rfl, ?_⟩) (by assumption) ?_
      rotate_left
      · intro w hSw; (try dsimp only at hSw); go_simp; (try with_reducible rfl)
      clear hU; intro hU
      (try simp only [Act.put, List.setIfInBounds_toArray, List.set_cons_zero, List.set_cons_succ])
      refine wpAnyL_take (i := 10) (oi := { dst := some 27, op := Op.load 44 (Operand.tmp 26), type := 44, pos := "l03_entry.go:77", after := #[{ on := 9, ground := Ground.data }], guard := none }) (v := ?_) rfl (by decide) (by kernel_rfl) (by kernel_rfl) (by kernel_rfl) (fun _ _ _ h => h) (Or.inl ⟨by rfl, ?_⟩) (by assumption) ?_
      rotate_left
      · intro w hSw; (try dsimp only at hSw); go_simp; (try with_reducible rfl)
      clear hU; intro hU
      (try simp only [Act.put, List.setIfInBounds_toArray, List.set_cons_zero, List.set_cons_succ])
      refine wpAnyL_take (i := 11) (oi := { dst := some 28, op := Op.move (Operand.tmp 4), type := 3, pos := "l03_entry.go:77", after := #[], guard := none }) (v := ?_) rfl (by decide) (by kernel_rfl) (by kernel_rfl) (by kernel_rfl) (fun _ _ _ h => h) (Or.inl ⟨by rfl, ?_⟩) (by assumption) ?_
      rotate_left
      · intro w hSw; (try dsimp only at hSw); go_simp; (try with_reducible rfl)
      clear hU; intro hU
      (try simp only [Act.put, List.setIfInBounds_toArray, List.set_cons_zero, List.set_cons_succ])
      refine wpAnyL_take (i := 12) (oi := { dst := some 29, op := Op.indexAddr 44 (Operand.tmp 27) (Operand.tmp 28), type := 0, pos := "l03_entry.go:77", after := #[{ on := 10, ground := Ground.data }, { on := 11, ground := Ground.data }], guard := none }) (v := ?_) rfl (by decide) (by kernel_rfl) (by kernel_rfl) (by kernel_rfl) (fun _ _ _ h => h) (Or.inl ⟨by rfl, ?_⟩) (by assumption) ?_
      rotate_left
      · intro w hSw; (try dsimp only at hSw); go_simp; (try with_reducible rfl)
      clear hU; intro hU
      (try simp only [Act.put, List.setIfInBounds_toArray, List.set_cons_zero, List.set_cons_succ])
      refine wpAnyL_take (i := 13) (oi := { dst := some 30, op := Op.fieldAddr 109 (Operand.tmp 29) 1, type := 0, pos := "l03_entry.go:77", after := #[{ on := 12, ground := Ground.data }], guard := none }) (v := ?_) rfl (by decide) (by kernel_rfl) (by kernel_rfl) (by kernel_rfl) (fun _ _ _ h => h) (Or.inl ⟨by rfl, ?_⟩) (by assumption) ?_
      rotate_left
      · intro w hSw; (try dsimp only at hSw); go_simp; (try with_reducible rfl)
      clear hU; intro hU
      (try simp only [Act.put, List.setIfInBounds_toArray, List.set_cons_zero, List.set_cons_succ])
      refine wpAnyL_take (i := 14) (oi := { dst := some 31, op := Op.load 94 (Operand.tmp 30), type := 94, pos := "l03_entry.go:77", after := #[{ on := 13, ground := Ground.data }], guard := none }) (v := ?_) rfl (by decide) (by kernel_rfl) (by kernel_rfl) (by kernel_rfl) (fun _ _ _ h => h) (Or.inl ⟨by rfl, ?_⟩) (by assumption) ?_
      rotate_left
      · intro w hSw; (try dsimp only at hSw); go_simp; (try with_reducible rfl)
      clear hU; intro hU
      (try simp only [Act.put, List.setIfInBounds_toArray, List.set_cons_zero, List.set_cons_succ])
      refine wpAnyL_ready (rs := [8]) (by kernel_rfl) (by simp) ?_
      refine AllReadyL.cons (o := { dst := some 25, op := Op.buildSlice 94 0 #[], type := 94, pos := "l03_entry.go:77", after := #[], guard := none }) rfl (fun K hK => ?_) (AllReadyL.nil)
      go_simp
      clear hU
      refine hK.out _ _ ?_ (fun hU => ?_)
      · (try dsimp only)
        first | exact KP.out _ _ (by assumption) | exact KP.out _ _ hbz8 | exact KP.out _ _ hbd | exact KP.out _ _ (Below.alloc (by assumption) (by first | exact hRd | exact hR6) _) | exact ⟨SK1.out _ (Below.setCell (hb7.mono (Nat.le_succ R)) (p := ⟨R, 1, none⟩) (Nat.le_refl _) _), fun h => absurd (h.symm.trans (show _ = true by kernel_rfl)) (by decide)⟩
      clear hK K
      (try simp only [Act.put, List.setIfInBounds_toArray, List.set_cons_zero, List.set_cons_succ])
      refine wpAnyL_ready (rs := [15]) (by kernel_rfl) (by simp) ?_
      refine AllReadyL.cons (o := { dst := some 32, op := Op.call { callee := Callee.builtin Builtin.append, args := #[Operand.tmp 25, Operand.tmp 31], argTypes := #[94, 94] }, type := 94, pos := "l03_entry.go:77", after := #[{ on := 8, ground := Ground.data }, { on := 14, ground := Ground.data }], guard := none }) rfl (fun K hK => ?_) (AllReadyL.nil)
      refine step_texts wr.heap.size rfl _ _ rfl (.slice (some ⟨wr.heap.size, 0, none⟩) 0 0) rfl OZ.out o4 a1 k4 rfl HSz.out hc4 hl1 hsz1 ?_
      intro v6 w6 hown6 hgr6
      have hbel6 : Below wr.heap.size wr w6 := BZ.grown hgr6 hsz1 (fun k hk => (OZ.out.lt k hk).1)
      have Q6 := Lib.hid (own_texts hown6)
      obtain ⟨xo, xc, rfl⟩ := (own_texts hown6).at.sl
      have hb6 : Below (R + 1) wr w6 := hbel6.mono hR3
      have hR6 : R + 1 ≤ w6.heap.size := Nat.le_trans hR3 hbel6.size
      have R6 := Lib.hid (HG.out.below hbel6).row
      clear hown6 hgr6
      clear hU
      refine hK.out _ _ ?_ (fun hU => ?_)
      · (try dsimp only)
        first | exact KP.out _ _ (by assumption) | exact KP.out _ _ hbz8 | exact KP.out _ _ hbd | exact KP.out _ _ (Below.alloc (by assumption) (by first | exact hRd | exact hR6) _) | exact ⟨SK1.out _ (Below.setCell (hb7.mono (Nat.le_succ R)) (p := ⟨R, 1, none⟩) (Nat.le_refl _) _), fun h => absurd (h.symm.trans (show _ = true by kernel_rfl)) (by decide)⟩
      clear hK K
      (try simp only [Act.put, List.setIfInBounds_toArray, List.set_cons_zero, List.set_cons_succ])
      refine wpAnyL_take (i := 16) (oi := { dst := some 33, op := Op.build 109 #[(0, Operand.tmp 24), (1, Operand.tmp 32)], type := 109, pos := "l03_entry.go:77", after := #[{ on := 7, ground := Ground.data }, { on := 15, ground := Ground.data }], guard := none }) (v := ?_) rfl (by decide) (by kernel_rfl) (by kernel_rfl) (by kernel_rfl) (fun _ _ _ h => h) (Or.inl ⟨by rfl, ?_⟩) (by assumption) ?_
      rotate_left
      · intro w hSw; (try dsimp only at hSw); go_simp; (try with_reducible rfl)
      clear hU; intro hU
      (try simp only [Act.put, List.setIfInBounds_toArray, List.set_cons_zero, List.set_cons_succ])
      refine wpAnyL_ready (rs := [17]) (by kernel_rfl) (by simp) ?_
      refine AllReadyL.cons (o := { dst := some 34, op := Op.buildSlice 44 1 #[(0, Operand.tmp 33)], type := 44, pos := "l03_entry.go:77", after := #[{ on := 16, ground := Ground.data }], guard := none }) rfl (fun K hK => ?_) (AllReadyL.nil)
      go_simp
      clear hU
      refine hK.out _ _ ?_ (fun hU => ?_)
      · (try dsimp only)
        first | exact KP.out _ _ (by assumption) | exact KP.out _ _ hbz8 | exact KP.out _ _ hbd | exact KP.out _ _ (Below.alloc (by assumption) (by first | exact hRd | exact hR6) _) | exact ⟨SK1.out _ (Below.setCell (hb7.mono (Nat.le_succ R)) (p := ⟨R, 1, none⟩) (Nat.le_refl _) _), fun h => absurd (h.symm.trans (show _ = true by kernel_rfl)) (by decide)⟩
      clear hK K
      (try simp only [Act.put, List.setIfInBounds_toArray, List.set_cons_zero, List.set_cons_succ])
      refine wpAnyL_ready (rs := [18]) (by kernel_rfl) (by simp) ?_
      refine AllReadyL.cons (o := { dst := some 35, op := Op.call { callee := Callee.builtin Builtin.append, args := #[Operand.tmp 18, Operand.tmp 34], argTypes := #[44, 44] }, type := 44, pos := "l03_entry.go:77", after := #[{ on := 1, ground := Ground.data }, { on := 17, ground := Ground.data }, { on := 15, ground := Ground.chain }], guard := none }) rfl (fun K hK => ?_) (AllReadyL.nil)
      refine step_attr (R + 1) rfl _ _ rfl (.slice p pre.length c) pre.length xs rfl R6.out a0 xo a1.length xc rfl hrl.out hR6 ?_
      intro g7 cp7 w7 h71 h72 h73
      have hb7 : Below (R + 1) wr w7 := (hb6.alloc hR6 _).grown h72 (by simp; omega) (fun r hr => (R6.out.lt r hr).1)
      have T7 := Lib.hid (HT2.out.low hb7 (Nat.lt_succ_self _))
      have q1 := T7.out.cell 1 rfl
      have f1 := T7.out.soft 1
      clear hU
      refine hK.out _ _ ?_ (fun hU => ?_)
      · (try dsimp only)
        first | exact KP.out _ _ (by assumption) | exact KP.out _ _ hbz8 | exact KP.out _ _ hbd | exact KP.out _ _ (Below.alloc (by assumption) (by first | exact hRd | exact hR6) _) | exact ⟨SK1.out _ (Below.setCell (hb7.mono (Nat.le_succ R)) (p := ⟨R, 1, none⟩) (Nat.le_refl _) _), fun h => absurd (h.symm.trans (show _ = true by kernel_rfl)) (by decide)⟩
      clear hK K
      (try simp only [Act.put, List.setIfInBounds_toArray, List.set_cons_zero, List.set_cons_succ])
      refine wpAnyL_take (i := 19) (oi := { dst := some 36, op := Op.fieldAddr 46 (Operand.tmp 3) 1, type := 0, pos := "l03_entry.go:77", after := #[{ on := 0, ground := Ground.phase }, { on := 1, ground := Ground.phase }, { on := 2, ground := Ground.phase }, { on := 3, ground := Ground.phase }, { on := 4, ground := Ground.phase }, { on := 5, ground := Ground.phase }, { on := 6, ground := Ground.phase }, { on := 7, ground := Ground.phase }, { on := 8, ground := Ground.phase }, { on := 9, ground := Ground.phase }, { on := 10, ground := Ground.phase }, { on := 11, ground := Ground.phase }, { on := 12, ground := Ground.phase }, { on := 13, ground := Ground.phase }, { on := 14, ground := Ground.phase }, { on := 15, ground := Ground.phase }, { on := 16, ground := Ground.phase }, { on := 17, ground := Ground.phase }, { on := 18, ground := Ground.phase }], guard := none }) (v := ?_) rfl (by decide) (by kernel_rfl) (by kernel_rfl) (by kernel_rfl) (fun _ _ _ h => h) (Or.inl ⟨by rfl, ?_⟩) (by assumption) ?_
      rotate_left
      · intro w hSw; (try dsimp only at hSw); go_simp; (try with_reducible rfl)
      clear hU; intro hU
      (try simp only [Act.put, List.setIfInBounds_toArray, List.set_cons_zero, List.set_cons_succ])
      refine wpAnyL_ready (rs := [20]) (by kernel_rfl) (by simp) ?_
      refine AllReadyL.cons (o := { dst := none, op := Op.store 44 (Operand.tmp 36) (Operand.tmp 35), type := 0, pos := "l03_entry.go:77", after := #[{ on := 19, ground := Ground.data }, { on := 18, ground := Ground.data }, { on := 18, ground := Ground.chain }, { on := 0, ground := Ground.phase }, { on := 1, ground := Ground.phase }, { on := 2, ground := Ground.phase }, { on := 3, ground := Ground.phase }, { on := 4, ground := Ground.phase }, { on := 5, ground := Ground.phase }, { on := 6, ground := Ground.phase }, { on := 7, ground := Ground.phase }, { on := 8, ground := Ground.phase }, { on := 9, ground := Ground.phase }, { on := 10, ground := Ground.phase }, { on := 11, ground := Ground.phase }, { on := 12, ground := Ground.phase }, { on := 13, ground := Ground.phase }, { on := 14, ground := Ground.phase }, { on := 15, ground := Ground.phase }, { on := 16, ground := Ground.phase }, { on := 17, ground := Ground.phase }, { on := 18, ground := Ground.phase }], guard := none }) rfl (fun K hK => ?_) (AllReadyL.nil)
      go_simp
      clear hU
      refine hK.out _ _ ?_ (fun hU => ?_)
      · (try dsimp only)
        first | exact KP.out _ _ (by assumption) | exact KP.out _ _ hbz8 | exact KP.out _ _ hbd | exact KP.out _ _ (Below.alloc (by assumption) (by first | exact hRd | exact hR6) _) | exact ⟨SK1.out _ (Below.setCell (hb7.mono (Nat.le_succ R)) (p := ⟨R, 1, none⟩) (Nat.le_refl _) _), fun h => absurd (h.symm.trans (show _ = true by kernel_rfl)) (by decide)⟩
      clear hK K
      (try simp only [Act.put, List.setIfInBounds_toArray, List.set_cons_zero, List.set_cons_succ])
      refine wpAnyL_done (by kernel_rfl) ?_ _
      have HG9 : Hid (Grow attrE 109 (R + 1) (w7.setCell ⟨R, 1, none⟩ (.slice (some ⟨g7, 0, none⟩) (pre.length + 1) cp7)) (.slice (some ⟨g7, 0, none⟩) (pre.length + 1) cp7) (pre ++ [(a0, a1)]) (xs ++ [.string a0, .slice xo a1.length xc])) := Lib.hid ((Grow.step HG.out hR3 hbel6 (attr_pack a0 a1 _ (Fresh wr w6) ⟨Q6.out, fun _ h => h, trivial⟩) (more' (Below.refl _ _) _) h71 h72 (fun g' hg' => by
        have e : g7 = g' := by simpa [Value.ownBlock] using hg'
        subst e
        rcases h73 with h | h
        · exact .inl h
        · exact .inr (by omega))).cellOut (Nat.lt_succ_self R))
      have T9 := Lib.hid (T7.out.set 1 (.slice (some ⟨g7, 0, none⟩) (pre.length + 1) cp7))
      have A9 := Lib.hid ((HT0.out.low hb7 (by omega)).far (j := 1) (R := R) (by omega) (.slice (some ⟨g7, 0, none⟩) (pre.length + 1) cp7))
      have U9 := Lib.hid ((HT1.out.low hb7 (by omega)).far (j := 1) (R := R) (by omega) (.slice (some ⟨g7, 0, none⟩) (pre.length + 1) cp7))
      have D9 := Lib.hid (((HOD.out.frame (S := fun b => w.heap.size + 1 + 1 ≤ b ∧ b < R) (fun k h _ => hb7.block k (by have := h.2; omega)))).frame (Same.set _ (g := R) 1 (.slice (some ⟨g7, 0, none⟩) (pre.length + 1) cp7) (by intro h; have := h.2; omega)))
      have B9 := Lib.hid (HB.out.trans (((hb7.mono (Nat.le_succ R)).setCell (p := ⟨R, 1, none⟩) (Nat.le_refl _) (.slice (some ⟨g7, 0, none⟩) (pre.length + 1) cp7)).mono (by omega)))
      clear SK1 KP hbd hbz8 OZ HSz h71 h72 h73 hb7 hbel6 hU T7 q1 f1 BZ HS3 M0
      go_wp2
      go_roundw
      case rel => exact ⟨k + 1, some ⟨g7, 0, none⟩, pre.length + 1, cp7, _, by omega, by go_num, A9.out, U9.out, T9.out, by rw [HT.out]; exact HG9.out, D9.out, B9.out⟩
      case measure => simp [intOf]; omega
    · have e : at_.take k = at_ := List.take_of_length_le (by omega)
      have HO : Hid (SlOwn attrE (fun b => R + 1 ≤ b ∧ b < wr.heap.size) wr at_ (.slice p k c)) := Lib.hid (by have := HG.out.own; rw [e] at this; rw [show k = at_.length by omega]; exact this)
      clear e
      have x0 := HT1.out.cell 0 rfl
      have x1 := HT1.out.cell 1 rfl
      have y0 := HT2.out.cell 0 rfl
      have y1 := HT2.out.cell 1 rfl
      have f0 := HT1.out.soft 0
      have f1 := HT1.out.soft 1
      have y1' : wr.cell? ⟨R, 1, none⟩ = some (.slice p k c) := by rw [y1, List.length_take, Nat.min_eq_left hk]
      clear y1
      have TE := (HT1.out.set 0 (.slice d0 dn.length dc)).set 1 (.slice p k c)
      have j0 := TE.cell 0 rfl
      have j1 := TE.cell 1 rfl
      clear TE
      go_wp2_with fail
      refine bodyPost_ret (v := .agg #[.slice d0 dn.length dc, .slice p k c]) (by simp [results, Tryz.results72, go_sem, j0, j1]) rfl ⟨_, _, rfl, entry_pack dn at_ _ _ (fun b => w.heap.size + 1 + 1 ≤ b ∧ b < R) (fun b => R + 1 ≤ b ∧ b < wr.heap.size) ⟨?_, (fun b h => ?_), ?_, (fun b h => ?_), fun b h1 h2 => ?_, trivial⟩, ?_⟩
      · exact ((HOD.out.frame (Same.set _ (g := w.heap.size + 1) 0 _ (by intro h; have := h.1; omega))).frame (Same.set _ (g := w.heap.size + 1) 1 _ (by intro h; have := h.1; omega)))
      · exact ⟨by have := h.1; omega, by have := h.2; show _ < (World.heap _).size; simp only [setCell_size]; omega⟩
      · exact ((HO.out.frame (Same.set _ (g := w.heap.size + 1) 0 _ (by intro h; have := h.1; omega))).frame (Same.set _ (g := w.heap.size + 1) 1 _ (by intro h; have := h.1; omega)))
      · exact ⟨by have := h.1; omega, by have := h.2; show _ < (World.heap _).size; simp only [setCell_size]; omega⟩
      · have := h1.2; have := h2.1; omega
      · exact (HB.out.setCell (p := ⟨w.heap.size + 1, 0, none⟩) (by show w.heap.size ≤ w.heap.size + 1; omega) _).setCell (p := ⟨w.heap.size + 1, 1, none⟩) (by show w.heap.size ≤ w.heap.size + 1; omega) _
end Go.Proofs.YtmanlnlhpgdbpaaGreat
/- Change logs: the specification's copies of changes. -/
namespace Go.Proofs.YtmanlnlhpgdbpaaGreat
open Go.RowKit
attribute [local go_sem ↓] Go.wp_at_zero Go.wp_at_succ

theorem change_one {S : Bs} {w : World} {x : ChangeT} {cs : List Value} (h : changeE.At S w x cs) : ∀ u ∈ cs, u.oneCell' = true := by
  obtain ⟨a0, a1, a2, a3, a4, v3, v4, rfl, rfl, s3, s4, _⟩ := change_atq h
  obtain ⟨o3, k3, rfl⟩ := s3.sl
  obtain ⟨o4, k4, rfl⟩ := s4.sl
  intro u hu
  simp at hu
  rcases hu with rfl | rfl | rfl | rfl | rfl <;> rfl
section
variable {ops : Array Oper} {rest : List Oper} {o : Oper} {a : Act} {Q : Exit → Act → World → Prop} {W : World}
/-- the cells of a list's rows -/
def RowsOf (S : Bs) (W : World) (d : List ChangeT) (xs : List Value) : Prop := ∀ i (h : i < d.length), ∃ cs, (∀ j (h : j < cs.length), xs[i * changeE.n + j]? = some cs[j]) ∧ changeE.At S W d[i] cs
set_option maxRecDepth 100000 in
/-- append([]Change{}, l...) -/
theorem app_ch0 {S : Bs} (N : Nat) (hgd : o.guard = none) (s x : Operand)
    (ho : o.op = .call { callee := .builtin .append, args := #[s, x], argTypes := #[27, 27] }) (hs : a.eval s = .slice (some ⟨N, 0, none⟩) 0 0)
    (ao : Option Addr) (d : List ChangeT) (c n : Nat) (hn : n = d.length) (hx : a.eval x = .slice ao n c) (hd : SlAt changeE S W d (.slice ao d.length c)) (hlen : d.length ≤ 1048576) (hN : N = W.heap.size)
    (h : ∀ v' xs w', w'.ownsRow W.heap.size 61 5 v' d.length xs → RowsOf S W d xs → Below W.heap.size W w' → wpList Tryz.prog ops Q rest (a.put o.dst v') w') :
    wpList Tryz.prog ops Q (o :: rest) a (W.alloc (.cells #[] 61)) := by
  subst hN
  subst hn
  have B0 : Below W.heap.size W (W.alloc (.cells #[] 61)) := more' (Below.refl _ _) _
  have O0 : (W.alloc (.cells #[] 61)).ownsRow W.heap.size 61 5 (.slice (some ⟨W.heap.size, 0, none⟩) 0 0) 0 [] := ⟨rfl, .inr ⟨W.heap.size, 0, #[], rfl, Nat.le_refl _, heap_alloc_new W _, by simp, by unfold maxLen; simp, rfl, rfl⟩⟩
  obtain ⟨i0, hi, hz0, hz1, hz2⟩ := info_parts Tryz.infoTChange
  have hc := hd.cap.2.2
  rcases ao with _ | ad
  · have hd0 : d = [] := by
      by_cases h0 : d = []
      · exact h0
      · obtain ⟨b, off, cs, e1, _⟩ := hd.row (List.length_pos_iff.2 h0)
        cases e1
    subst hd0
    have := hc rfl
    subst this
    refine wpList_append_own_none hgd s x 27 ho W.heap.size 61 i0 5 Tryz.underlying27 hi _ 0 [] hs O0 hx (h _ [] _ O0 (fun i hi => by simp at hi) B0)
  · have hxs : ∃ xs : List Value, xs.length = d.length * 5 ∧ (∀ j u, xs[j]? = some u → (W.alloc (.cells #[] 61)).cell? (ad.add j) = some u) ∧ RowsOf S W d xs := by
      by_cases h0 : d = []
      · subst h0; exact ⟨[], rfl, fun j u hu => by simp at hu, fun i hi => by simp at hi⟩
      · obtain ⟨b, off, cs, e1, _, hb, _⟩ := hd.row (List.length_pos_iff.2 h0)
        cases e1
        obtain ⟨xs, h1, h2, h3⟩ := all_cells (e := changeE) (by decide) hd
        refine ⟨xs, h1, fun j u hu => ?_, h3⟩
        rw [Go.WideShapes.add_plain]
        exact (B0.cell (p := ⟨b, off + j, none⟩) hb).trans (h2 j u hu)
    obtain ⟨xs, hxl, hxc, hxr⟩ := hxs
    refine wpList_append_own _ hgd s x 27 ho W.heap.size 61 i0 _ 5 80 Tryz.underlying27 hi hz0 hz1 hz2 rfl (by decide) _ 0 [] hs O0 ad d.length c xs hx hxl hxc ?_ ?_ ?_ B0.size ?_
    · intro u hu
      obtain ⟨j, hj, rfl⟩ := List.getElem_of_mem hu
      have hj2 : j < d.length * 5 := by rw [← hxl]; exact hj
      have hi2 : j / 5 < d.length := by omega
      obtain ⟨cs, q1, q2⟩ := hxr (j / 5) hi2
      have hcl : cs.length = 5 := changeE.len q2
      have hm : j % 5 < cs.length := by rw [hcl]; omega
      have := q1 (j % 5) hm
      have ej : j / 5 * changeE.n + j % 5 = j := by show j / 5 * 5 + j % 5 = j; omega
      rw [ej, List.getElem?_eq_getElem hj] at this
      injection this with this
      rw [this]
      exact change_one q2 _ (List.getElem_mem hm)
    · unfold maxLen; omega
    · omega
    · intro v' w' h1 h2 h3
      rw [Nat.zero_add, List.nil_append] at h1
      exact h v' xs w' h1 hxr (B0.grown h2 (by simp) (fun r hr => by simp [Value.ownBlock] at hr; omega))
end
/-- a cell of an owned row is written -/
theorem own_cell {w : World} {B T z n g cap j : Nat} {xs : List Value} (h : w.ownsRow B T z (.slice (some ⟨g, 0, none⟩) n cap) n xs) (u : Value) : ∃ ys, (w.setCell ⟨g, j, none⟩ u).ownsRow B T z (.slice (some ⟨g, 0, none⟩) n cap) n ys := by
  rcases h.2 with ⟨e, _⟩ | ⟨g', cap', cur, e, hB, hk, hc, hm, hsz, ht⟩
  · cases e
  cases e
  refine ⟨(cur.setIfInBounds j u).toList.take (n * z), ?_, .inr ⟨g, cap, _, rfl, hB, heap_set u hk, hc, hm, by simpa using hsz, rfl⟩⟩
  have h1 := h.1
  rw [← ht, List.length_take] at h1
  rw [List.length_take]
  simpa using h1
set_option maxRecDepth 100000 in
set_option maxHeartbeats 2000000 in
theorem l08List_row {S : Bs} (v : Value) (d : List ChangeT) (w : World) (hd : SlAt changeE S w d v) (hz : d.length + szL changeE d ≤ 1048576) :
    Calls Tryz.prog 56 #[v] w fun e w' => (∃ u, e = .returned u ∧ SlOwn changeE (Fresh w w') w' d u ∧ ∃ xs, w'.ownsRow w.heap.size 61 5 u d.length xs) ∧ Below w.heap.size w w' := by
  obtain ⟨ao, ca, rfl⟩ := hd.sl
  have HA := Lib.hid hd
  have HZ : Hid (∀ x ∈ d, changeE.sz x ≤ 1048576) := Lib.hid (fun x h => by have h1 := szL_mem changeE h; omega)
  have hl : d.length ≤ 1048576 := by omega
  clear hd hz
  go_enter Tryz.func56, Tryz.ntmps56
  go_wp2_with (first
    | (at_builtin; refine app_ch0 _ rfl _ _ rfl rfl ao d ca _ rfl rfl HA.out hl rfl ?_; intro v1 xs w1 hown hrows hbel)
    | (fail "none"))
  rcases hown.2 with ⟨rfl, h0⟩ | ⟨g, cap, cur, rfl, _⟩
  · have e : d = [] := List.length_eq_zero_iff.1 h0
    subst e
    go_loopw [4] (fun i wr => i = .int .i64 0 ∧ Below w.heap.size w wr) (fun i _ => 0)
    case atStart => exact ⟨rfl, hbel⟩
    case round =>
      obtain ⟨rfl, hb⟩ := hrel
      go_wp2
      go_ret
      exact ⟨⟨_, rfl, own_nilS _ _ _, [], ⟨by simp, .inl ⟨rfl, rfl⟩⟩⟩, hb⟩
  obtain ⟨hh, hc⟩ := Half.start (S := S) (w0 := w) (w := w) (e := changeE) (Nat.le_refl _) hown hrows (fun _ _ h => h)
  have HC := Lib.hid hc
  have hor : ∃ xs, w1.ownsRow w.heap.size 61 5 (.slice (some ⟨g, 0, none⟩) d.length cap) d.length xs := ⟨xs, hown⟩
  clear hown hrows hc
  go_loopw [4] (fun i wr => ∃ k : Nat, k ≤ d.length ∧ i = .int .i64 k ∧ Half changeE S w wr g d k ∧ (∃ xs, wr.ownsRow w.heap.size 61 5 (.slice (some ⟨g, 0, none⟩) d.length cap) d.length xs) ∧ Below w.heap.size w wr) (fun i _ => d.length - (intOf i).toNat)
  case atStart => exact ⟨0, Nat.zero_le _, rfl, hh, hor, hbel⟩
  case round =>
    clear hh hbel hor
    obtain ⟨k, hk, rfl, hh, ⟨xs', hor⟩, hbel⟩ := hrel
    have HH := Lib.hid hh; have HOR := Lib.hid hor; clear hh hor
    by_cases hlt : k < d.length
    · obtain ⟨cs, hrow, hat⟩ := HH.out.row hlt
      obtain ⟨a0, a1, a2, a3, a4, v3, v4, hx, rfl, s3, s4, _⟩ := change_atq hat
      have HZ1 : changeE.sz (a0, a1, a2, (a3, a4)) ≤ 1048576 := by have := HZ.out _ (List.getElem_mem hlt); rw [hx] at this; exact this
      have HE : changeE.sz (a0, a1, a2, (a3, a4)) = 0 + (0 + (a2.size + entryE.sz (a3, a4))) := rfl
      rw [HE] at HZ1
      have CK : Hid (Calls Tryz.prog 72 #[.agg #[v3, v4]] wr fun e w' => ∃ u0 u1, e = .returned (.agg #[u0, u1]) ∧ entryE.Own (Fresh wr w') w' (a3, a4) [u0, u1] ∧ Below wr.heap.size wr w') := Lib.hid (l03Copy_any a3 a4 v3 v4 wr (s3.frame (Same.of_below' hbel)) (s4.frame (Same.of_below' hbel)) (by omega))
      have HX := Lib.hid hx
      obtain ⟨o3, k3, rfl⟩ := s3.sl
      obtain ⟨o4, k4, rfl⟩ := s4.sl
      have HR := Lib.hid hrow
      have c3 : wr.cell? ⟨g, k * 5 + 3, none⟩ = some (.slice o3 a3.length k3) := hrow.cells 3 (by simp)
      have c4 : wr.cell? ⟨g, k * 5 + 4, none⟩ = some (.slice o4 a4.length k4) := hrow.cells 4 (by simp)
      have g1 : (0 : Int) ≤ (k : Int) := by omega
      have g2 : (k : Int) < (d.length : Int) := by omega
      clear hat s3 s4 hx HZ1 HE hrow
      go_wp2_with fail
      refine CK.out.mono ?_
      rintro e w2 ⟨u0, u1, rfl, q, hb⟩
      obtain ⟨⟨p3, n3, j3, rfl⟩, p4, n4, j4, rfl⟩ := entry_sl q rfl
      have Q := Lib.hid q; have D2 := Lib.hid hb
      have R2 := Lib.hid (HR.out.same (hb.block _ HR.out.lt))
      have b2 := hbel.trans (hb.mono hbel.size)
      clear q hb c3 c4 CK
      have f3 : w2.frozen? ⟨g, k * 5 + 3, none⟩ = false := R2.out.soft _
      have f4 : w2.frozen? ⟨g, k * 5 + 4, none⟩ = false := R2.out.soft _
      have c3 : w2.cell? ⟨g, k * 5 + 3, none⟩ = some (.slice o3 a3.length k3) := R2.out.cells 3 (by simp)
      have c4 : w2.cell? ⟨g, k * 5 + 4, none⟩ = some (.slice o4 a4.length k4) := R2.out.cells 4 (by simp)
      have HH2 : Hid (Half changeE S w ((w2.setCell ⟨g, k * 5 + 3, none⟩ (.slice p3 n3 j3)).setCell ⟨g, k * 5 + 4, none⟩ (.slice p4 n4 j4)) g d (k + 1)) := Lib.hid (HH.out.step hlt D2.out hbel.size (cs := [.int .i64 a0, .int .i64 a1, .string a2, .slice p3 n3 j3, .slice p4 n4 j4]) (by rw [HX.out]; exact change_of_entry Q.out (fun b h => h)) ((R2.out.store (j := 3) (by simp) (.slice p3 n3 j3)).store (j := 4) (by simp) (.slice p4 n4 j4))
        (fun b hb => by rw [Below.heap_setCell _ _ _ _ hb, Below.heap_setCell _ _ _ _ hb]) (by simp only [setCell_size])
        (fun i cs hi hcl hr => (hr.skip (n := 5) hcl (u := 3) (by decide) hi _).skip (n := 5) hcl (u := 4) (by decide) hi _))
      have hgw : w.heap.size ≤ g := HH.out.ge
      have HOR2 : Hid (∃ xs, ((w2.setCell ⟨g, k * 5 + 3, none⟩ (.slice p3 n3 j3)).setCell ⟨g, k * 5 + 4, none⟩ (.slice p4 n4 j4)).ownsRow w.heap.size 61 5 (.slice (some ⟨g, 0, none⟩) d.length cap) d.length xs) := Lib.hid (by
        obtain ⟨ys, hy⟩ := own_cell (j := k * 5 + 3) (own_below HOR.out D2.out) (.slice p3 n3 j3)
        exact own_cell hy _)
      have b3 := (b2.setCell (p := ⟨g, k * 5 + 3, none⟩) hgw (.slice p3 n3 j3)).setCell (p := ⟨g, k * 5 + 4, none⟩) hgw (.slice p4 n4 j4)
      go_wp2
      go_roundw
      case rel => exact ⟨k + 1, by omega, by go_num, HH2.out, HOR2.out, b3⟩
      case measure => simp [intOf]; omega
    · obtain rfl : k = d.length := by omega
      have HO := Lib.hid (HH.out.own HC.out)
      go_wp2
      go_ret
      exact ⟨⟨_, rfl, HO.out, _, HOR.out⟩, hbel⟩
theorem l08List_any {S : Bs} (v : Value) (d : List ChangeT) (w : World) (hd : SlAt changeE S w d v) (hz : d.length + szL changeE d ≤ 1048576) :
    Calls Tryz.prog 56 #[v] w fun e w' => (∃ u, e = .returned u ∧ SlOwn changeE (Fresh w w') w' d u) ∧ Below w.heap.size w w' :=
  (l08List_row v d w hd hz).mono fun _ _ ⟨⟨u, h1, h2, _⟩, h3⟩ => ⟨⟨u, h1, h2⟩, h3⟩
end Go.Proofs.YtmanlnlhpgdbpaaGreat
/- Laws whose result lies in memory: what a walk of them needs. -/
namespace Go.Proofs.YtmanlnlhpgdbpaaGreat
open Go Go.RowKit

/-- what holds behind a statement, however its order was drawn -/
def OnlyNormal (F : Act → World → Prop) (e : Exit) (a : Act) (w : World) : Prop := match e with | .normal => F a w | _ => False
theorem region_join (F : Act → Act → World → Prop) {P : Program} {c : Code} {Q : Exit → Act → World → Prop} {a : Act} {w : World} (h : c.wp P (OnlyNormal (F a)) a w) (hq : ∀ a' w', F a a' w' → Q .normal a' w') : c.wp P Q a w :=
  Code.wp_mono (fun e a' w' he => by cases e <;> first | exact hq _ _ he | exact he.elim) h
theorem Blk.turn {S : Bs} {w w' : World} {g : Nat} {cs : List Value} (h : Blk w g cs) (ht : Turn S w w') (hg : ¬ S g) : Blk w' g cs := by
  have hl := h.lt
  obtain ⟨T, e⟩ := h
  exact ⟨T, (ht.block g hl hg).trans e⟩
theorem cnt_fit {α : Type} {e : Enc α} (l : List α) (hc : e.c ≤ 50) (h : l.length + szL e l ≤ 1048576) : cntL e l ≤ 52428800 := by
  have h1 := cntL_le e l
  have h2 : e.c * (l.length + szL e l) ≤ 50 * 1048576 := Nat.mul_le_mul hc h
  omega
end Go.Proofs.YtmanlnlhpgdbpaaGreat
