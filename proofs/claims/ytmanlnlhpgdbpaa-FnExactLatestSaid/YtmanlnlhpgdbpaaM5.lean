/- Merged texts: CpsAttr, CpEntry, CpChange, toRdn, toEntry, toChange, CpsChange, HalfT, ChCut, LtI, Held2, Held3. -/
import Derived.Test.YtmanlnlhpgdbpaaM4
import Derived.Test.YtmanlnlhpgdbpaaM2
import Derived.Test.YtmanlnlhpgdbpaaM3
import Derived.Laws.MakeOwn
import Derived.Deep.AppendLies
import Derived.Deep.RegionHeld
/- The program copies a list of Attr. -/
namespace Go.Proofs.Ytmanlnlhpgdbpaa
open Go.RowKit
attribute [local go_sem ↓] Go.wp_at_zero Go.wp_at_succ

section
variable {ops : Array Oper} {rest : List Oper} {o : Oper} {a : Act} {Q : Exit → Act → World → Prop} {w3 : World}
theorem app_attr (B : Nat) (hgd : o.guard = none) (s x : Operand)
    (ho : o.op = .call { callee := .builtin .append, args := #[s, x], argTypes := #[37, 37] }) (v : Value) (n : Nat) (xs : List Value) (hs : a.eval s = v) (hown : w3.ownsRow B 62 2 v n xs)
    (a0 : ByteArray) (p1 : Option Addr) (m1 c1 : Nat) (N : Nat) (hN : N = w3.heap.size) (hx : a.eval x = .slice (some ⟨N, 0, none⟩) 1 1) (hlen : n ≤ 100000000) (hB : B ≤ w3.heap.size)
    (h : ∀ g cap w', w'.ownsRow B 62 2 (.slice (some ⟨g, 0, none⟩) (n + 1) cap) (n + 1) (xs ++ [.string a0, .slice p1 m1 c1]) → (w3.alloc (.cells #[.string a0, .slice p1 m1 c1] 62)).grownBy w' v.ownBlock → (v.ownBlock = some g ∨ g = w3.heap.size + 1) → wpList Try.prog ops Q rest (a.put o.dst (.slice (some ⟨g, 0, none⟩) (n + 1) cap)) w') :
    wpList Try.prog ops Q (o :: rest) a (w3.alloc (.cells #[.string a0, .slice p1 m1 c1] 62)) := by
  subst hN
  obtain ⟨i0, hi, hz0, hz1, hz2⟩ := info_parts Try.infoTAttr
  refine wpList_append_lies _ hgd s x 37 ho B 62 i0 _ 2 40 Try.underlying37 hi hz0 hz1 hz2 rfl (by decide) v n xs hs (hown.alloc _) ⟨w3.heap.size, 0, none⟩ 1 1 [.string a0, .slice p1 m1 c1] hx rfl (World.news_of_block (cs := #[.string a0, .slice p1 m1 c1]) (t := 62) (fr := (0, 0)) (heap_alloc_new _ _)) ?_ (by omega) ?_ ?_ ?_ (w3.heap.size + 1) (by simp) ?_
  · intro u hu; simp at hu; rcases hu with rfl | rfl <;> rfl
  · unfold maxLen; omega
  · omega
  · simp; omega
  · intro g cap w' h1 h2 h3 _
    exact h g cap w' h1 h2 h3
end
set_option maxRecDepth 100000 in
set_option maxHeartbeats 4000000 in
theorem cpysAttr_any {S : Bs} (v : Value) (d : List AttrT) (w : World) (hd : SlAt attrE S w d v) (hz : d.length + szL attrE d ≤ 1048576) :
    Calls Try.prog 103 #[v, .func (.func 96) #[] #[]] w fun e w' => (∃ u, e = .returned u ∧ SlOwn attrE (Fresh w w') w' d u) ∧ Below w.heap.size w w' := by
  obtain ⟨ao, ca, rfl⟩ := hd.sl
  have HA := Lib.hid hd
  have HZ : Hid (∀ x ∈ d, attrE.sz x ≤ 1048576) := Lib.hid (fun x h => by have h1 := szL_mem attrE h; omega)
  have hl : d.length ≤ 1048576 := by omega
  clear hd hz
  go_enter Try.func103, Try.ntmps103
  go_wp2
  go_loopw [5, 10] (fun v i wr => ∃ k : Nat, k ≤ d.length ∧ i = .int .i64 k ∧ (∃ xs, Grow attrE 62 w.heap.size wr v (d.take k) xs) ∧ Below w.heap.size w wr) (fun _ i _ => d.length - (intOf i).toNat)
  case atStart => exact ⟨0, Nat.zero_le _, rfl, ⟨[], Grow.nil _ _ _ _⟩, Below.refl _ _⟩
  case round =>
    obtain ⟨k, hk, rfl, ⟨xs, hg⟩, hbel⟩ := hrel
    have HG := Lib.hid hg; clear hg
    obtain ⟨p7, n7, q7, hv7⟩ := own_slice3' HG.out.row
    subst hv7
    by_cases hlt : k < d.length
    · obtain ⟨b, off, a0, a1, v1, rfl, _, hb0, hx, ⟨hc0, hc1⟩, s1, _⟩ := attr_row (HA.out.frame (Same.of_below' hbel)) hlt
      have HZ1 : Hid (attrE.sz (a0, a1) ≤ 1048576) := Lib.hid (by have := HZ.out _ (List.getElem_mem hlt); rw [hx] at this; exact this)
      have HT : Hid (d.take (k + 1) = d.take k ++ [(a0, a1)]) := Lib.hid (by rw [List.take_succ_eq_append_getElem hlt, hx])
      have HC : Hid (∀ W : World, Below wr.heap.size wr W → Calls Try.prog 96 #[.agg #[.string a0, v1]] W fun e w' => ∃ u1, e = .returned (.agg #[.string a0, u1]) ∧ attrE.Own (Fresh W w') w' (a0, a1) [.string a0, u1] ∧ Below W.heap.size W w') := Lib.hid (fun W b => cpyAttr_any a0 a1 v1 W (s1.frame (Same.of_below' b)) HZ1.out)
      obtain ⟨o1, k1, rfl⟩ := s1.sl
      clear s1 hx
      have hrl : (d.take k).length ≤ 100000000 := by rw [List.length_take]; omega
      have hrl2 := Lib.hid hrl
      clear hrl
      generalize d.take k = pre at *
      have g1 : (0 : Int) ≤ (k : Int) := by omega
      have g2 : (k : Int) < (d.length : Int) := by omega
      go_wp2_with fail
      refine calls_by (fun W => Below wr.heap.size wr W) (more' (Below.refl _ _) _) ?_
      intro W1 d1
      refine (HC.out W1 d1).mono ?_
      clear hc0 hc1
      rintro e w3 ⟨u1, rfl, q, hb1⟩
      have hb : Below wr.heap.size wr w3 := d1.trans (hb1.mono d1.size)
      obtain ⟨p1, n1, j1, rfl⟩ := attr_sl q rfl
      have Q3 := Lib.hid (Enc.ownWide _ q (fun b h => (⟨Nat.le_trans d1.size h.1, h.2⟩ : Fresh wr w3 b)))
      have b3 := hbel.trans (hb.mono hbel.size); have D3 := Lib.hid hb
      have R3 := Lib.hid (HG.out.below hb).row
      have hs3 := hb.size; have hs2 := hbel.size
      clear hb1 d1
      have hB3 : w.heap.size ≤ w3.heap.size := b3.size
      clear hb q
      go_wp2_with (first
        | (at_builtin; refine app_attr w.heap.size rfl _ _ rfl _ _ xs rfl R3.out a0 p1 n1 j1 _ rfl rfl hrl2.out hB3 ?_; intro g cap w5 h1 h2 h3)
        | (fail "none"))
      have HG5 : Hid (Grow attrE 62 w.heap.size w5 (.slice (some ⟨g, 0, none⟩) (pre.length + 1) cap) (pre ++ [(a0, a1)]) (xs ++ [.string a0, .slice p1 n1 j1])) := Lib.hid (Grow.step HG.out hs2 D3.out Q3.out (more' (Below.refl _ _) _) h1 h2 (fun g' hg' => by
        have e : g = g' := by simpa [Value.ownBlock] using hg'
        subst e
        rcases h3 with h | h
        · exact .inl h
        · exact .inr (by omega)))
      have B5 : Below w.heap.size w w5 := (b3.alloc b3.size _).grown h2 (by simp; omega) (fun r hr => by have := (R3.out.lt r hr).1; omega)
      clear h1 h2 h3 R3
      go_wp2
      go_roundw
      case rel => exact ⟨k + 1, by omega, by go_num, ⟨_, by rw [HT.out]; exact HG5.out⟩, B5⟩
      case measure => simp [intOf]; omega
    · have e : d.take k = d := List.take_of_length_le (by omega)
      have HO : Hid (SlOwn attrE (Fresh w wr) wr d (.slice p7 n7 q7)) := Lib.hid (by have := HG.out.own; rw [e] at this; exact this)
      clear e
      go_wp2
      go_ret
      exact ⟨⟨_, rfl, HO.out⟩, hbel⟩
end Go.Proofs.Ytmanlnlhpgdbpaa
/- The program copies a Entry. -/
namespace Go.Proofs.Ytmanlnlhpgdbpaa
open Go.RowKit
attribute [local go_sem ↓] Go.wp_at_zero Go.wp_at_succ

set_option maxRecDepth 100000 in
set_option maxHeartbeats 4000000 in
theorem cpyEntry_any {S : Bs} (a0 : (List RdnT)) (a1 : (List AttrT)) (v0 v1 : Value) (w : World) (h0 : SlAt rdnE S w a0 v0) (h1 : SlAt attrE S w a1 v1) (hz : entryE.sz (a0, a1) ≤ 1048576) :
    Calls Try.prog 76 #[.agg #[v0, v1]] w fun e w' => ∃ u0 u1, e = .returned (.agg #[u0, u1]) ∧ entryE.Own (Fresh w w') w' (a0, a1) [u0, u1] ∧ Below w.heap.size w w' := by
  have HE : entryE.sz (a0, a1) = (a0.length + szL rdnE a0) + ((a1.length + szL attrE a1)) := rfl
  rw [HE] at hz
  obtain ⟨o0, k0, rfl⟩ := h0.sl
  obtain ⟨o1, k1, rfl⟩ := h1.sl
  have CT0 : Hid (∀ (W : World) (T : TypeId), Below w.heap.size w W → Calls Try.prog 62 #[.slice (some ⟨W.heap.size, 0, none⟩) 1 1] (W.alloc (.cells #[.slice o0 a0.length k0] T)) fun e w' => ∃ u, e = .returned u ∧ SlOwn rdnE (Fresh W w') w' a0 u ∧ Below W.heap.size W w') := Lib.hid (fun W T b => joinOne_any o0 k0 a0 W T ((dn_of h0).below b) (fits_dn (by omega)))
  have CT1 : Hid (∀ W : World, Below w.heap.size w W → Calls Try.prog 103 #[.slice o1 a1.length k1, .func (.func 96) #[] #[]] W fun e w' => ∃ u, e = .returned u ∧ SlOwn attrE (Fresh W w') w' a1 u ∧ Below W.heap.size W w') := Lib.hid (fun W b => (cpysAttr_any (.slice o1 a1.length k1) a1 W (h1.frame (Same.of_below' b)) (by omega)).mono fun e w' ⟨⟨v, he, ho⟩, hb⟩ => ⟨v, he, ho, hb⟩)
  clear h0 h1 hz HE
  go_enter Try.func76, Try.ntmps76
  go_wp2
  refine wp_world (fun W => Below w.heap.size w W ∧ Blk W w.heap.size [.slice o0 a0.length k0, .slice o1 a1.length k1] ∧ Blk W (w.heap.size + 1) [.slice none 0 0, .slice none 0 0]) ⟨more' (more' (Below.refl _ _) _) _, (Blk.new _ _ _).alloc _, blk_at _ _ _ (by simp)⟩ ?_
  rintro W0 ⟨B, ta, tr⟩
  have TA := Lib.hid ta; have TR := Lib.hid tr
  have hn : w.heap.size + 1 < W0.heap.size := tr.lt
  clear ta tr
  have SK : Hid (∀ Z' : World, Below W0.heap.size W0 Z' → Z'.cell? ⟨w.heap.size, 0, none⟩ = some (.slice o0 a0.length k0) ∧ Z'.cell? ⟨w.heap.size, 1, none⟩ = some (.slice o1 a1.length k1)) := Lib.hid (fun Z' h => ⟨(TA.out.below h).cell 0 rfl, (TA.out.below h).cell 1 rfl⟩)
  have BD : Below W0.heap.size W0 W0.drew := (Below.refl _ _).drew
  refine wp_region_held_drew (S := (fun Z' => Z'.cell? ⟨w.heap.size, 0, none⟩ = some (.slice o0 a0.length k0) ∧ Z'.cell? ⟨w.heap.size, 1, none⟩ = some (.slice o1 a1.length k1))) (by kernel_rfl) ?_ (fun hHeld => ?_)
  · (try dsimp only)
    first | exact SK.out _ (by assumption) | exact SK.out _ BD | exact SK.out _ (more' (by assumption) _) | exact SK.out _ (more' BD _) | exact SX.out _ _
  refine wpAnyH_take (i := 0) (oi := { dst := some 3, op := Op.fieldAddr 39 (Operand.tmp 1) 0, type := 0, pos := "l03_entry.go:116", after := #[], guard := none }) (v := ?_) rfl (by kernel_rfl) (by kernel_rfl) (by kernel_rfl) (fun _ _ _ h => h) (Or.inl ⟨by rfl, ?_⟩) (by assumption) ?_
  rotate_left
  · intro w hSw; (try dsimp only at hSw); go_simp; (try with_reducible rfl)
  (try simp only [Act.put, List.setIfInBounds_toArray, List.set_cons_zero, List.set_cons_succ])
  refine wpAnyH_take (i := 1) (oi := { dst := some 4, op := Op.load 32 (Operand.tmp 3), type := 32, pos := "l03_entry.go:116", after := #[{ on := 0, ground := Ground.data }], guard := none }) (v := ?_) rfl (by kernel_rfl) (by kernel_rfl) (by kernel_rfl) (fun _ _ _ h => h) (Or.inl ⟨by rfl, ?_⟩) (by assumption) ?_
  rotate_left
  · intro w hSw; (try dsimp only at hSw); go_simp; (try with_reducible rfl)
  (try simp only [Act.put, List.setIfInBounds_toArray, List.set_cons_zero, List.set_cons_succ])
  refine wpAnyH_take (i := 4) (oi := { dst := some 7, op := Op.fieldAddr 39 (Operand.tmp 1) 1, type := 0, pos := "l03_entry.go:116", after := #[], guard := none }) (v := ?_) rfl (by kernel_rfl) (by kernel_rfl) (by kernel_rfl) (fun _ _ _ h => h) (Or.inl ⟨by rfl, ?_⟩) (by assumption) ?_
  rotate_left
  · intro w hSw; (try dsimp only at hSw); go_simp; (try with_reducible rfl)
  (try simp only [Act.put, List.setIfInBounds_toArray, List.set_cons_zero, List.set_cons_succ])
  refine wpAnyH_take (i := 5) (oi := { dst := some 8, op := Op.load 37 (Operand.tmp 7), type := 37, pos := "l03_entry.go:116", after := #[{ on := 4, ground := Ground.data }], guard := none }) (v := ?_) rfl (by kernel_rfl) (by kernel_rfl) (by kernel_rfl) (fun _ _ _ h => h) (Or.inl ⟨by rfl, ?_⟩) (by assumption) ?_
  rotate_left
  · intro w hSw; (try dsimp only at hSw); go_simp; (try with_reducible rfl)
  (try simp only [Act.put, List.setIfInBounds_toArray, List.set_cons_zero, List.set_cons_succ])
  refine wpAnyH_ready (rs := [2]) (by kernel_rfl) (by simp) ?_
  refine AllReadyH.cons (o := { dst := some 5, op := Op.buildSlice 129 1 #[(0, Operand.tmp 4)], type := 129, pos := "l03_entry.go:116", after := #[{ on := 1, ground := Ground.data }], guard := none }) rfl (fun K hK => ?_) (AllReadyH.nil)
  go_simp
  clear hHeld
  refine hK.out _ _ ?_ (fun hHeld => ?_)
  · (try dsimp only)
    first | exact SK.out _ (by assumption) | exact SK.out _ BD | exact SK.out _ (more' (by assumption) _) | exact SK.out _ (more' BD _) | exact SX.out _ _
  clear hK K
  (try simp only [Act.put, List.setIfInBounds_toArray, List.set_cons_zero, List.set_cons_succ])
  refine wpAnyH_ready (rs := [3]) (by kernel_rfl) (by simp) ?_
  refine AllReadyH.cons (o := { dst := some 6, op := Op.call { callee := Callee.value (Operand.func 62), args := #[Operand.tmp 5], argTypes := #[129] }, type := 32, pos := "l03_entry.go:116", after := #[{ on := 2, ground := Ground.data }], guard := none }) rfl (fun K hK => ?_) (AllReadyH.nil)
  go_simp
  refine (CT0.out W0.drew _ (B.trans (BD.mono B.size))).mono ?_
  rintro e w1 ⟨u0, rfl, q0, hb⟩
  have D1 : Below W0.heap.size W0 w1 := BD.trans (hb.mono BD.size)
  have b1 : Below w.heap.size w w1 := B.trans (D1.mono B.size)
  have hs1 : W0.heap.size ≤ w1.heap.size := hb.size
  have Q0 := Lib.hid q0; obtain ⟨p0, e0, rfl⟩ := q0.at.sl; clear q0
  clear hb
  clear hHeld
  refine hK.out _ _ ?_ (fun hHeld => ?_)
  · (try dsimp only)
    first | exact SK.out _ (by assumption) | exact SK.out _ BD | exact SK.out _ (more' (by assumption) _) | exact SK.out _ (more' BD _) | exact SX.out _ _
  clear hK K
  (try simp only [Act.put, List.setIfInBounds_toArray, List.set_cons_zero, List.set_cons_succ])
  refine wpAnyH_ready (rs := [6]) (by kernel_rfl) (by simp) ?_
  refine AllReadyH.cons (o := { dst := some 9, op := Op.call { callee := Callee.value (Operand.func 103), args := #[Operand.tmp 8, Operand.func 96], argTypes := #[37, 130] }, type := 37, pos := "l03_entry.go:116", after := #[{ on := 5, ground := Ground.data }, { on := 3, ground := Ground.chain }], guard := none }) rfl (fun K hK => ?_) (AllReadyH.nil)
  go_simp
  refine (CT1.out w1 b1).mono ?_
  rintro e w2 ⟨u1, rfl, q1, hb⟩
  have D2 : Below W0.heap.size W0 w2 := D1.trans (hb.mono D1.size)
  have b2 : Below w.heap.size w w2 := B.trans (D2.mono B.size)
  have hs2 : w1.heap.size ≤ w2.heap.size := hb.size
  have P := Lib.hid (Q0.out.frame (Same.of_below' hb)); clear Q0; have Q0 := P; clear P
  have Q1 := Lib.hid q1; obtain ⟨p1, e1, rfl⟩ := q1.at.sl; clear q1
  clear hb
  have TX := Lib.hid (TA.out.below D2); have RX := Lib.hid (TR.out.below D2)
  have x0 := RX.out.cell 0 rfl; have f0 := RX.out.soft 0
  have x1 := RX.out.cell 1 rfl; have f1 := RX.out.soft 1
  have SX : Hid (∀ y0 y1 : Value, ((w2.setCell ⟨w.heap.size + 1, 0, none⟩ y0).setCell ⟨w.heap.size + 1, 1, none⟩ y1).cell? ⟨w.heap.size, 0, none⟩ = some (.slice o0 a0.length k0) ∧ ((w2.setCell ⟨w.heap.size + 1, 0, none⟩ y0).setCell ⟨w.heap.size + 1, 1, none⟩ y1).cell? ⟨w.heap.size, 1, none⟩ = some (.slice o1 a1.length k1)) := Lib.hid (fun y0 y1 => ⟨((TX.out.far (by omega) y0).far (by omega) y1).cell 0 rfl, ((TX.out.far (by omega) y0).far (by omega) y1).cell 1 rfl⟩)
  clear hHeld
  refine hK.out _ _ ?_ (fun hHeld => ?_)
  · (try dsimp only)
    first | exact SK.out _ (by assumption) | exact SK.out _ BD | exact SK.out _ (more' (by assumption) _) | exact SK.out _ (more' BD _) | exact SX.out _ _
  clear hK K
  (try simp only [Act.put, List.setIfInBounds_toArray, List.set_cons_zero, List.set_cons_succ])
  refine wpAnyH_take (i := 7) (oi := { dst := some 10, op := Op.build 39 #[(0, Operand.tmp 6), (1, Operand.tmp 9)], type := 39, pos := "l03_entry.go:116", after := #[{ on := 3, ground := Ground.data }, { on := 6, ground := Ground.data }], guard := none }) (v := ?_) rfl (by kernel_rfl) (by kernel_rfl) (by kernel_rfl) (fun _ _ _ h => h) (Or.inl ⟨by rfl, ?_⟩) (by assumption) ?_
  rotate_left
  · intro w hSw; (try dsimp only at hSw); go_simp; (try with_reducible rfl)
  (try simp only [Act.put, List.setIfInBounds_toArray, List.set_cons_zero, List.set_cons_succ])
  refine wpAnyH_ready (rs := [8]) (by kernel_rfl) (by simp) ?_
  refine AllReadyH.cons (o := { dst := none, op := Op.store 39 (Operand.tmp 2) (Operand.tmp 10), type := 0, pos := "l03_entry.go:116", after := #[{ on := 7, ground := Ground.data }, { on := 6, ground := Ground.chain }, { on := 0, ground := Ground.phase }, { on := 1, ground := Ground.phase }, { on := 2, ground := Ground.phase }, { on := 3, ground := Ground.phase }, { on := 4, ground := Ground.phase }, { on := 5, ground := Ground.phase }, { on := 6, ground := Ground.phase }, { on := 7, ground := Ground.phase }], guard := none }) rfl (fun K hK => ?_) (AllReadyH.nil)
  go_simp
  clear hHeld
  refine hK.out _ _ ?_ (fun hHeld => ?_)
  · (try dsimp only)
    first | exact SK.out _ (by assumption) | exact SK.out _ BD | exact SK.out _ (more' (by assumption) _) | exact SK.out _ (more' BD _) | exact SX.out _ _
  clear hK K
  (try simp only [Act.put, List.setIfInBounds_toArray, List.set_cons_zero, List.set_cons_succ])
  refine wpAnyH_done (by kernel_rfl) ?_ _
  have TE := ((RX.out.set 0 (.slice p0 a0.length e0)).set 1 (.slice p1 a1.length e1))
  have j0 := TE.cell 0 rfl
  have j1 := TE.cell 1 rfl
  clear TE
  go_wp2
  refine bodyPost_ret (v := .agg #[.slice p0 a0.length e0, .slice p1 a1.length e1]) (by simp [results, Try.results76, go_sem, j0, j1]) rfl ⟨_, _, rfl, ?_, ?_⟩
  · have hdr : W0.drew.heap.size = W0.heap.size := rfl
    have g0 := ((Q0.out.frame (Same.set _ (g := w.heap.size + 1) 0 (.slice p0 a0.length e0) (by intro h; have := h.1; omega))).frame (Same.set _ (g := w.heap.size + 1) 1 (.slice p1 a1.length e1) (by intro h; have := h.1; omega)))
    have g1 := ((Q1.out.frame (Same.set _ (g := w.heap.size + 1) 0 (.slice p0 a0.length e0) (by intro h; have := h.1; omega))).frame (Same.set _ (g := w.heap.size + 1) 1 (.slice p1 a1.length e1) (by intro h; have := h.1; omega)))
    exact entry_pack a0 a1 _ _ (Fresh W0.drew w1) (Fresh w1 w2) ⟨g0, fun k z => ⟨by have := z.1; omega, by have := z.2; show _ < (World.heap _).size; simp only [setCell_size]; omega⟩, g1, fun k z => ⟨by have := z.1; omega, by have := z.2; show _ < (World.heap _).size; simp only [setCell_size]; omega⟩, fun k h1 h2 => by have := h1.2; have := h2.1; omega, trivial⟩
  · exact ((b2.setCell (p := ⟨w.heap.size + 1, 0, none⟩) (by show w.heap.size ≤ w.heap.size + 1; omega) _).setCell (p := ⟨w.heap.size + 1, 1, none⟩) (by show w.heap.size ≤ w.heap.size + 1; omega) _)
end Go.Proofs.Ytmanlnlhpgdbpaa
/- The program copies a change. -/
namespace Go.Proofs.Ytmanlnlhpgdbpaa
open Go.RowKit
attribute [local go_sem ↓] Go.wp_at_zero Go.wp_at_succ

theorem change_of_entry {S S' : Bs} {w : World} {a0 a1 : Int} {a2 : ByteArray} {a3 : List RdnT} {a4 : List AttrT} {u3 u4 : Value} (h : entryE.Own S w (a3, a4) [u3, u4]) (hs : ∀ b, S b → S' b) : changeE.Own S' w (a0, a1, a2, (a3, a4)) [.int .i64 a0, .int .i64 a1, .string a2, u3, u4] :=
  pair_own (c := [_]) Nil S' (own_int a0) (pair_own (c := [_]) Nil S' (own_int a1) (pair_own (c := [_]) Nil S' (own_str a2) (entryE.ownWide h hs) (fun _ x => x.elim) (fun _ x => x) (fun _ x => x.elim)) (fun _ x => x.elim) (fun _ x => x) (fun _ x => x.elim)) (fun _ x => x.elim) (fun _ x => x) (fun _ x => x.elim)
set_option maxRecDepth 100000 in
set_option maxHeartbeats 2000000 in
theorem cpyChange_any {S : Bs} (a0 a1 : Int) (a2 : ByteArray) (a3 : List RdnT) (a4 : List AttrT) (v3 v4 : Value) (w : World) (h3 : SlAt rdnE S w a3 v3) (h4 : SlAt attrE S w a4 v4) (hz : changeE.sz (a0, a1, a2, (a3, a4)) ≤ 1048576) :
    Calls Try.prog 39 #[.agg #[.int .i64 a0, .int .i64 a1, .string a2, v3, v4]] w fun e w' => ∃ u3 u4, e = .returned (.agg #[.int .i64 a0, .int .i64 a1, .string a2, u3, u4]) ∧ changeE.Own (Fresh w w') w' (a0, a1, a2, (a3, a4)) [.int .i64 a0, .int .i64 a1, .string a2, u3, u4] ∧ Below w.heap.size w w' := by
  have HE : changeE.sz (a0, a1, a2, (a3, a4)) = 0 + (0 + (a2.size + entryE.sz (a3, a4))) := rfl
  rw [HE] at hz
  obtain ⟨o3, k3, rfl⟩ := h3.sl
  obtain ⟨o4, k4, rfl⟩ := h4.sl
  have CE : Hid (∀ W : World, Below w.heap.size w W → Calls Try.prog 76 #[.agg #[.slice o3 a3.length k3, .slice o4 a4.length k4]] W fun e w' => ∃ u0 u1, e = .returned (.agg #[u0, u1]) ∧ entryE.Own (Fresh W w') w' (a3, a4) [u0, u1] ∧ Below W.heap.size W w') := Lib.hid (fun W b => cpyEntry_any a3 a4 _ _ W (h3.frame (Same.of_below' b)) (h4.frame (Same.of_below' b)) (by omega))
  have CC : Hid (∀ W : World, Calls Try.prog 75 #[.slice (some ⟨W.heap.size, 0, none⟩) 1 1] (W.alloc (.cells #[.string a2] 9)) fun e w' => e = .returned (.string a2) ∧ Below W.heap.size W w') := Lib.hid (fun W => concat_copy a2 W (by omega))
  clear h3 h4 hz HE
  go_enter Try.func39, Try.ntmps39
  go_wp2_with fail
  refine calls_by (fun W => ∃ W0, W = W0.alloc (.cells #[.string a2] 9) ∧ W0.heap.size = w.heap.size + 1 + 1 ∧ Below w.heap.size w W0 ∧ Blk W0 w.heap.size [.int .i64 a0, .int .i64 a1, .string a2, .slice o3 a3.length k3, .slice o4 a4.length k4] ∧ Blk W0 (w.heap.size + 1) [.int .i64 0, .int .i64 0, .string ⟨#[]⟩, .slice none 0 0, .slice none 0 0]) ⟨_, rfl, by simp, more' (more' (Below.refl _ _) _) _, (Blk.new _ _ _).alloc _, blk_at _ _ _ (by simp)⟩ ?_
  rintro W ⟨W0, rfl, hs, b0, t0, r0⟩
  rw [← hs]
  refine (CC.out W0).mono ?_
  rintro e w1 ⟨rfl, hb⟩
  have b1 := b0.trans (hb.mono b0.size); have T1 := Lib.hid (t0.below hb); have R1 := Lib.hid (r0.below hb)
  clear hb t0 b0 hs r0
  have x2 := T1.out.cell 2 rfl; have f2 := T1.out.soft 2
  have T2 := Lib.hid (T1.out.set 2 (.string a2)); have R2 := Lib.hid (R1.out.far (R := w.heap.size) (j := 2) (by omega) (.string a2))
  have x3 := T2.out.cell 3 rfl; have x4 := T2.out.cell 4 rfl
  go_wp2_with fail
  refine calls_by (fun W => Below w.heap.size w W ∧ Blk W w.heap.size [.int .i64 a0, .int .i64 a1, .string a2, .slice o3 a3.length k3, .slice o4 a4.length k4] ∧ Blk W (w.heap.size + 1) [.int .i64 0, .int .i64 0, .string ⟨#[]⟩, .slice none 0 0, .slice none 0 0]) ⟨b1.setCell (p := ⟨w.heap.size, 2, none⟩) (Nat.le_refl _) _, T2.out, R2.out⟩ ?_
  clear x2 f2 x3 x4 T2 T1 R1 R2 b1
  rintro W2 ⟨b2, t2, r2⟩
  have hl2 : w.heap.size + 1 < W2.heap.size := r2.lt
  refine (CE.out W2 b2).mono ?_
  rintro e w3 ⟨u3, u4, rfl, q, hb⟩
  obtain ⟨⟨p3, n3, c3, rfl⟩, p4, n4, c4, rfl⟩ := entry_sl q rfl
  have b3 := b2.trans (hb.mono b2.size); have T3 := Lib.hid (t2.below hb); have R3 := Lib.hid (r2.below hb); have Q := Lib.hid q
  clear hb t2 b2 q r2
  have f3 := T3.out.soft 3; have f4 := T3.out.soft 4
  have x3 := T3.out.cell 3 rfl; have x4 := T3.out.cell 4 rfl
  have TE := (T3.out.set 3 (.slice p3 n3 c3)).set 4 (.slice p4 n4 c4)
  have y0 := TE.cell 0 rfl; have y1 := TE.cell 1 rfl; have y2 := TE.cell 2 rfl; have y3 := TE.cell 3 rfl; have y4 := TE.cell 4 rfl
  have RS := (R3.out.far (R := w.heap.size) (j := 3) (by omega) (.slice p3 n3 c3)).far (R := w.heap.size) (j := 4) (by omega) (.slice p4 n4 c4)
  have z0 := RS.cell 0 rfl; have z1 := RS.cell 1 rfl; have z2 := RS.cell 2 rfl; have z3 := RS.cell 3 rfl; have z4 := RS.cell 4 rfl
  have g0 := RS.soft 0; have g1 := RS.soft 1; have g2 := RS.soft 2; have g3 := RS.soft 3; have g4 := RS.soft 4
  have RE := ((((RS.set 0 (.int .i64 a0)).set 1 (.int .i64 a1)).set 2 (.string a2)).set 3 (.slice p3 n3 c3)).set 4 (.slice p4 n4 c4)
  have j0 := RE.cell 0 rfl; have j1 := RE.cell 1 rfl; have j2 := RE.cell 2 rfl; have j3 := RE.cell 3 rfl; have j4 := RE.cell 4 rfl
  clear TE RS RE
  go_wp2
  refine bodyPost_ret (v := .agg #[.int .i64 a0, .int .i64 a1, .string a2, .slice p3 n3 c3, .slice p4 n4 c4]) (by simp [results, Try.results39, go_sem, j0, j1, j2, j3, j4]) rfl ⟨_, _, rfl, ?_, ?_⟩
  · refine change_of_entry (S := Fresh W2 w3) ?_ (fun b h => ⟨by have := h.1; omega, by have := h.2; show _ < (World.heap _).size; simp only [setCell_size]; omega⟩)
    exact entryE.ownFrame (entryE.ownFrame (entryE.ownFrame (entryE.ownFrame (entryE.ownFrame (entryE.ownFrame (entryE.ownFrame Q.out (Same.set _ (g := w.heap.size) 3 _ (by intro h; have := h.1; omega))) (Same.set _ (g := w.heap.size) 4 _ (by intro h; have := h.1; omega))) (Same.set _ (g := w.heap.size + 1) 0 _ (by intro h; have := h.1; omega))) (Same.set _ (g := w.heap.size + 1) 1 _ (by intro h; have := h.1; omega))) (Same.set _ (g := w.heap.size + 1) 2 _ (by intro h; have := h.1; omega))) (Same.set _ (g := w.heap.size + 1) 3 _ (by intro h; have := h.1; omega))) (Same.set _ (g := w.heap.size + 1) 4 _ (by intro h; have := h.1; omega))
  · exact ((((((b3.setCell (p := ⟨w.heap.size, 3, none⟩) (Nat.le_refl _) _).setCell (p := ⟨w.heap.size, 4, none⟩) (Nat.le_refl _) _).setCell (p := ⟨w.heap.size + 1, 0, none⟩) (by show w.heap.size ≤ w.heap.size + 1; omega) _).setCell (p := ⟨w.heap.size + 1, 1, none⟩) (by show w.heap.size ≤ w.heap.size + 1; omega) _).setCell (p := ⟨w.heap.size + 1, 2, none⟩) (by show w.heap.size ≤ w.heap.size + 1; omega) _).setCell (p := ⟨w.heap.size + 1, 3, none⟩) (by show w.heap.size ≤ w.heap.size + 1; omega) _).setCell (p := ⟨w.heap.size + 1, 4, none⟩) (by show w.heap.size ≤ w.heap.size + 1; omega) _
end Go.Proofs.Ytmanlnlhpgdbpaa
/- The helpers of the laws: copies. -/
namespace Go.Proofs.Ytmanlnlhpgdbpaa
open Go.RowKit
attribute [local go_sem ↓] Go.wp_at_zero Go.wp_at_succ

theorem Try.infoTRdn : (Try.prog.info? 97).map (fun i => (i.zero, i.size, i.bytes)) = some (some (.agg #[.string ByteArray.empty, .string ByteArray.empty]), 2, 32) := by kernel_rfl
theorem mkRdn (n : Nat) (hn : n ≤ 1048576) (W : World) : ∃ C : Array Value, C.size = n * 2 ∧
    (Instr.makeSlice 32 (.int .i64 (n : Int)) (.int .i64 (n : Int))).run Try.prog W = .ok (.slice (some ⟨W.heap.size, 0, none⟩) n n) (W.alloc (.cells C 97)) := by
  obtain ⟨i0, hi, hz0, hz1, hz2⟩ := info_parts Try.infoTRdn
  have := run_make (P := Try.prog) W 32 97 i0 _ Try.underlying32 hi hz0 .i64 .i64 (n : Int) (n : Int) (by omega) (by omega) (by rw [hz2]; omega) (by omega)
  rw [hz1] at this
  refine ⟨madeCells (Value.cells (.agg #[.string ByteArray.empty, .string ByteArray.empty])) (n * 2), size_madeCells _ _, ?_⟩
  simpa using this
set_option maxRecDepth 100000 in
set_option maxHeartbeats 4000000 in
theorem toRdn_at  (a0 : ByteArray) (a1 : ByteArray)  (w : World)   :
    Calls Try.prog 124 #[.agg #[.string a0, .string a1]] w fun e w' => e = .returned (.agg #[.string a0, .string a1]) ∧ rdnE.Own (Fresh w w') w' (a0, a1) [.string a0, .string a1] ∧ Below w.heap.size w w' := by
  go_enter Try.func124, Try.ntmps124
  go_wp2
  refine bodyPost_ret (v := .agg #[.string a0, .string a1]) (by simp [results, Try.results124, go_sem]) rfl ⟨rfl, ?_, ?_⟩
  · exact rdn_pack a0 a1 trivial
  · exact more' (more' (more' (Below.refl _ _) _) _) _
set_option maxRecDepth 100000 in
set_option maxHeartbeats 4000000 in
theorem toRdnS_at {S : Bs} (v : Value) (d : List RdnT) (w : World) (hd : SlAt rdnE S w d v) (hz : d.length + szL rdnE d ≤ 1048576) :
    Calls Try.prog 100 #[v] w fun e w' => ∃ u, e = .returned u ∧ SlOwn rdnE (Fresh w w') w' d u ∧ Below w.heap.size w w' := by
  obtain ⟨ao, cap, rfl⟩ := hd.sl
  have HD := Lib.hid hd; clear hd
  have HL := Lib.hid hz
  have hl : d.length ≤ 1048576 := by omega
  clear hz
  obtain ⟨C, hC, hmk⟩ := mkRdn d.length hl w
  have HC := Lib.hid hC; clear hC
  go_enter Try.func100, Try.ntmps100
  go_wp2
  clear hmk
  go_loopw [4] (fun i wr => ∃ k : Nat, k ≤ d.length ∧ i = .int .i64 k ∧ Build rdnE wr w.heap.size d.length (d.take k) ∧ Below w.heap.size w wr) (fun i _ => d.length - (intOf i).toNat)
  case atStart => exact ⟨0, Nat.zero_le _, rfl, Build.new _ _ _ _ HC.out, (Below.refl _ _).alloc (Nat.le_refl _) _⟩
  case round =>
    obtain ⟨k, hk, rfl, hR, hbel⟩ := hrel
    have HR := Lib.hid hR; clear hR
    have hsz := hbel.size
    by_cases hlt : k < d.length
    · obtain ⟨b, off, a0, a1, rfl, _, hb0, hx, ⟨hc0, hc1⟩, _⟩ := rdn_row (HD.out.frame (Same.of_below' hbel)) hlt
      have HT : Hid (d.take (k + 1) = d.take k ++ [(a0, a1)]) := Lib.hid (by rw [List.take_succ_eq_append_getElem hlt, hx])
      have HK : Hid ((d.take k).length = k) := Lib.hid (by rw [List.length_take]; omega)
      have HZ : Hid (rdnE.sz (a0, a1) ≤ 1048576) := Lib.hid (by have h1 := szL_mem rdnE (List.getElem_mem hlt); rw [hx] at h1; have := HL.out; omega)
      clear hx
      go_wp2_with fail
      refine (toRdn_at a0 a1 wr ).mono ?_
      rintro e w2 ⟨rfl, hq, hb2⟩
      have HR2 := Lib.hid (HR.out.below hb2)
      have B2 := Lib.hid (hbel.trans (hb2.mono hsz))
      have HQ := Lib.hid hq
      have HB := Lib.hid hb2
      clear hb2 hq hc0 hc1
      obtain ⟨x0, c0⟩ := HR2.out.cell (k := k) (u := 0) hlt (by decide)
      have c0 : w2.cell? ⟨w.heap.size, k * 2, none⟩ = some x0 := c0
      have f0 := HR2.out.soft (k * 2)
      obtain ⟨x1, c1⟩ := HR2.out.cell (k := k) (u := 1) hlt (by decide)
      have c1 : w2.cell? ⟨w.heap.size, k * 2 + 1, none⟩ = some x1 := c1
      have f1 := HR2.out.soft (k * 2 + 1)
      go_wp2
      go_roundw
      case rel => exact ⟨k + 1, by omega, by go_num, by rw [HT.out]; exact HR.out.row (o := k * 2) (cs := [.string a0, .string a1]) (by rw [HK.out]; exact hlt) (by rw [HK.out]; rfl) HB.out HQ.out, ((B2.out.setCell (Nat.le_refl _) _).setCell (Nat.le_refl _) _)⟩
      case measure => simp [intOf]; omega
    · have e : d.take k = d := List.take_of_length_le (by omega)
      rw [e] at HR
      clear e
      go_wp2
      go_ret
      exact ⟨_, rfl, HR.out.own, hbel⟩
end Go.Proofs.Ytmanlnlhpgdbpaa
/- The helpers of the laws: copies. -/
namespace Go.Proofs.Ytmanlnlhpgdbpaa
open Go.RowKit
attribute [local go_sem ↓] Go.wp_at_zero Go.wp_at_succ

theorem Try.infoTEntry : (Try.prog.info? 39).map (fun i => (i.zero, i.size, i.bytes)) = some (some (.agg #[.slice none 0 0, .slice none 0 0]), 2, 48) := by kernel_rfl
theorem mkEntry (n : Nat) (hn : n ≤ 1048576) (W : World) : ∃ C : Array Value, C.size = n * 2 ∧
    (Instr.makeSlice 55 (.int .i64 (n : Int)) (.int .i64 (n : Int))).run Try.prog W = .ok (.slice (some ⟨W.heap.size, 0, none⟩) n n) (W.alloc (.cells C 39)) := by
  obtain ⟨i0, hi, hz0, hz1, hz2⟩ := info_parts Try.infoTEntry
  have := run_make (P := Try.prog) W 55 39 i0 _ Try.underlying55 hi hz0 .i64 .i64 (n : Int) (n : Int) (by omega) (by omega) (by rw [hz2]; omega) (by omega)
  rw [hz1] at this
  refine ⟨madeCells (Value.cells (.agg #[.slice none 0 0, .slice none 0 0])) (n * 2), size_madeCells _ _, ?_⟩
  simpa using this
set_option maxRecDepth 100000 in
set_option maxHeartbeats 4000000 in
theorem toEntry_at {S : Bs} (a0 : (List RdnT)) (a1 : (List AttrT)) (v0 v1 : Value) (w : World) (h0 : SlAt rdnE S w a0 v0) (h1 : SlAt attrE S w a1 v1) (hz : entryE.sz (a0, a1) ≤ 1048576) :
    Calls Try.prog 72 #[.agg #[v0, v1]] w fun e w' => ∃ u0 u1, e = .returned (.agg #[u0, u1]) ∧ entryE.Own (Fresh w w') w' (a0, a1) [u0, u1] ∧ Below w.heap.size w w' := by
  have HE : entryE.sz (a0, a1) = (a0.length + szL rdnE a0) + ((a1.length + szL attrE a1)) := rfl
  rw [HE] at hz
  have C0 : Hid (∀ W : World, Below w.heap.size w W → Calls Try.prog 100 #[v0] W fun e w' => ∃ u, e = .returned u ∧ SlOwn rdnE (Fresh W w') w' a0 u ∧ Below W.heap.size W w') := Lib.hid (fun W b => toRdnS_at v0 a0 W (h0.frame (Same.of_below' b)) (by omega))
  have C1 : Hid (∀ W : World, Below w.heap.size w W → Calls Try.prog 101 #[v1] W fun e w' => ∃ u, e = .returned u ∧ SlOwn attrE (Fresh W w') w' a1 u ∧ Below W.heap.size W w') := Lib.hid (fun W b => toAttrS_at v1 a1 W (h1.frame (Same.of_below' b)) (by omega))
  obtain ⟨o0, k0, rfl⟩ := h0.sl
  obtain ⟨o1, k1, rfl⟩ := h1.sl
  clear hz HE h0 h1
  go_enter Try.func72, Try.ntmps72
  go_wp2_with fail
  refine calls_by (fun W => Below w.heap.size w W ∧ Blk W w.heap.size [.slice o0 a0.length k0, .slice o1 a1.length k1] ∧ Blk W (w.heap.size + 1) [.slice none 0 0, .slice none 0 0] ∧ Blk W (w.heap.size + 1 + 1) [.slice none 0 0, .slice none 0 0]) ⟨more' (more' (more' (Below.refl _ _) _) _) _, ((Blk.new _ _ _).alloc _).alloc _, (blk_at _ _ _ (by simp)).alloc _, blk_at _ _ _ (by simp)⟩ ?_
  rintro W0 ⟨b0, t0, r0, s0⟩
  have hn : w.heap.size + 1 + 1 < W0.heap.size := s0.lt
  refine (C0.out W0 b0).mono ?_
  rintro e y1 ⟨u0, rfl, q0, hb⟩
  obtain ⟨p0, j0, rfl⟩ := q0.at.sl
  have T := Lib.hid (t0.below hb); have Rr := Lib.hid (r0.below hb); have U := Lib.hid (s0.below hb); have B := Lib.hid (b0.trans (hb.mono b0.size)); have hs1 := hb.size
  have Q0 := Lib.hid q0
  clear t0 r0 s0 b0 hb q0 C0
  have m0 := T.out.cell 0 rfl
  have c0 := U.out.cell 0 rfl
  have f0 := U.out.soft 0
  have m1 := T.out.cell 1 rfl
  have c1 := U.out.cell 1 rfl
  have f1 := U.out.soft 1
  go_wp2_with fail
  have hW : y1.heap.size = y1.heap.size := rfl
  refine calls_by (fun W => y1.heap.size ≤ W.heap.size ∧ Below w.heap.size w W ∧ Blk W w.heap.size [.slice o0 a0.length k0, .slice o1 a1.length k1] ∧ Blk W (w.heap.size + 1) [.slice none 0 0, .slice none 0 0] ∧ Blk W (w.heap.size + 1 + 1) [.slice p0 a0.length j0, .slice none 0 0] ∧ SlOwn rdnE (Fresh W0 y1) W a0 (.slice p0 a0.length j0)) ⟨by simp [World.setCell], (B.out.setCell (p := ⟨w.heap.size + 1 + 1, 0, none⟩) (by show w.heap.size ≤ w.heap.size + 1 + 1; omega) _), (T.out.far (by omega) _), (Rr.out.far (by omega) _), (U.out.set 0 _), (Q0.out.frame (Same.set _ _ _ (by intro h; have := h.1; omega)))⟩ ?_
  clear T Rr U B Q0
  rintro W1 ⟨hl1, b1, t1, r1, s1, q0⟩
  have Q0 := Lib.hid q0; clear q0
  refine (C1.out W1 b1).mono ?_
  rintro e y2 ⟨u1, rfl, q1, hb⟩
  obtain ⟨p1, j1, rfl⟩ := q1.at.sl
  have T := Lib.hid (t1.below hb); have Rr := Lib.hid (r1.below hb); have U := Lib.hid (s1.below hb); have B := Lib.hid (b1.trans (hb.mono b1.size)); have hs2 := hb.size
  have Q1 := Lib.hid q1
  have Q0 := Lib.hid (Q0.out.frame (Same.of_below' hb))
  clear t1 r1 s1 b1 hb q1 C1
  clear c0 f0 m0 c1 f1 m1
  have m0 := T.out.cell 0 rfl
  have c0 := U.out.cell 0 rfl
  have f0 := U.out.soft 0
  have m1 := T.out.cell 1 rfl
  have c1 := U.out.cell 1 rfl
  have f1 := U.out.soft 1
  have TE := (((Rr.out.far (R := w.heap.size + 1 + 1) (j := 1) (by omega) (.slice p1 a1.length j1)).set 0 (.slice p0 a0.length j0)).set 1 (.slice p1 a1.length j1))
  have d0 := Rr.out.cell 0 rfl
  have g0 := Rr.out.soft 0
  have k100 := TE.cell 0 rfl
  have d1 := Rr.out.cell 1 rfl
  have g1 := Rr.out.soft 1
  have k101 := TE.cell 1 rfl
  clear TE
  go_wp2_with fail
  refine bodyPost_ret (v := .agg #[.slice p0 a0.length j0, .slice p1 a1.length j1]) (by simp [results, Try.results72, go_sem, k100, k101]) rfl ⟨_, _, rfl, ?_, ?_⟩
  · exact entry_pack a0 a1 _ _ (Fresh W0 y1) (Fresh W1 y2) ⟨(((Q0.out.frame (Same.set _ _ _ (by intro h; have := h.1; omega))).frame (Same.set _ _ _ (by intro h; have := h.1; omega))).frame (Same.set _ _ _ (by intro h; have := h.1; omega))), (fun k z => ⟨by have := z.1; omega, by have := z.2; show _ < (World.heap _).size; simp only [setCell_size]; omega⟩), (((Q1.out.frame (Same.set _ _ _ (by intro h; have := h.1; omega))).frame (Same.set _ _ _ (by intro h; have := h.1; omega))).frame (Same.set _ _ _ (by intro h; have := h.1; omega))), (fun k z => ⟨by have := z.1; omega, by have := z.2; show _ < (World.heap _).size; simp only [setCell_size]; omega⟩), (fun k z y => by have := z.2; have := y.1; omega), trivial⟩
  · exact (((B.out.setCell (p := ⟨w.heap.size + 1 + 1, 1, none⟩) (by show w.heap.size ≤ w.heap.size + 1 + 1; omega) _).setCell (p := ⟨w.heap.size + 1, 0, none⟩) (by show w.heap.size ≤ w.heap.size + 1; omega) _).setCell (p := ⟨w.heap.size + 1, 1, none⟩) (by show w.heap.size ≤ w.heap.size + 1; omega) _)
end Go.Proofs.Ytmanlnlhpgdbpaa
/- The helpers of the laws: copies. -/
namespace Go.Proofs.Ytmanlnlhpgdbpaa
open Go.RowKit
attribute [local go_sem ↓] Go.wp_at_zero Go.wp_at_succ

theorem Try.infoTChange : (Try.prog.info? 74).map (fun i => (i.zero, i.size, i.bytes)) = some (some (.agg #[.int .i64 0, .int .i64 0, .string ByteArray.empty, .slice none 0 0, .slice none 0 0]), 5, 80) := by kernel_rfl
theorem mkChange (n : Nat) (hn : n ≤ 1048576) (W : World) : ∃ C : Array Value, C.size = n * 5 ∧
    (Instr.makeSlice 24 (.int .i64 (n : Int)) (.int .i64 (n : Int))).run Try.prog W = .ok (.slice (some ⟨W.heap.size, 0, none⟩) n n) (W.alloc (.cells C 74)) := by
  obtain ⟨i0, hi, hz0, hz1, hz2⟩ := info_parts Try.infoTChange
  have := run_make (P := Try.prog) W 24 74 i0 _ Try.underlying24 hi hz0 .i64 .i64 (n : Int) (n : Int) (by omega) (by omega) (by rw [hz2]; omega) (by omega)
  rw [hz1] at this
  refine ⟨madeCells (Value.cells (.agg #[.int .i64 0, .int .i64 0, .string ByteArray.empty, .slice none 0 0, .slice none 0 0])) (n * 5), size_madeCells _ _, ?_⟩
  simpa using this
set_option maxRecDepth 100000 in
set_option maxHeartbeats 4000000 in
theorem toChange_at {S : Bs} (a0 : Int) (a1 : Int) (a2 : ByteArray) (a3 : (List RdnT)) (a4 : (List AttrT)) (v3 v4 : Value) (w : World) (h3 : SlAt rdnE S w a3 v3) (h4 : SlAt attrE S w a4 v4) (hz : changeE.sz (a0, a1, a2, (a3, a4)) ≤ 1048576) :
    Calls Try.prog 37 #[.agg #[.int .i64 a0, .int .i64 a1, .string a2, v3, v4]] w fun e w' => ∃ u3 u4, e = .returned (.agg #[.int .i64 a0, .int .i64 a1, .string a2, u3, u4]) ∧ changeE.Own (Fresh w w') w' (a0, a1, a2, (a3, a4)) [.int .i64 a0, .int .i64 a1, .string a2, u3, u4] ∧ Below w.heap.size w w' := by
  have HE : changeE.sz (a0, a1, a2, (a3, a4)) = 0 + (0 + (a2.size + (entryE.sz (a3, a4)))) := rfl
  rw [HE] at hz
  have C3 : Hid (∀ W : World, Below w.heap.size w W → Calls Try.prog 72 #[.agg #[v3, v4]] W fun e w' => ∃ u3 u4, e = .returned (.agg #[u3, u4]) ∧ entryE.Own (Fresh W w') w' (a3, a4) [u3, u4] ∧ Below W.heap.size W w') := Lib.hid (fun W b => toEntry_at a3 a4 v3 v4 W (h3.frame (Same.of_below' b)) (h4.frame (Same.of_below' b)) (by omega))
  obtain ⟨o3, k3, rfl⟩ := h3.sl
  obtain ⟨o4, k4, rfl⟩ := h4.sl
  clear hz HE h3 h4
  go_enter Try.func37, Try.ntmps37
  go_wp2_with fail
  refine calls_by (fun W => Below w.heap.size w W ∧ Blk W w.heap.size [.int .i64 a0, .int .i64 a1, .string a2, .slice o3 a3.length k3, .slice o4 a4.length k4] ∧ Blk W (w.heap.size + 1) [.int .i64 0, .int .i64 0, .string ⟨#[]⟩, .slice none 0 0, .slice none 0 0] ∧ Blk W (w.heap.size + 1 + 1) [.int .i64 a0, .int .i64 a1, .string a2, .slice none 0 0, .slice none 0 0]) ⟨more' (more' (more' (Below.refl _ _) _) _) _, ((Blk.new _ _ _).alloc _).alloc _, (blk_at _ _ _ (by simp)).alloc _, blk_at _ _ _ (by simp)⟩ ?_
  rintro W0 ⟨b0, t0, r0, s0⟩
  have hn : w.heap.size + 1 + 1 < W0.heap.size := s0.lt
  refine (C3.out W0 b0).mono ?_
  rintro e y1 ⟨u3, u4, rfl, q3, hb⟩
  obtain ⟨Z3, Z4, r3_, i3_, r4_, i4_, d3_4, _⟩ := entry_op q3
  obtain ⟨p3, j3, rfl⟩ := r3_.at.sl
  obtain ⟨p4, j4, rfl⟩ := r4_.at.sl
  have T := Lib.hid (t0.below hb); have Rr := Lib.hid (r0.below hb); have U := Lib.hid (s0.below hb); have B := Lib.hid (b0.trans (hb.mono b0.size)); have hs1 := hb.size
  have Q3 := Lib.hid r3_
  have Q4 := Lib.hid r4_
  clear t0 r0 s0 b0 hb q3 C3
  clear r3_ r4_
  have m0 := T.out.cell 0 rfl
  have c0 := U.out.cell 0 rfl
  have f0 := U.out.soft 0
  have m1 := T.out.cell 1 rfl
  have c1 := U.out.cell 1 rfl
  have f1 := U.out.soft 1
  have m2 := T.out.cell 2 rfl
  have c2 := U.out.cell 2 rfl
  have f2 := U.out.soft 2
  have m3 := T.out.cell 3 rfl
  have c3 := U.out.cell 3 rfl
  have f3 := U.out.soft 3
  have m4 := T.out.cell 4 rfl
  have c4 := U.out.cell 4 rfl
  have f4 := U.out.soft 4
  have TE := (((((((Rr.out.far (R := w.heap.size + 1 + 1) (j := 3) (by omega) (.slice p3 a3.length j3)).far (R := w.heap.size + 1 + 1) (j := 4) (by omega) (.slice p4 a4.length j4)).set 0 (.int .i64 a0)).set 1 (.int .i64 a1)).set 2 (.string a2)).set 3 (.slice p3 a3.length j3)).set 4 (.slice p4 a4.length j4))
  have d0 := Rr.out.cell 0 rfl
  have g0 := Rr.out.soft 0
  have k100 := TE.cell 0 rfl
  have d1 := Rr.out.cell 1 rfl
  have g1 := Rr.out.soft 1
  have k101 := TE.cell 1 rfl
  have d2 := Rr.out.cell 2 rfl
  have g2 := Rr.out.soft 2
  have k102 := TE.cell 2 rfl
  have d3 := Rr.out.cell 3 rfl
  have g3 := Rr.out.soft 3
  have k103 := TE.cell 3 rfl
  have d4 := Rr.out.cell 4 rfl
  have g4 := Rr.out.soft 4
  have k104 := TE.cell 4 rfl
  clear TE
  go_wp2_with fail
  refine bodyPost_ret (v := .agg #[.int .i64 a0, .int .i64 a1, .string a2, .slice p3 a3.length j3, .slice p4 a4.length j4]) (by simp [results, Try.results37, go_sem, k100, k101, k102, k103, k104]) rfl ⟨_, _, rfl, ?_, ?_⟩
  · exact change_pack a0 a1 a2 a3 a4 _ _ Z3 Z4 ⟨(((((((Q3.out.frame (Same.set _ _ _ (by intro h; have := (i3_ _ h).1; omega))).frame (Same.set _ _ _ (by intro h; have := (i3_ _ h).1; omega))).frame (Same.set _ _ _ (by intro h; have := (i3_ _ h).1; omega))).frame (Same.set _ _ _ (by intro h; have := (i3_ _ h).1; omega))).frame (Same.set _ _ _ (by intro h; have := (i3_ _ h).1; omega))).frame (Same.set _ _ _ (by intro h; have := (i3_ _ h).1; omega))).frame (Same.set _ _ _ (by intro h; have := (i3_ _ h).1; omega))), (fun k z => ⟨by have := (i3_ k z).1; omega, by have := (i3_ k z).2; show _ < (World.heap _).size; simp only [setCell_size]; omega⟩), (((((((Q4.out.frame (Same.set _ _ _ (by intro h; have := (i4_ _ h).1; omega))).frame (Same.set _ _ _ (by intro h; have := (i4_ _ h).1; omega))).frame (Same.set _ _ _ (by intro h; have := (i4_ _ h).1; omega))).frame (Same.set _ _ _ (by intro h; have := (i4_ _ h).1; omega))).frame (Same.set _ _ _ (by intro h; have := (i4_ _ h).1; omega))).frame (Same.set _ _ _ (by intro h; have := (i4_ _ h).1; omega))).frame (Same.set _ _ _ (by intro h; have := (i4_ _ h).1; omega))), (fun k z => ⟨by have := (i4_ k z).1; omega, by have := (i4_ k z).2; show _ < (World.heap _).size; simp only [setCell_size]; omega⟩), d3_4, trivial⟩
  · exact (((((((B.out.setCell (p := ⟨w.heap.size + 1 + 1, 3, none⟩) (by show w.heap.size ≤ w.heap.size + 1 + 1; omega) _).setCell (p := ⟨w.heap.size + 1 + 1, 4, none⟩) (by show w.heap.size ≤ w.heap.size + 1 + 1; omega) _).setCell (p := ⟨w.heap.size + 1, 0, none⟩) (by show w.heap.size ≤ w.heap.size + 1; omega) _).setCell (p := ⟨w.heap.size + 1, 1, none⟩) (by show w.heap.size ≤ w.heap.size + 1; omega) _).setCell (p := ⟨w.heap.size + 1, 2, none⟩) (by show w.heap.size ≤ w.heap.size + 1; omega) _).setCell (p := ⟨w.heap.size + 1, 3, none⟩) (by show w.heap.size ≤ w.heap.size + 1; omega) _).setCell (p := ⟨w.heap.size + 1, 4, none⟩) (by show w.heap.size ≤ w.heap.size + 1; omega) _)
set_option maxRecDepth 100000 in
set_option maxHeartbeats 4000000 in
theorem toChangeS_at {S : Bs} (v : Value) (d : List ChangeT) (w : World) (hd : SlAt changeE S w d v) (hz : d.length + szL changeE d ≤ 1048576) :
    Calls Try.prog 8 #[v] w fun e w' => ∃ u, e = .returned u ∧ SlOwn changeE (Fresh w w') w' d u ∧ Below w.heap.size w w' := by
  obtain ⟨ao, cap, rfl⟩ := hd.sl
  have HD := Lib.hid hd; clear hd
  have HL := Lib.hid hz
  have hl : d.length ≤ 1048576 := by omega
  clear hz
  obtain ⟨C, hC, hmk⟩ := mkChange d.length hl w
  have HC := Lib.hid hC; clear hC
  go_enter Try.func8, Try.ntmps8
  go_wp2
  clear hmk
  go_loopw [4] (fun i wr => ∃ k : Nat, k ≤ d.length ∧ i = .int .i64 k ∧ Build changeE wr w.heap.size d.length (d.take k) ∧ Below w.heap.size w wr) (fun i _ => d.length - (intOf i).toNat)
  case atStart => exact ⟨0, Nat.zero_le _, rfl, Build.new _ _ _ _ HC.out, (Below.refl _ _).alloc (Nat.le_refl _) _⟩
  case round =>
    obtain ⟨k, hk, rfl, hR, hbel⟩ := hrel
    have HR := Lib.hid hR; clear hR
    have hsz := hbel.size
    by_cases hlt : k < d.length
    · obtain ⟨b, off, a0, a1, a2, a3, a4, v3, v4, rfl, _, hb0, hx, ⟨hc0, hc1, hc2, hc3, hc4⟩, s3, s4, _⟩ := change_row (HD.out.frame (Same.of_below' hbel)) hlt
      have HT : Hid (d.take (k + 1) = d.take k ++ [(a0, a1, a2, (a3, a4))]) := Lib.hid (by rw [List.take_succ_eq_append_getElem hlt, hx])
      have HK : Hid ((d.take k).length = k) := Lib.hid (by rw [List.length_take]; omega)
      have HZ : Hid (changeE.sz (a0, a1, a2, (a3, a4)) ≤ 1048576) := Lib.hid (by have h1 := szL_mem changeE (List.getElem_mem hlt); rw [hx] at h1; have := HL.out; omega)
      clear hx
      have HV3 := Lib.hid s3; clear s3
      have HV4 := Lib.hid s4; clear s4
      obtain ⟨o3, k3, rfl⟩ := HV3.out.sl
      obtain ⟨o4, k4, rfl⟩ := HV4.out.sl
      go_wp2_with fail
      refine (toChange_at a0 a1 a2 a3 a4 _ _ wr HV3.out HV4.out HZ.out).mono ?_
      rintro e w2 ⟨u3, u4, rfl, hq, hb2⟩
      have HR2 := Lib.hid (HR.out.below hb2)
      have B2 := Lib.hid (hbel.trans (hb2.mono hsz))
      have HQ := Lib.hid hq
      have HB := Lib.hid hb2
      clear hb2 hq hc0 hc1 hc2 hc3 hc4
      have hsl := change_sl HQ.out rfl
      obtain ⟨⟨p3, l3, j3, rfl⟩, ⟨p4, l4, j4, rfl⟩⟩ := hsl
      obtain ⟨x0, c0⟩ := HR2.out.cell (k := k) (u := 0) hlt (by decide)
      have c0 : w2.cell? ⟨w.heap.size, k * 5, none⟩ = some x0 := c0
      have f0 := HR2.out.soft (k * 5)
      obtain ⟨x1, c1⟩ := HR2.out.cell (k := k) (u := 1) hlt (by decide)
      have c1 : w2.cell? ⟨w.heap.size, k * 5 + 1, none⟩ = some x1 := c1
      have f1 := HR2.out.soft (k * 5 + 1)
      obtain ⟨x2, c2⟩ := HR2.out.cell (k := k) (u := 2) hlt (by decide)
      have c2 : w2.cell? ⟨w.heap.size, k * 5 + 2, none⟩ = some x2 := c2
      have f2 := HR2.out.soft (k * 5 + 2)
      obtain ⟨x3, c3⟩ := HR2.out.cell (k := k) (u := 3) hlt (by decide)
      have c3 : w2.cell? ⟨w.heap.size, k * 5 + 3, none⟩ = some x3 := c3
      have f3 := HR2.out.soft (k * 5 + 3)
      obtain ⟨x4, c4⟩ := HR2.out.cell (k := k) (u := 4) hlt (by decide)
      have c4 : w2.cell? ⟨w.heap.size, k * 5 + 4, none⟩ = some x4 := c4
      have f4 := HR2.out.soft (k * 5 + 4)
      go_wp2
      go_roundw
      case rel => exact ⟨k + 1, by omega, by go_num, by rw [HT.out]; exact HR.out.row (o := k * 5) (cs := [.int .i64 a0, .int .i64 a1, .string a2, .slice p3 l3 j3, .slice p4 l4 j4]) (by rw [HK.out]; exact hlt) (by rw [HK.out]; rfl) HB.out HQ.out, (((((B2.out.setCell (Nat.le_refl _) _).setCell (Nat.le_refl _) _).setCell (Nat.le_refl _) _).setCell (Nat.le_refl _) _).setCell (Nat.le_refl _) _)⟩
      case measure => simp [intOf]; omega
    · have e : d.take k = d := List.take_of_length_le (by omega)
      rw [e] at HR
      clear e
      go_wp2
      go_ret
      exact ⟨_, rfl, HR.out.own, hbel⟩
end Go.Proofs.Ytmanlnlhpgdbpaa
/- The program copies a list of Change. -/
namespace Go.Proofs.Ytmanlnlhpgdbpaa
open Go.RowKit
attribute [local go_sem ↓] Go.wp_at_zero Go.wp_at_succ

section
variable {ops : Array Oper} {rest : List Oper} {o : Oper} {a : Act} {Q : Exit → Act → World → Prop} {w3 : World}
theorem app_change (B : Nat) (hgd : o.guard = none) (s x : Operand)
    (ho : o.op = .call { callee := .builtin .append, args := #[s, x], argTypes := #[24, 24] }) (v : Value) (n : Nat) (xs : List Value) (hs : a.eval s = v) (hown : w3.ownsRow B 74 5 v n xs)
    (a0 : Int) (a1 : Int) (a2 : ByteArray) (p3 : Option Addr) (m3 c3 : Nat) (p4 : Option Addr) (m4 c4 : Nat) (N : Nat) (hN : N = w3.heap.size) (hx : a.eval x = .slice (some ⟨N, 0, none⟩) 1 1) (hlen : n ≤ 100000000) (hB : B ≤ w3.heap.size)
    (h : ∀ g cap w', w'.ownsRow B 74 5 (.slice (some ⟨g, 0, none⟩) (n + 1) cap) (n + 1) (xs ++ [.int .i64 a0, .int .i64 a1, .string a2, .slice p3 m3 c3, .slice p4 m4 c4]) → (w3.alloc (.cells #[.int .i64 a0, .int .i64 a1, .string a2, .slice p3 m3 c3, .slice p4 m4 c4] 74)).grownBy w' v.ownBlock → (v.ownBlock = some g ∨ g = w3.heap.size + 1) → wpList Try.prog ops Q rest (a.put o.dst (.slice (some ⟨g, 0, none⟩) (n + 1) cap)) w') :
    wpList Try.prog ops Q (o :: rest) a (w3.alloc (.cells #[.int .i64 a0, .int .i64 a1, .string a2, .slice p3 m3 c3, .slice p4 m4 c4] 74)) := by
  subst hN
  obtain ⟨i0, hi, hz0, hz1, hz2⟩ := info_parts Try.infoTChange
  refine wpList_append_lies _ hgd s x 24 ho B 74 i0 _ 5 80 Try.underlying24 hi hz0 hz1 hz2 rfl (by decide) v n xs hs (hown.alloc _) ⟨w3.heap.size, 0, none⟩ 1 1 [.int .i64 a0, .int .i64 a1, .string a2, .slice p3 m3 c3, .slice p4 m4 c4] hx rfl (World.news_of_block (cs := #[.int .i64 a0, .int .i64 a1, .string a2, .slice p3 m3 c3, .slice p4 m4 c4]) (t := 74) (fr := (0, 0)) (heap_alloc_new _ _)) ?_ (by omega) ?_ ?_ ?_ (w3.heap.size + 1) (by simp) ?_
  · intro u hu; simp at hu; rcases hu with rfl | rfl | rfl | rfl | rfl <;> rfl
  · unfold maxLen; omega
  · omega
  · simp; omega
  · intro g cap w' h1 h2 h3 _
    exact h g cap w' h1 h2 h3
end
end Go.Proofs.Ytmanlnlhpgdbpaa
/- Rows in a new block, made owned one after the other. -/
namespace Go.Proofs.Ytmanlnlhpgdbpaa
open Go.RowKit

section
variable {α : Type} {e : Enc α}
/-- the cells of all rows, one after the other -/
theorem all_cells {S : Bs} {w : World} {d : List α} {b off cap : Nat} (hn : 0 < e.n) (h : SlAt e S w d (.slice (some ⟨b, off, none⟩) d.length cap)) :
    ∃ xs : List Value, xs.length = d.length * e.n ∧ (∀ j u, xs[j]? = some u → w.cell? ⟨b, off + j, none⟩ = some u) ∧ ∀ i (h : i < d.length), ∃ cs, (∀ j (h : j < cs.length), xs[i * e.n + j]? = some cs[j]) ∧ e.At S w d[i] cs := by
  have hrow : ∀ i (h : i < d.length), ∃ cs, Cells w b (off + i * e.n) cs ∧ e.At S w d[i] cs := fun i hi => by
    obtain ⟨b', off', cs, e1, _, _, q1, q2⟩ := h.row hi
    cases e1
    exact ⟨cs, q1, q2⟩
  have hcell : ∀ j, j < d.length * e.n → ∃ u, w.cell? ⟨b, off + j, none⟩ = some u := fun j hj => by
    have hi : j / e.n < d.length := Nat.div_lt_of_lt_mul (by rw [Nat.mul_comm]; exact hj)
    obtain ⟨cs, q1, q2⟩ := hrow _ hi
    have hl := e.len q2
    have hm : j % e.n < cs.length := by rw [hl]; exact Nat.mod_lt _ hn
    have := q1 _ hm
    have ej : off + j / e.n * e.n + j % e.n = off + j := by have := Nat.div_add_mod j e.n; rw [Nat.mul_comm] at this; omega
    rw [ej] at this
    exact ⟨_, this⟩
  have hget : ∀ j, j < d.length * e.n → ((List.range (d.length * e.n)).map (fun j => (w.cell? ⟨b, off + j, none⟩).getD (.bool false)))[j]? = w.cell? ⟨b, off + j, none⟩ := fun j hj => by
    obtain ⟨u, hu⟩ := hcell j hj
    rw [List.getElem?_map, List.getElem?_range hj]
    simp [hu]
  refine ⟨(List.range (d.length * e.n)).map (fun j => (w.cell? ⟨b, off + j, none⟩).getD (.bool false)), by simp, fun j u hu => ?_, fun i hi => ?_⟩
  · have hj : j < d.length * e.n := by have := (List.getElem?_eq_some_iff.1 hu).1; simpa using this
    rw [hget j hj] at hu; exact hu
  · obtain ⟨cs, q1, q2⟩ := hrow i hi
    refine ⟨cs, fun j hj => ?_, q2⟩
    have hl := e.len q2
    have hm : (i + 1) * e.n ≤ d.length * e.n := Nat.mul_le_mul_right _ (by omega)
    rw [Nat.add_mul] at hm
    rw [hget _ (by omega), ← Nat.add_assoc]; exact q1 j hj
/-- rows in a new block: those before k are owned, the others still speak of what was there before -/
structure Half (e : Enc α) (S : Bs) (w0 w : World) (g : Nat) (d : List α) (k : Nat) : Prop where
  ge : w0.heap.size ≤ g
  ex : ∃ P : Nat → Bs, (∀ i, i < k → ¬ P i g ∧ ∀ b, P i b → w0.heap.size ≤ b ∧ b < w.heap.size) ∧ (∀ i j, i < k → j < k → i ≠ j → ∀ b, P i b → ¬ P j b) ∧
    ∀ i (h : i < d.length), ∃ cs, RowAt w g (i * e.n) cs ∧ ((i < k ∧ e.Own (P i) w d[i] cs) ∨ (k ≤ i ∧ e.At S w0 d[i] cs))
theorem Half.below {S : Bs} {w0 w w' : World} {g k : Nat} {d : List α} (h : Half e S w0 w g d k) (hb : Below w.heap.size w w') : Half e S w0 w' g d k := by
  obtain ⟨h0, P, h1, h2, h3⟩ := h
  refine ⟨h0, P, fun i hi => ⟨(h1 i hi).1, fun b hx => ⟨((h1 i hi).2 b hx).1, Nat.lt_of_lt_of_le ((h1 i hi).2 b hx).2 hb.size⟩⟩, h2, fun i hi => ?_⟩
  obtain ⟨cs, q1, q2⟩ := h3 i hi
  refine ⟨cs, q1.same (hb.block _ q1.lt), ?_⟩
  rcases q2 with ⟨a, q⟩ | ⟨a, q⟩
  · exact .inl ⟨a, e.ownFrame q (Same.of_below' hb)⟩
  · exact .inr ⟨a, q⟩
theorem Half.lt {S : Bs} {w0 w : World} {g k : Nat} {d : List α} (h : Half e S w0 w g d k) (hd : 0 < d.length) : g < w.heap.size := by
  obtain ⟨h0, P, h1, h2, h3⟩ := h
  obtain ⟨cs, q1, _⟩ := h3 0 hd
  exact q1.lt
theorem Half.row {S : Bs} {w0 w : World} {g k : Nat} {d : List α} (h : Half e S w0 w g d k) (hk : k < d.length) : ∃ cs, RowAt w g (k * e.n) cs ∧ e.At S w0 d[k] cs := by
  obtain ⟨h0, P, h1, h2, h3⟩ := h
  obtain ⟨cs, q1, q2⟩ := h3 k hk
  rcases q2 with ⟨a, q⟩ | ⟨a, q⟩
  · omega
  · exact ⟨cs, q1, q⟩
theorem Half.start {S : Bs} {w0 w w' : World} {T : TypeId} {B g cap : Nat} {d : List α} {xs : List Value} (hB : w0.heap.size ≤ B) (hr : w'.ownsRow B T e.n (.slice (some ⟨g, 0, none⟩) d.length cap) d.length xs)
    (hx : ∀ i (h : i < d.length), ∃ cs, (∀ j (h : j < cs.length), xs[i * e.n + j]? = some cs[j]) ∧ e.At S w d[i] cs) (hf : ∀ x cs, e.At S w x cs → e.At S w0 x cs) : Half e S w0 w' g d 0 ∧ d.length ≤ cap := by
  rcases hr.2 with ⟨h, _⟩ | ⟨g', cap', cur, e1, hg, hk, hc, _, hsz, ht⟩
  · cases h
  cases e1
  refine ⟨⟨by omega, fun _ _ => False, fun i hi => by omega, fun i j hi => by omega, fun i hi => ?_⟩, hc⟩
  obtain ⟨cs, q1, q2⟩ := hx i hi
  refine ⟨cs, ⟨cur, T, hk, fun j hj => ?_⟩, .inr ⟨Nat.zero_le _, hf _ _ q2⟩⟩
  have hn' := e.len q2
  have hm : (i + 1) * e.n ≤ d.length * e.n := Nat.mul_le_mul_right _ (by omega)
  rw [Nat.add_mul] at hm
  have := q1 j hj
  rw [← ht, List.getElem?_take_of_lt (by omega), Array.getElem?_toList] at this
  exact this
theorem Half.step {S : Bs} {w0 wr w2 w3 : World} {g k : Nat} {d : List α} {cs : List Value} (h : Half e S w0 wr g d k) (hk : k < d.length) (hb : Below wr.heap.size wr w2) (hw0 : w0.heap.size ≤ wr.heap.size)
    (ho : e.Own (Fresh wr w2) w2 d[k] cs) (hr : RowAt w3 g (k * e.n) cs) (hs : ∀ b, b ≠ g → w3.heap[b]? = w2.heap[b]?) (hz : w3.heap.size = w2.heap.size)
    (hother : ∀ i (cs : List Value), i ≠ k → cs.length = e.n → RowAt w2 g (i * e.n) cs → RowAt w3 g (i * e.n) cs) : Half e S w0 w3 g d (k + 1) := by
  have hg := h.lt (by omega)
  obtain ⟨h0, P, h1, h2, h3⟩ := h.below hb
  have h1' : ∀ i, i < k → ∀ b, P i b → b < w2.heap.size := fun i hi b hx => ((h1 i hi).2 b hx).2
  have hlow : ∃ P : Nat → Bs, (∀ i, i < k → ¬ P i g ∧ ∀ b, P i b → w0.heap.size ≤ b ∧ b < wr.heap.size) ∧ (∀ i j, i < k → j < k → i ≠ j → ∀ b, P i b → ¬ P j b) ∧
    ∀ i (h : i < d.length), ∃ cs, RowAt w2 g (i * e.n) cs ∧ ((i < k ∧ e.Own (P i) w2 d[i] cs) ∨ (k ≤ i ∧ e.At S w0 d[i] cs)) := by
    obtain ⟨_, P, g1, g2, g3⟩ := h
    refine ⟨P, g1, g2, fun i hi => ?_⟩
    obtain ⟨cs, q1, q2⟩ := g3 i hi
    refine ⟨cs, q1.same (hb.block _ q1.lt), ?_⟩
    rcases q2 with ⟨a, q⟩ | ⟨a, q⟩
    · exact .inl ⟨a, e.ownFrame q (Same.of_below' hb)⟩
    · exact .inr ⟨a, q⟩
  obtain ⟨P, g1, g2, g3⟩ := hlow
  have hsame : ∀ S' : Bs, ¬ S' g → Same S' w2 w3 := fun S' hn b hb' _ => hs b (fun x => hn (x ▸ hb'))
  refine ⟨h0, fun i => if i = k then Fresh wr w2 else P i, fun i hi => ?_, fun i j hi hj hne b x1 x2 => ?_, fun i hi => ?_⟩
  · by_cases ei : i = k
    · subst ei
      simp only [if_true]
      exact ⟨fun hx => by have := hx.1; omega, fun b hx => ⟨by have := hx.1; omega, by rw [hz]; exact hx.2⟩⟩
    · simp only [if_neg ei]
      have := hb.size
      exact ⟨(g1 i (by omega)).1, fun b hx => ⟨((g1 i (by omega)).2 b hx).1, by have := ((g1 i (by omega)).2 b hx).2; omega⟩⟩
  · by_cases ei : i = k
    · simp only [if_pos ei] at x1
      simp only [if_neg (show ¬ j = k by omega)] at x2
      have := ((g1 j (by omega)).2 b x2).2
      have := x1.1
      omega
    · simp only [if_neg ei] at x1
      by_cases ej : j = k
      · simp only [if_pos ej] at x2
        have := ((g1 i (by omega)).2 b x1).2
        have := x2.1
        omega
      · simp only [if_neg ej] at x2
        exact g2 i j (by omega) (by omega) hne b x1 x2
  · by_cases ei : i = k
    · subst ei
      refine ⟨cs, hr, .inl ⟨by omega, ?_⟩⟩
      simp only [if_true]
      exact e.ownFrame ho (hsame _ (fun hx => by have := hx.1; omega))
    · simp only [if_neg ei]
      obtain ⟨cs', q1, q2⟩ := g3 i hi
      rcases q2 with ⟨a, q⟩ | ⟨a, q⟩
      · exact ⟨cs', hother i cs' ei (e.ownLen q) q1, .inl ⟨by omega, e.ownFrame q (hsame _ (g1 i a).1)⟩⟩
      · exact ⟨cs', hother i cs' ei (e.len q) q1, .inr ⟨by omega, q⟩⟩
theorem Half.own {S : Bs} {w0 w : World} {g cap : Nat} {d : List α} (h : Half e S w0 w g d d.length) (hc : d.length ≤ cap) : SlOwn e (Fresh w0 w) w d (.slice (some ⟨g, 0, none⟩) d.length cap) := by
  by_cases h0 : d = []
  · exact ⟨_, cap, rfl, hc, (fun x => by cases x), .inl h0⟩
  have hg := h.lt (List.length_pos_iff.2 h0)
  obtain ⟨hge, P, h1, h2, h3⟩ := h
  refine ⟨_, cap, rfl, hc, (fun x => by cases x), .inr ⟨g, P, rfl, ⟨hge, hg⟩, h1, h2, fun i hi => ?_⟩⟩
  obtain ⟨cs, q1, q2⟩ := h3 i hi
  rcases q2 with ⟨a, q⟩ | ⟨a, q⟩
  · exact ⟨cs, q1, q⟩
  · omega
end
end Go.Proofs.Ytmanlnlhpgdbpaa
/- Changes: a list from a place on. -/
namespace Go.Proofs.Ytmanlnlhpgdbpaa
open Go.RowKit

theorem SlAt.drop {α : Type} {e : Enc α} {S : Bs} {w : World} {l : List α} {b off n cap : Nat} (h : SlAt e S w l (.slice (some ⟨b, off, none⟩) n cap)) {j : Nat} (hj : j ≤ l.length) (hb : j < cap) :
    SlAt e S w (l.drop j) (.slice (some ⟨b, off + j * e.n, none⟩) (l.drop j).length (cap - j)) := by
  obtain ⟨ao, cap', e1, h2, h3, h4⟩ := h
  cases e1
  refine ⟨_, _, rfl, by rw [List.length_drop]; omega, (fun h => by cases h), ?_⟩
  rcases h4 with h4 | ⟨b', off', e1, g2, g3, g4⟩
  · left; subst h4; simp
  · cases e1
    refine .inr ⟨b, off + j * e.n, rfl, g2, g3, fun i hi => ?_⟩
    rw [List.length_drop] at hi
    obtain ⟨cs, q1, q2⟩ := g4 (j + i) (by omega)
    refine ⟨cs, fun t ht => ?_, by rw [List.getElem_drop]; exact q2⟩
    have := q1 t ht
    rw [Nat.add_mul] at this
    rw [show off + j * e.n + i * e.n + t = off + (j * e.n + i * e.n) + t by omega]; exact this
theorem slAt_none {α : Type} {e : Enc α} (S : Bs) (w : World) {ao : Option Addr} {cap : Nat} (h : ao = none → cap = 0) : SlAt e S w ([] : List α) (.slice ao 0 cap) := ⟨ao, cap, rfl, Nat.zero_le _, h, .inl rfl⟩
theorem Try.elemCh : Try.prog.elem 24 = 74 := by kernel_rfl
theorem Try.sizeCh (w : World) : (sizeOf 74).run Try.prog w = .ok 5 w := by kernel_rfl
/-- l[k:] -/
theorem cutCh {S : Bs} (w : World) (ao : Option Addr) (d : List ChangeT) (k cap : Nat) (hk : k ≤ d.length) (hd : SlAt changeE S w d (.slice ao d.length cap)) :
    ∃ ao', (∀ W : World, (Instr.slice 24 (.slice ao d.length cap) (some (.int .i64 (k : Int))) none none).run Try.prog W = .ok (.slice ao' (d.drop k).length (cap - k)) W) ∧ SlAt changeE S w (d.drop k) (.slice ao' (d.drop k).length (cap - k)) := by
  have hc := hd.cap.2.1; have hn := hd.cap.2.2
  refine ⟨if cap = k then ao else ao.map (·.add (k * 5)), fun W => ?_, ?_⟩
  · rw [run_slice_l W 24 ao d.length cap (by rw [Try.elemCh]; exact Try.underlying24) .i64 (k : Int) (by omega) (by omega), Try.elemCh, Try.sizeCh]
    simp [Result.andThen, sliced]
  · by_cases h0 : cap = k
    · rw [if_pos h0]
      have e : d.drop k = [] := List.drop_eq_nil_of_le (by omega)
      rw [e]
      exact slAt_none S w (fun h => by have := hn h; omega)
    · rw [if_neg h0]
      rcases ao with _ | ⟨b, off, spot⟩
      · have := hn rfl
        omega
      · by_cases hl : d = []
        · subst hl
          refine ⟨_, _, rfl, by simp, (fun h => by cases h), .inl (by simp)⟩
        · have hp : 0 < d.length := List.length_pos_iff.2 hl
          obtain ⟨b', off', cs, e1, _⟩ := hd.row hp
          cases e1
          have := hd.drop hk (by omega)
          have e : Option.map (fun x : Addr => x.add (k * 5)) (some ⟨b, off, none⟩) = some ⟨b, off + k * 5, none⟩ := by simp [Addr.add]
          rw [e]
          exact this
end Go.Proofs.Ytmanlnlhpgdbpaa
/- Latest: what the program returns. -/
namespace Go.Proofs.Ytmanlnlhpgdbpaa
open Go.RowKit
attribute [local go_sem ↓] Go.wp_at_zero Go.wp_at_succ

set_option maxRecDepth 100000 in
set_option maxHeartbeats 2000000 in
theorem Latest_any {S : Bs} (v : Value) (d : List ChangeT) (w : World) (hd : SlAt changeE S w d v) (hz : d.length + szL changeE d ≤ 1048576) :
    Calls Try.prog 9 #[v] w fun e w' => (∃ u, e = .returned u ∧ SlOwn changeE (Fresh w w') w' (latestR d) u) ∧ Below w.heap.size w w' := by
  obtain ⟨ao, ca, rfl⟩ := hd.sl
  have HA := Lib.hid hd
  have HZ : Hid (∀ x ∈ d, changeE.sz x ≤ 1048576) := Lib.hid (fun x h => by have h1 := szL_mem changeE h; omega)
  clear hd hz
  by_cases c0 : 40 < d.length
  · have HRR : Hid (latestR d = []) := Lib.hid (by unfold latestR; rw [if_pos c0])
    have c0' : (40 : Int) < (d.length : Int) := by omega
    go_enter Try.func9, Try.ntmps9
    go_wp2
    go_ret
    rw [HRR.out]
    exact ⟨⟨_, rfl, own_nilS _ _ _⟩, Below.refl _ _⟩
  have c0' : ¬ (40 : Int) < (d.length : Int) := by omega
  have hl : d.length ≤ 40 := by omega
  have HRR : Hid (latestR d = lastTo d d.length) := Lib.hid (by unfold latestR; rw [if_neg c0])
  go_enter Try.func9, Try.ntmps9
  go_wp2
  go_loopw [3, 11] (fun v i wr => ∃ k : Nat, k ≤ d.length ∧ i = .int .i64 k ∧ (∃ xs, Grow changeE 74 w.heap.size wr v (lastTo d k) xs) ∧ Below w.heap.size w wr) (fun _ i _ => d.length - (intOf i).toNat)
  case atStart => exact ⟨0, Nat.zero_le _, rfl, ⟨[], Grow.nil _ _ _ _⟩, Below.refl _ _⟩
  case round =>
    obtain ⟨k, hk, rfl, ⟨xs, hg⟩, hbel⟩ := hrel
    have HG := Lib.hid hg; clear hg
    obtain ⟨p7, n7, q7, hv7⟩ := own_slice3' HG.out.row
    subst hv7
    by_cases hlt : k < d.length
    · obtain ⟨b, off, a0, a1, a2, a3, a4, v3, v4, e1, _, hb0, hx, ⟨hc0, hc1, hc2, hc3, hc4⟩, s3, s4, _⟩ := change_row (HA.out.frame (Same.of_below' hbel)) hlt
      obtain ⟨ao', hcut, hdr⟩ := cutCh w ao d (k + 1) ca (by omega) HA.out
      rw [List.length_drop] at hcut
      have hcut1 : ∀ W : World, (Instr.slice 24 (.slice ao d.length ca) (some (.int .i64 ((k : Int) + 1))) none none).run Try.prog W = .ok (.slice ao' (d.length - (k + 1)) (ca - (k + 1))) W := hcut
      have HDR := Lib.hid hdr
      subst e1
      have HZ1 : Hid (changeE.sz (a0, a1, a2, (a3, a4)) ≤ 1048576) := Lib.hid (by have := HZ.out _ (List.getElem_mem hlt); rw [hx] at this; exact this)
      have HT : Hid (lastTo d (k + 1) = lastTo d k ++ (if (d.drop (k + 1)).any (conB a2) = true then [] else [(a0, a1, a2, (a3, a4))])) := Lib.hid (by rw [lastTo_succ d k hlt, hx])
      have HC : Hid (∀ W : World, Below wr.heap.size wr W → Calls Try.prog 39 #[.agg #[.int .i64 a0, .int .i64 a1, .string a2, v3, v4]] W fun e w' => ∃ u3 u4, e = .returned (.agg #[.int .i64 a0, .int .i64 a1, .string a2, u3, u4]) ∧ changeE.Own (Fresh W w') w' (a0, a1, a2, (a3, a4)) [.int .i64 a0, .int .i64 a1, .string a2, u3, u4] ∧ Below W.heap.size W w') := Lib.hid (fun W b => cpyChange_any a0 a1 a2 a3 a4 v3 v4 W (s3.frame (Same.of_below' b)) (s4.frame (Same.of_below' b)) HZ1.out)
      have HN : Hid (∀ W : World, Below w.heap.size w W → Calls Try.prog 38 #[.slice ao' (d.length - (k + 1)) (ca - (k + 1)), .string a2] W fun e w' => e = .returned (.bool ((d.drop (k + 1)).any (conB a2))) ∧ Below W.heap.size W w') := Lib.hid (fun W b => by
        have h1 := HDR.out.frame (Same.of_below' b)
        rw [List.length_drop] at h1
        exact concerns_any _ (d.drop (k + 1)) a2 W h1 (by rw [List.length_drop]; omega))
      obtain ⟨o3, k3, rfl⟩ := s3.sl
      obtain ⟨o4, k4, rfl⟩ := s4.sl
      have hrl2 : Hid ((lastTo d k).length ≤ 100000000) := Lib.hid (by have := lastTo_len d k; omega)
      clear s3 s4 hx hcut hdr HZ1
      generalize (d.drop (k + 1)).any (conB a2) = r at *
      generalize lastTo d k = pre at *
      have g1 : (0 : Int) ≤ (k : Int) := by omega
      have g2 : (k : Int) < (d.length : Int) := by omega
      have hwr : IntKind.i64.wrap ((k : Int) + 1) = (k : Int) + 1 := IntWalk.i64_in _ (by omega)
      go_wp2
      refine wp_world (fun W => Below wr.heap.size wr W ∧ Blk W wr.heap.size [.int .i64 a0, .int .i64 a1, .string a2, .slice o3 a3.length k3, .slice o4 a4.length k4]) ⟨more' (Below.refl _ _) _, Blk.new _ _ _⟩ ?_
      clear hc0 hc1 hc2 hc3 hc4
      rintro W1 ⟨d1, u1⟩
      have D1 := Lib.hid d1; have U1 := Lib.hid u1; clear d1 u1
      have SK : Hid (∀ Z' : World, Below W1.heap.size W1 Z' → Z'.cell? ⟨wr.heap.size, 2, none⟩ = some (.string a2)) := Lib.hid (fun Z' h => (U1.out.below h).cell 2 rfl)
      have BD : Below W1.heap.size W1 W1.drew := (Below.refl _ _).drew
      refine wp_region_held_drew (S := (fun Z' => Z'.cell? ⟨wr.heap.size, 2, none⟩ = some (.string a2))) (by kernel_rfl) ?_ (fun hHeld => ?_)
      · (try dsimp only)
        first | exact SK.out _ (by assumption) | exact SK.out _ BD | exact SK.out _ (more' (by assumption) _) | exact SK.out _ (more' BD _)
      refine wpAnyH_take (i := 0) (oi := { dst := some 16, op := Op.move (Operand.tmp 0), type := 24, pos := "l08_change.go:150", after := #[], guard := none }) (v := ?_) rfl (by kernel_rfl) (by kernel_rfl) (by kernel_rfl) (fun _ _ _ h => h) (Or.inl ⟨by rfl, ?_⟩) (by assumption) ?_
      rotate_left
      · intro w hSw; (try dsimp only at hSw); go_simp; (try with_reducible rfl)
      (try simp only [Act.put, List.setIfInBounds_toArray, List.set_cons_zero, List.set_cons_succ])
      refine wpAnyH_take (i := 1) (oi := { dst := some 17, op := Op.move (Operand.tmp 4), type := 3, pos := "l08_change.go:150", after := #[], guard := none }) (v := ?_) rfl (by kernel_rfl) (by kernel_rfl) (by kernel_rfl) (fun _ _ _ h => h) (Or.inl ⟨by rfl, ?_⟩) (by assumption) ?_
      rotate_left
      · intro w hSw; (try dsimp only at hSw); go_simp; (try with_reducible rfl)
      (try simp only [Act.put, List.setIfInBounds_toArray, List.set_cons_zero, List.set_cons_succ])
      refine wpAnyH_take (i := 2) (oi := { dst := some 18, op := Op.binOp BinOp.add 3 (Operand.tmp 17) (Operand.const (Value.int IntKind.i64 1)) 3, type := 3, pos := "l08_change.go:150", after := #[{ on := 1, ground := Ground.data }], guard := none }) (v := ?_) rfl (by kernel_rfl) (by kernel_rfl) (by kernel_rfl) (fun _ _ _ h => h) (Or.inl ⟨by rfl, ?_⟩) (by assumption) ?_
      rotate_left
      · intro w hSw; (try dsimp only at hSw); go_simp; (try with_reducible rfl)
      (try simp only [Act.put, List.setIfInBounds_toArray, List.set_cons_zero, List.set_cons_succ])
      refine wpAnyH_take (i := 3) (oi := { dst := some 19, op := Op.slice 24 (Operand.tmp 16) (some (Operand.tmp 18)) none none, type := 24, pos := "l08_change.go:150", after := #[{ on := 0, ground := Ground.data }, { on := 2, ground := Ground.data }], guard := none }) (v := ?_) rfl (by kernel_rfl) (by kernel_rfl) (by kernel_rfl) (fun _ _ _ h => h) (Or.inl ⟨by rfl, ?_⟩) (by assumption) ?_
      rotate_left
      · intro w hSw; (try dsimp only at hSw); go_simp; (try with_reducible rfl)
      (try simp only [Act.put, List.setIfInBounds_toArray, List.set_cons_zero, List.set_cons_succ])
      refine wpAnyH_take (i := 4) (oi := { dst := some 20, op := Op.fieldAddr 74 (Operand.tmp 5) 2, type := 0, pos := "l08_change.go:150", after := #[], guard := none }) (v := ?_) rfl (by kernel_rfl) (by kernel_rfl) (by kernel_rfl) (fun _ _ _ h => h) (Or.inl ⟨by rfl, ?_⟩) (by assumption) ?_
      rotate_left
      · intro w hSw; (try dsimp only at hSw); go_simp; (try with_reducible rfl)
      (try simp only [Act.put, List.setIfInBounds_toArray, List.set_cons_zero, List.set_cons_succ])
      refine wpAnyH_take (i := 5) (oi := { dst := some 21, op := Op.load 9 (Operand.tmp 20), type := 9, pos := "l08_change.go:150", after := #[{ on := 4, ground := Ground.data }], guard := none }) (v := ?_) rfl (by kernel_rfl) (by kernel_rfl) (by kernel_rfl) (fun _ _ _ h => h) (Or.inl ⟨by rfl, ?_⟩) (by assumption) ?_
      rotate_left
      · intro w hSw; (try dsimp only at hSw); go_simp; (try with_reducible rfl)
      (try simp only [Act.put, List.setIfInBounds_toArray, List.set_cons_zero, List.set_cons_succ])
      refine wpAnyH_ready (rs := [6]) (by kernel_rfl) (by simp) ?_
      refine AllReadyH.cons (o := { dst := some 22, op := Op.call { callee := Callee.value (Operand.func 38), args := #[Operand.tmp 19, Operand.tmp 21], argTypes := #[24, 9] }, type := 4, pos := "l08_change.go:150", after := #[{ on := 3, ground := Ground.data }, { on := 5, ground := Ground.data }], guard := none }) rfl (fun K hK => ?_) (AllReadyH.nil)
      go_simp
      refine (HN.out _ (hbel.trans ((D1.out.trans (BD.mono D1.out.size)).mono hbel.size))).mono ?_
      rintro e w2 ⟨rfl, hb⟩
      have D2 : Below W1.heap.size W1 w2 := BD.trans (hb.mono BD.size)
      clear hb
      clear hHeld
      refine hK.out _ _ ?_ (fun hHeld => ?_)
      · (try dsimp only)
        first | exact SK.out _ (by assumption) | exact SK.out _ BD | exact SK.out _ (more' (by assumption) _) | exact SK.out _ (more' BD _)
      clear hK K
      (try simp only [Act.put, List.setIfInBounds_toArray, List.set_cons_zero, List.set_cons_succ])
      refine wpAnyH_take (i := 7) (oi := { dst := some 23, op := Op.unOp UnOp.not 4 (Operand.tmp 22), type := 4, pos := "l08_change.go:150", after := #[{ on := 6, ground := Ground.data }], guard := none }) (v := ?_) rfl (by kernel_rfl) (by kernel_rfl) (by kernel_rfl) (fun _ _ _ h => h) (Or.inl ⟨by rfl, ?_⟩) (by assumption) ?_
      rotate_left
      · intro w hSw; (try dsimp only at hSw); go_simp; (try with_reducible rfl)
      (try simp only [Act.put, List.setIfInBounds_toArray, List.set_cons_zero, List.set_cons_succ])
      refine wpAnyH_done (by kernel_rfl) ?_ _
      clear SK
      have d2 : Below wr.heap.size wr w2 := D1.out.trans (D2.mono D1.out.size)
      have U2 := Lib.hid (U1.out.below D2)
      clear BD D2 hHeld D1 U1 HN
      have hs2 := hbel.size
      have b2 := hbel.trans (d2.mono hs2)
      cases r
      · have HT2 : Hid (lastTo d (k + 1) = pre ++ [(a0, a1, a2, (a3, a4))]) := Lib.hid (by rw [HT.out]; rfl)
        have y0 := U2.out.cell 0 rfl; have y1 := U2.out.cell 1 rfl; have y2 := U2.out.cell 2 rfl; have y3 := U2.out.cell 3 rfl; have y4 := U2.out.cell 4 rfl
        go_wp2_with fail
        refine (HC.out w2 d2).mono ?_
        rintro e w3 ⟨u3, u4, rfl, q, hb⟩
        obtain ⟨⟨p3, m3, c3, rfl⟩, p4, m4, c4, rfl⟩ := change_sl q rfl
        have D3 := Lib.hid (d2.trans (hb.mono d2.size))
        have Q3 := Lib.hid (Enc.ownWide _ q (fun b h => (⟨Nat.le_trans d2.size h.1, h.2⟩ : Fresh wr w3 b)))
        have b3 := b2.trans (hb.mono b2.size)
        have R3 := Lib.hid (HG.out.below D3.out).row
        have hs3 := D3.out.size
        clear hb q y0 y1 y2 y3 y4
        have hB3 : w.heap.size ≤ w3.heap.size := b3.size
        go_wp2_with (first
          | (at_builtin; refine app_change w.heap.size rfl _ _ rfl _ _ xs rfl R3.out a0 a1 a2 p3 m3 c3 p4 m4 c4 _ rfl rfl hrl2.out hB3 ?_; intro g cap w5 h1 h2 h3)
          | (fail "none"))
        have HG5 : Hid (Grow changeE 74 w.heap.size w5 (.slice (some ⟨g, 0, none⟩) (pre.length + 1) cap) (pre ++ [(a0, a1, a2, (a3, a4))]) (xs ++ [.int .i64 a0, .int .i64 a1, .string a2, .slice p3 m3 c3, .slice p4 m4 c4])) := Lib.hid (Grow.step HG.out hs2 D3.out Q3.out (more' (Below.refl _ _) _) h1 h2 (fun g' hg' => by
          have e : g = g' := by simpa [Value.ownBlock] using hg'
          subst e
          rcases h3 with h | h
          · exact .inl h
          · exact .inr (by omega)))
        have B5 : Below w.heap.size w w5 := (b3.alloc b3.size _).grown h2 (by simp; omega) (fun r hr => by have := (R3.out.lt r hr).1; omega)
        clear h1 h2 h3 R3
        go_wp2
        go_roundw
        case rel => exact ⟨k + 1, by omega, by go_num, ⟨_, by rw [HT2.out]; exact HG5.out⟩, B5⟩
        case measure => simp [intOf]; omega
      · have HT2 : Hid (lastTo d (k + 1) = pre) := Lib.hid (by rw [HT.out]; simp)
        have HG2 := Lib.hid (HG.out.below d2)
        go_wp2
        go_roundw
        case rel => exact ⟨k + 1, by omega, by go_num, ⟨xs, by rw [HT2.out]; exact HG2.out⟩, b2⟩
        case measure => simp [intOf]; omega
    · obtain rfl : k = d.length := by omega
      have HO : Hid (SlOwn changeE (Fresh w wr) wr (latestR d) (.slice p7 n7 q7)) := Lib.hid (by rw [HRR.out]; exact HG.out.own)
      go_wp2
      go_ret
      exact ⟨⟨_, rfl, HO.out⟩, hbel⟩
end Go.Proofs.Ytmanlnlhpgdbpaa
/- A region that draws its order, where a cell that is loaded is stored anew at its end: the load may be taken first, because the store waits for what waits for the load. -/
namespace Go.Proofs.Ytmanlnlhpgdbpaa
open Go Go.RowKit

section
variable {P : Program} {ops : Array Oper} {Q : Exit → Act → World → Prop} {md : Region.Mode} {S S' : World → Prop} {k : Nat}
/-- what is to hold behind an operation: S, and S' as long as number k has not come up -/
def Until (S S' : World → Prop) (k : Nat) (listed : Array Bool) (w : World) : Prop := S w ∧ (listed.getD k true = false → S' w)
def wpAnyL (P : Program) (md : Region.Mode) (ops : Array Oper) (Q : Exit → Act → World → Prop) (S S' : World → Prop) (k : Nat) : Nat → Array Bool → Act → World → Prop
  | 0, listed, a, w => Region.ready md ops listed = [] ∧ Q .normal a w
  | fuel + 1, listed, a, w =>
    (Region.ready md ops listed = [] → Q .normal a w) ∧
    ∀ i ∈ Region.ready md ops listed, wpOp P ops Q i (fun a' w' => Until S S' k (listed.setIfInBounds i true) w' ∧ wpAnyL P md ops Q S S' k fuel (listed.setIfInBounds i true) a' w') a w
theorem wpAny_of_until : ∀ (fuel : Nat) (listed : Array Bool) (a : Act) (w : World), wpAnyL P md ops Q S S' k fuel listed a w → wpAny P md ops Q fuel listed a w
  | 0, _, _, _, h => h
  | fuel + 1, _, _, _, h => ⟨h.1, fun i hi => wpOp_mono (fun a' w' h' => wpAny_of_until fuel _ a' w' h'.2) (h.2 i hi)⟩
theorem Until.step {listed : Array Bool} {i j : Nat} {w : World} (hki : i ≠ k) (h : Until S S' k ((listed.setIfInBounds i true).setIfInBounds j true) w) : Until S S' k (listed.setIfInBounds j true) w := by
  refine ⟨h.1, fun hk => h.2 ?_⟩
  by_cases hji : i = j
  · subst hji
    rw [getD_set_ne true hki] at hk ⊢
    rw [getD_set_ne true hki]; exact hk
  · rw [Array.setIfInBounds_comm _ _ hji, getD_set_ne true hki]; exact hk
/-- an operation that yields in every world that meets R is taken first; R is known behind each operation that may come before it -/
theorem wpAnyL_first {R : World → Prop} {i : Nat} {oi : Oper} {v : Value} (hi : ops[i]? = some oi) (hki : i ≠ k) (hsel : ∀ (j : Nat) (o : Oper) cs b, ops[j]? = some o → o.op ≠ .select cs b)
    (hQ : ∀ c a w, Q (.panic c) (a.put oi.dst v) w → Q (.panic c) a w) (I : Array Bool → Prop)
    (hI : ∀ (listed : Array Bool) (j : Nat), listed.getD i true = false → I listed → j ∈ Region.ready md ops listed → j ≠ i → I (listed.setIfInBounds j true) ∧ ∀ w, Until S S' k (listed.setIfInBounds j true) w → R w) :
    ∀ (fuel : Nat) (listed : Array Bool) (a : Act) (w : World), I listed →
      (∀ j oj, ops[j]? = some oj → j ≠ i → listed.getD j true = false → (∀ e ∈ oj.after, Region.binds md e = true → e.on ≠ i) → oi.apart ops oj = true) →
      i ∈ Region.ready md ops listed → YieldsIf P ops R oi v a → R w → Until S S' k (listed.setIfInBounds i true) w →
      wpAnyL P md ops Q S S' k fuel (listed.setIfInBounds i true) (a.put oi.dst v) w → wpAnyL P md ops Q S S' k (fuel + 1) listed a w := by
  intro fuel
  induction fuel with
  | zero =>
    intro listed a w _ _ hr hy hR hS H
    refine ⟨fun h => (by rw [h] at hr; cases hr), fun j hj => ?_⟩
    by_cases hji : j = i
    · subst hji; exact hy.wpOp hi hR ⟨hS, H⟩
    · have := ready_mono hj hji
      rw [H.1] at this
      cases this
  | succ fuel ih =>
    intro listed a w hIl hfree hr hy hR hS H
    refine ⟨fun h => (by rw [h] at hr; cases hr), fun j hj => ?_⟩
    by_cases hji : j = i
    · subst hji; exact hy.wpOp hi hR ⟨hS, H⟩
    · have h1 := H.2 j (ready_mono hj hji)
      obtain ⟨hjun, oj, hoj, hall⟩ := mem_ready.1 hj
      have hnot : ∀ e ∈ oj.after, Region.binds md e = true → e.on ≠ i := fun e he hb heq => by
        have h1 := hall e he hb
        have h0 := (mem_ready.1 hr).1
        rw [heq] at h1
        rcases Nat.lt_or_ge i listed.size with h' | h'
        · simp [h'] at h0 h1; rw [h0] at h1; cases h1
        · simp [Array.getElem?_eq_none h'] at h1
      have h2 := wpOp_putIf hoj (hfree j oj hoj hji hjun hnot) (fun cs b => hsel i oi cs b hi) (fun cs b => hsel j oj cs b hoj) hQ hy h1
      have hfree' : ∀ k ok, ops[k]? = some ok → k ≠ i → (listed.setIfInBounds j true).getD k true = false →
          (∀ e ∈ ok.after, Region.binds md e = true → e.on ≠ i) → oi.apart ops ok = true := fun k ok hk hki hun hno => by
        refine hfree k ok hk hki ?_ hno
        by_cases hjk : j = k
        · subst hjk; exact hjun
        · rw [getD_set_ne true hjk] at hun; exact hun
      obtain ⟨hI', hRk⟩ := hI listed j (mem_ready.1 hr).1 hIl hj hji
      refine wpOp_mono (fun a' w' h3 => ?_) h2
      have hU := h3.2.1
      have hU' := hU.step hki
      refine ⟨hU', ih (listed.setIfInBounds j true) a' w' hI' hfree' (ready_mono hr (Ne.symm hji)) h3.1 (hRk w' hU') ?_ ?_⟩
      · rw [Array.setIfInBounds_comm _ _ hji]; exact hU
      · rw [Array.setIfInBounds_comm _ _ hji]; exact h3.2.2
/-- take number i first: it yields in every world that meets S -/
theorem wpAnyL_take {i : Nat} {oi : Oper} {v : Value} {fuel : Nat} {listed : Array Bool} {a : Act} {w : World} (hi : ops[i]? = some oi) (hki : i ≠ k)
    (hs : Region.noSelect ops = true) (hf : Region.free md ops listed i = true) (hr : (Region.ready md ops listed).contains i = true)
    (hQ : ∀ c a w, Q (.panic c) (a.put oi.dst v) w → Q (.panic c) a w) (hy : YieldsIf P ops S oi v a) (hS : Until S S' k listed w)
    (h : Until S S' k (listed.setIfInBounds i true) w → wpAnyL P md ops Q S S' k fuel (listed.setIfInBounds i true) (a.put oi.dst v) w) : wpAnyL P md ops Q S S' k (fuel + 1) listed a w := by
  have hU : Until S S' k (listed.setIfInBounds i true) w := ⟨hS.1, fun hk => hS.2 (by rw [getD_set_ne true hki] at hk; exact hk)⟩
  exact wpAnyL_first (R := S) hi hki (Region.noSelect_spec hs) hQ (fun _ => True) (fun _ _ _ _ _ _ => ⟨trivial, fun _ h => h.1⟩) fuel listed a w trivial (Region.free_spec hi hf) (by simpa using hr) hy hS.1 hU (h hU)
/-- take number i first: it yields in every world that meets S'; number m waits for it, and number k for m -/
theorem wpAnyL_load {i m : Nat} {oi om ok : Oper} {v : Value} {fuel : Nat} {listed : Array Bool} {a : Act} {w : World} (hi : ops[i]? = some oi) (hki : i ≠ k)
    (hs : Region.noSelect ops = true) (hf : Region.free md ops listed i = true) (hr : (Region.ready md ops listed).contains i = true)
    (hom : ops[m]? = some om) (hok : ops[k]? = some ok) (hmi : om.after.any (fun e => Region.binds md e && (e.on == i)) = true) (hkm : ok.after.any (fun e => Region.binds md e && (e.on == m)) = true)
    (hlm : listed.getD m true = false) (hlk : listed.getD k true = false)
    (hQ : ∀ c a w, Q (.panic c) (a.put oi.dst v) w → Q (.panic c) a w) (hy : YieldsIf P ops S' oi v a) (hS : Until S S' k listed w)
    (h : Until S S' k (listed.setIfInBounds i true) w → wpAnyL P md ops Q S S' k fuel (listed.setIfInBounds i true) (a.put oi.dst v) w) : wpAnyL P md ops Q S S' k (fuel + 1) listed a w := by
  have hU : Until S S' k (listed.setIfInBounds i true) w := ⟨hS.1, fun hk => hS.2 (by rw [getD_set_ne true hki] at hk; exact hk)⟩
  have waits : ∀ {x y : Nat} {ox : Oper} {listed : Array Bool}, ops[x]? = some ox → ox.after.any (fun e => Region.binds md e && (e.on == y)) = true → listed.getD y true = false → x ∉ Region.ready md ops listed := by
    intro x y ox L hx ha hy hr
    obtain ⟨_, o, ho, hall⟩ := mem_ready.1 hr
    rw [hx] at ho
    cases ho
    obtain ⟨e, he, hb⟩ := Array.any_eq_true'.1 ha
    simp only [Bool.and_eq_true, beq_iff_eq] at hb
    have := hall e he hb.1
    rw [hb.2] at this
    rcases Nat.lt_or_ge y L.size with h' | h'
    · simp [h'] at this hy; rw [hy] at this; cases this
    · simp [Array.getElem?_eq_none h'] at this
  refine wpAnyL_first (R := S') hi hki (Region.noSelect_spec hs) hQ (fun L => L.getD m true = false ∧ L.getD k true = false) ?_ fuel listed a w ⟨hlm, hlk⟩ (Region.free_spec hi hf) (by simpa using hr) hy (hS.2 hlk) hU (h hU)
  intro L j hLi ⟨h1, h2⟩ hj hji
  have hjm : j ≠ m := fun e => waits hom hmi hLi (e ▸ hj)
  have hjk : j ≠ k := fun e => waits hok hkm h1 (e ▸ hj)
  refine ⟨⟨by rw [getD_set_ne true hjm]; exact h1, by rw [getD_set_ne true hjk]; exact h2⟩, fun w hw => hw.2 (by rw [getD_set_ne true hjk]; exact h2)⟩
theorem wpAnyL_done {listed : Array Bool} {a : Act} {w : World} (hr : Region.ready md ops listed = []) (h : Q .normal a w) :
    ∀ fuel, wpAnyL P md ops Q S S' k fuel listed a w
  | 0 => ⟨hr, h⟩
  | _ + 1 => ⟨fun _ => h, by rw [hr]; simp⟩
/-- the one operation that may come up comes up -/
theorem wpAnyL_only {i : Nat} {o : Oper} {fuel : Nat} {listed : Array Bool} {a : Act} {w : World} (hr : Region.ready md ops listed = [i]) (ho : ops[i]? = some o)
    (h : ∀ K' : Act → World → Prop, Shut (∀ a w, Until S S' k (listed.setIfInBounds i true) w → (Until S S' k (listed.setIfInBounds i true) w → wpAnyL P md ops Q S S' k fuel (listed.setIfInBounds i true) a w) → K' a w) → if Region.wanted o (yielded ops a.tmps) = true then Oper.wp P o a w K' Q else K' (a.put o.dst undef) w) :
    wpAnyL P md ops Q S S' k (fuel + 1) listed a w := by
  refine ⟨fun h0 => (by rw [hr] at h0; cases h0), fun j hj => ?_⟩
  rw [hr] at hj
  simp at hj
  subst hj
  exact wpOp_step ho (fun K' hK => h K' (fun a w hS hW => hK a w ⟨hS, hW hS⟩))
theorem wp_region_until (S S' : World → Prop) (k : Nat) {id : Nat} {a : Act} {w : World} (hm : P.follows .mixedOrders = true) (hS : S w.drew) (hS' : S' w.drew)
    (h : Until S S' k (Array.replicate ops.size false) w.drew → wpAnyL P .any ops Q S S' k ops.size (Array.replicate ops.size false) a w.drew) : (Code.region id ops true).wp P Q a w :=
  wp_region_any hm (wpAny_of_until _ _ _ _ (h ⟨hS, fun _ => hS'⟩))
end
end Go.Proofs.Ytmanlnlhpgdbpaa
/- A region that draws, with a store at its end: several operations may come up. -/
namespace Go.Proofs.Ytmanlnlhpgdbpaa
open Go Go.RowKit

section
variable {P : Program} {ops : Array Oper} {Q : Exit → Act → World → Prop} {md : Region.Mode} {S S' : World → Prop} {k : Nat}
/-- each of the operations that may come up comes up next -/
def AllReadyL (P : Program) (md : Region.Mode) (ops : Array Oper) (Q : Exit → Act → World → Prop) (S S' : World → Prop) (k fuel : Nat) (listed : Array Bool) (a : Act) (w : World) (rs : List Nat) : Prop :=
  ∀ i ∈ rs, wpOp P ops Q i (fun a' w' => Until S S' k (listed.setIfInBounds i true) w' ∧ wpAnyL P md ops Q S S' k fuel (listed.setIfInBounds i true) a' w') a w
theorem AllReadyL.nil {fuel : Nat} {listed : Array Bool} {a : Act} {w : World} : AllReadyL P md ops Q S S' k fuel listed a w [] := fun _ h => by cases h
theorem AllReadyL.cons {fuel : Nat} {listed : Array Bool} {a : Act} {w : World} {i : Nat} {o : Oper} {rs : List Nat} (ho : ops[i]? = some o)
    (h : ∀ K' : Act → World → Prop, Shut (∀ a w, Until S S' k (listed.setIfInBounds i true) w → (Until S S' k (listed.setIfInBounds i true) w → wpAnyL P md ops Q S S' k fuel (listed.setIfInBounds i true) a w) → K' a w) → if Region.wanted o (yielded ops a.tmps) = true then Oper.wp P o a w K' Q else K' (a.put o.dst undef) w)
    (hs : AllReadyL P md ops Q S S' k fuel listed a w rs) : AllReadyL P md ops Q S S' k fuel listed a w (i :: rs) := fun j hj => by
  rcases List.mem_cons.1 hj with rfl | hj
  · exact wpOp_step ho (fun K' hK => h K' (fun a w hS hW => hK a w ⟨hS, hW hS⟩))
  · exact hs j hj
theorem wpAnyL_ready {rs : List Nat} {fuel : Nat} {listed : Array Bool} {a : Act} {w : World} (hr : Region.ready md ops listed = rs) (hne : rs ≠ [])
    (h : AllReadyL P md ops Q S S' k fuel listed a w rs) : wpAnyL P md ops Q S S' k (fuel + 1) listed a w :=
  ⟨fun h0 => absurd (hr ▸ h0) hne, hr ▸ h⟩
end
end Go.Proofs.Ytmanlnlhpgdbpaa
