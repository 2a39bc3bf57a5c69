/- Merged texts: ChI6. -/
import Derived.Test.YtmanlnlhpgdbpaaGreatM7
import Derived.Test.YtmanlnlhpgdbpaaGreatM8
import Derived.Test.YtmanlnlhpgdbpaaGreatM4
/- Change logs: what the program's ChangeAdd returns. -/
namespace Go.Proofs.YtmanlnlhpgdbpaaGreat
open Go.RowKit
attribute [local go_sem ↓] Go.wp_at_zero Go.wp_at_succ

theorem eqnilCh (n c : Nat) (w : World) : (binOp .eql 27 (.slice none n c) (.slice none 0 0)).run Tryz.prog w = .ok (.bool true) w := by kernel_rfl
theorem eqsomeCh (a : Addr) (n c : Nat) (w : World) : (binOp .eql 27 (.slice (some a) n c) (.slice none 0 0)).run Tryz.prog w = .ok (.bool false) w := by kernel_rfl
set_option maxRecDepth 100000 in
set_option maxHeartbeats 1000000 in
theorem cloneCh_any {S : Bs} (v : Value) (d : List ChangeT) (w : World) (hd : SlAt changeE S w d v) (hl : d.length ≤ 1048576) :
    Calls Tryz.prog 46 #[v] w fun e w' => (∃ u xs, e = .returned u ∧ w'.ownsRow w.heap.size 61 5 u d.length xs ∧ RowsOf S w d xs) ∧ Below w.heap.size w w' := by
  obtain ⟨ao, ca, rfl⟩ := hd.sl
  rcases ao with _ | a
  · have hc := hd.cap.2.2 rfl
    have hV : d = [] := by
      by_cases h0 : d = []
      · exact h0
      · obtain ⟨b, off, cs, e1, _⟩ := hd.row (List.length_pos_iff.2 h0)
        cases e1
    subst hV hc
    have he := eqnilCh 0 0
    go_enter Tryz.func46, Tryz.ntmps46
    go_wp2
    go_ret
    exact ⟨⟨_, [], rfl, ⟨by simp, .inl ⟨rfl, rfl⟩⟩, fun i hi => by simp at hi⟩, Below.refl _ _⟩
  · have he := eqsomeCh a d.length ca
    have HD := Lib.hid hd; clear hd
    go_enter Tryz.func46, Tryz.ntmps46
    go_wp2_with (first
        | (at_builtin; refine app_ch0 _ rfl _ _ rfl rfl (some a) d ca _ rfl rfl HD.out hl rfl ?_; intro v1 xs w1 hown hrows hbel)
        | (fail "none"))
    go_ret
    exact ⟨⟨_, xs, rfl, hown, hrows⟩, hbel⟩
set_option maxRecDepth 100000 in
set_option maxHeartbeats 1000000 in
theorem changeRight_two {S S' : Bs} (a0 a1 : Int) (a2 : ByteArray) (a3 : List RdnT) (a4 : List AttrT) (v3 v4 : Value) (w : World) (h3 : SlAt rdnE S w a3 v3) (h4 : SlAt attrE S' w a4 v4) (hs2 : a2.size ≤ 1048576) (hz : entryE.sz (a3, a4) ≤ 1048576) :
    Calls Tryz.prog 37 #[.agg #[.int .i64 a0, .int .i64 a1, .string a2, v3, v4]] w fun e w' => e = .returned (.bool (chgB (a0, a1, a2, (a3, a4)))) ∧ Below w.heap.size w w' := by
  have HE : entryE.sz (a3, a4) = (a3.length + szL rdnE a3) + (a4.length + szL attrE a4) := rfl
  rw [HE] at hz
  obtain ⟨o3, k3, rfl⟩ := h3.sl
  obtain ⟨o4, k4, rfl⟩ := h4.sl
  have hs : a2.size ≤ maxLen := by unfold maxLen; omega
  have CM : Hid (∀ W : World, Below w.heap.size w W → Calls Tryz.prog 68 #[.int .i64 a1, .agg #[.slice o3 a3.length k3, .slice o4 a4.length k4]] W fun e w' => e = .returned (.bool (mayB a1 a3 a4)) ∧ Below W.heap.size W w') := Lib.hid (fun W b => mayLeave_any a1 o3 o4 a3 a4 k3 k4 W ((dn_of h3).below b) ((attrs_of h4).below b) (fits_dn (by omega)) (fits_attrs (by omega)))
  have HD : Hid (chgB (a0, a1, a2, (a3, a4)) = (decide (0 < (readD a2).length) && mayB a1 a3 a4)) := Lib.hid rfl
  have CD : Hid (∀ W : World, Calls Tryz.prog 67 #[.string a2] W fun e w' => (∃ o k, e = .returned (.agg #[.slice o (readD a2).length k, .int .i64 (readC a2)])) ∧ Below W.heap.size W w') := Lib.hid (fun W => (DnRead_any a2 W hs).mono fun e w' ⟨⟨v, he, ho⟩, hb⟩ => ⟨by obtain ⟨o, k, rfl⟩ := own_slice ho; exact ⟨o, k, he⟩, hb⟩)
  clear h3 h4 hz HE hs
  generalize readC a2 = rc at *
  generalize chgB (a0, a1, a2, (a3, a4)) = R at *
  generalize mayB a1 a3 a4 = m at *
  generalize (readD a2).length = n at *
  go_enter Tryz.func37, Tryz.ntmps37
  go_wp2_with fail
  refine calls_by (fun W => Below w.heap.size w W ∧ Blk W w.heap.size [.int .i64 a0, .int .i64 a1, .string a2, .slice o3 a3.length k3, .slice o4 a4.length k4]) ⟨more' (Below.refl _ _) _, Blk.new _ _ _⟩ ?_
  rintro W1 ⟨b1, t1⟩
  refine (CD.out W1).mono ?_
  rintro e w2 ⟨⟨o, k, rfl⟩, hb⟩
  have b2 := b1.trans (hb.mono b1.size); have T2 := Lib.hid (t1.below hb)
  clear hb t1 b1
  have x1 := T2.out.cell 1 rfl; have x3 := T2.out.cell 3 rfl; have x4 := T2.out.cell 4 rfl
  have hf0 := fieldDn
  by_cases hn : 0 < n
  · have hn1 : (0 : Int) < (n : Int) := by omega
    have HR := Lib.hid HD.out
    go_wp2_with fail
    refine (CM.out w2 b2).mono ?_
    rintro e w3 ⟨rfl, hb⟩
    go_wp2
    go_ret
    exact ⟨ret_bool (by rw [HR.out]; simp [hn]), b2.trans (hb.mono b2.size)⟩
  · have hn1 : ¬ (0 : Int) < (n : Int) := by omega
    have HR := Lib.hid HD.out
    go_wp2
    go_ret
    exact ⟨ret_bool (by rw [HR.out]; simp [hn]), b2⟩
theorem RowsOf.snoc {S : Bs} {W : World} {d : List ChangeT} {xs : List Value} {c : ChangeT} {cs : List Value} (h : RowsOf S W d xs) (hl : xs.length = d.length * 5) (hc : changeE.At S W c cs) : RowsOf S W (d ++ [c]) (xs ++ cs) := by
  intro i hi
  by_cases e : i < d.length
  · obtain ⟨cs', q1, q2⟩ := h i e
    refine ⟨cs', fun j hj => ?_, by rw [List.getElem_append_left e]; exact q2⟩
    have hcl : cs'.length = 5 := changeE.len q2
    rw [List.getElem?_append_left (by show i * 5 + j < _; omega)]; exact q1 j hj
  · have hi' : i = d.length := by simp at hi; omega
    subst hi'
    refine ⟨cs, fun j hj => ?_, by rw [List.getElem_append_right (by omega)]; simpa using hc⟩
    rw [List.getElem?_append_right (by show xs.length ≤ d.length * 5 + j; omega), show d.length * changeE.n + j - xs.length = j by (show d.length * 5 + j - xs.length = j; omega), List.getElem?_eq_getElem hj]
section
variable {ops : Array Oper} {o : Oper} {a : Act} {K : Act → World → Prop} {Q : Exit → Act → World → Prop} {E : Prop} {w : World}
theorem step_ch (B : Nat) (hgd : o.guard = none) (s x : Operand)
    (ho : o.op = .call { callee := .builtin .append, args := #[s, x], argTypes := #[27, 27] }) (v : Value) (n : Nat) (xs : List Value) (hs : a.eval s = v) (hown : w.ownsRow B 61 5 v n xs)
    {a0 a1 : Int} {a2 : ByteArray} {p3 p4 : Option Addr} {m3 c3 m4 c4 : Nat} (N : Nat) (hb : Blk w N [.int .i64 a0, .int .i64 a1, .string a2, .slice p3 m3 c3, .slice p4 m4 c4]) (hx : a.eval x = .slice (some ⟨N, 0, none⟩) 1 1) (hlen : n ≤ 100000000) (hB : B ≤ w.heap.size)
    (h : ∀ g cap w', w'.ownsRow B 61 5 (.slice (some ⟨g, 0, none⟩) (n + 1) cap) (n + 1) (xs ++ [.int .i64 a0, .int .i64 a1, .string a2, .slice p3 m3 c3, .slice p4 m4 c4]) → w.grownBy w' v.ownBlock → (v.ownBlock = some g ∨ g = w.heap.size) → K (a.put o.dst (.slice (some ⟨g, 0, none⟩) (n + 1) cap)) w') :
    if Region.wanted o (yielded ops a.tmps) = true then Oper.wp Tryz.prog o a w K Q else E := by
  obtain ⟨i0, hi, hz0, hz1, hz2⟩ := info_parts Tryz.infoTChange
  obtain ⟨T, hT⟩ := hb
  refine step_append_lies _ hgd s x 27 ho B 61 i0 _ 5 80 Tryz.underlying27 hi hz0 hz1 hz2 rfl (by decide) v n xs hs hown ⟨N, 0, none⟩ 1 1 [.int .i64 a0, .int .i64 a1, .string a2, .slice p3 m3 c3, .slice p4 m4 c4] hx rfl (World.news_of_block hT) ?_ (by omega) ?_ ?_ hB _ rfl ?_
  · intro u hu; simp at hu; rcases hu with rfl | rfl | rfl | rfl | rfl <;> rfl
  · unfold maxLen; omega
  · omega
  · intro g cap w' h1 h2 h3 _
    exact h g cap w' h1 h2 h3
end
/-- rows that a call has made lie behind their slice -/
theorem rows_at {α : Type} {e : Enc α} {S : Bs} {w : World} {T : TypeId} {B : Nat} {v : Value} {l : List α} {xs : List Value} (h : w.ownsRow B T e.n v l.length xs)
    (hx : ∀ i (h : i < l.length), ∃ cs, (∀ j (h : j < cs.length), xs[i * e.n + j]? = some cs[j]) ∧ e.At S w l[i] cs) (hS : ∀ g, v.ownBlock = some g → S g) : SlAt e S w l v := by
  rcases h.2 with ⟨rfl, h0⟩ | ⟨g, cap, cur, rfl, hB, hk, hc, _, hsz, ht⟩
  · have : l = [] := List.length_eq_zero_iff.1 h0
    subst this
    exact ⟨none, 0, rfl, Nat.le_refl _, fun _ => rfl, .inl rfl⟩
  · have hg : g < w.heap.size := (Array.getElem?_eq_some_iff.1 hk).1
    refine ⟨some ⟨g, 0, none⟩, cap, rfl, hc, (fun x => by cases x), .inr ⟨g, 0, rfl, hS g rfl, hg, fun i hi => ?_⟩⟩
    obtain ⟨cs, q1, q2⟩ := hx i hi
    refine ⟨cs, fun j hj => ?_, q2⟩
    have hn' := e.len q2
    have hm : (i + 1) * e.n ≤ l.length * e.n := Nat.mul_le_mul_right _ (by omega)
    rw [Nat.add_mul] at hm
    have := q1 j hj
    rw [← ht, List.getElem?_take_of_lt (by omega), Array.getElem?_toList] at this
    rw [Nat.zero_add]
    exact (cell_of_row w g _ cur T (0, 0) hk).trans this
theorem rows_fin {S S3 S4 : Bs} {W w6 w : World} {d : List ChangeT} {xs : List Value} {n k : Int} {tx : ByteArray} {a3 : List RdnT} {a4 : List AttrT} {v3 v4 u : Value} {B : Nat} (hrw : RowsOf S W d xs) (hs : Same S W w6) (hl : xs.length = d.length * 5) (hb : Below w.heap.size w w6) (h3 : SlAt rdnE S3 w a3 v3) (h4 : SlAt attrE S4 w a4 v4)
    (h1 : w6.ownsRow B 61 5 u (d.length + 1) (xs ++ [.int .i64 n, .int .i64 k, .string tx, v3, v4])) : SlAt changeE (fun _ => True) w6 (d ++ [(n, k, tx, (a3, a4))]) u := by
  have r1 : RowsOf (fun _ => True) w6 d xs := fun i hi => by
    obtain ⟨cs, q1, q2⟩ := hrw i hi
    exact ⟨cs, q1, changeE.wide (changeE.frame q2 hs) (fun _ _ => trivial)⟩
  have r2 : changeE.At (fun _ => True) w6 (n, k, tx, (a3, a4)) [.int .i64 n, .int .i64 k, .string tx, v3, v4] :=
    pair_at (c := [_]) rfl (pair_at (c := [_]) rfl (pair_at (c := [_]) rfl (pair_at (c := [_]) (at_sl ((h3.frame (Same.of_below' hb)).wide (fun _ _ => trivial))) (at_sl ((h4.frame (Same.of_below' hb)).wide (fun _ _ => trivial))))))
  refine rows_at (T := 61) (B := B) (xs := xs ++ [.int .i64 n, .int .i64 k, .string tx, v3, v4]) ?_ (RowsOf.snoc r1 hl r2) (fun _ _ => trivial)
  rw [List.length_append]; exact h1
set_option maxRecDepth 100000 in
set_option maxHeartbeats 2000000 in
theorem ChangeAdd_any {S S3 S4 S5 : Bs} (n k : Int) (v vd v3 v4 : Value) (d : List ChangeT) (dn a3 : List RdnT) (a4 : List AttrT) (w : World) (hd : SlAt changeE S w d v) (hdn : SlAt rdnE S5 w dn vd) (h3 : SlAt rdnE S3 w a3 v3) (h4 : SlAt attrE S4 w a4 v4)
    (hz : d.length + szL changeE d ≤ 1048576) (hzd : dn.length + szL rdnE dn ≤ 1048576) (hze : entryE.sz (a3, a4) ≤ 1048576) :
    Calls Tryz.prog 17 #[.agg #[.int .i64 n, v], .int .i64 k, vd, .agg #[v3, v4]] w (GivesC w (addR n d k dn a3 a4)) := by
  have CR : Hid (∀ W : World, Below w.heap.size w W → Calls Tryz.prog 10 #[.agg #[.int .i64 n, v]] W fun e w' => e = .returned (.bool (chsB n d)) ∧ Below W.heap.size W w') := Lib.hid (fun W b => ChangesRight_any n v d W (hd.frame (Same.of_below' b)) hz)
  have CT : Hid (∀ W : World, Below w.heap.size w W → Calls Tryz.prog 45 #[vd] W fun e w' => e = .returned (.string (dnTextS dn)) ∧ Below W.heap.size W w') := Lib.hid (fun W b => by
    obtain ⟨o, c, rfl⟩ := hdn.sl
    exact DnText_any o dn c W ((dn_of hdn).below b) (fits_dn hzd))
  obtain ⟨ao, ca, rfl⟩ := hd.sl
  obtain ⟨od, cd, rfl⟩ := hdn.sl
  obtain ⟨o3, k3, rfl⟩ := h3.sl
  obtain ⟨o4, k4, rfl⟩ := h4.sl
  by_cases c0 : 400 < dn.length
  · have HRR : Hid (addR n d k dn a3 a4 = ((0, []), [], 2)) := Lib.hid (by unfold addR; rw [if_pos c0])
    have c0' : (400 : Int) < (dn.length : Int) := by omega
    clear CR CT hd hdn h3 h4 hz hzd hze
    go_enter Tryz.func17, Tryz.ntmps17
    go_wp2
    refine bodyPost_ret (v := .agg #[.int .i64 0, .slice none 0 0, .slice none 0 0, .int .i64 2]) (by simp [results, Tryz.results17, go_sem]) rfl ?_
    rw [HRR.out]
    exact gives_ill 2 (more' (more' (more' (Below.refl _ _) _) _) _)
  have c0' : ¬ (400 : Int) < (dn.length : Int) := by omega
  have HR : Hid (addR n d k dn a3 a4 = if (chsB n d && chgB (n, k, dnTextS dn, (a3, a4))) = true then (if d.length = 40 ∨ n = 1000000 then ((0, []), [], 9) else ((n + 1, d ++ [(n, k, dnTextS dn, (a3, a4))]), [], 0)) else ((0, []), [], 1)) := Lib.hid (by unfold addR; rw [if_neg c0])
  have HD := Lib.hid hd; have H3 := Lib.hid h3; have H4 := Lib.hid h4
  have HT : Hid ((dnTextS dn).size ≤ 612) := Lib.hid (dnText_short dn)
  clear hd hdn h3 h4
  generalize addR n d k dn a3 a4 = R at *
  generalize dnTextS dn = tx at *
  go_enter Tryz.func17, Tryz.ntmps17
  go_wp2
  refine wp_world (fun W => Below w.heap.size w W ∧ Blk W w.heap.size [.int .i64 n, .slice ao d.length ca] ∧ Blk W (w.heap.size + 1) [.slice o3 a3.length k3, .slice o4 a4.length k4] ∧ Blk W (w.heap.size + 1 + 1) [.int .i64 0, .slice none 0 0, .slice none 0 0, .int .i64 0]) ⟨more' (more' (more' (Below.refl _ _) _) _) _, ((Blk.new _ _ _).alloc _).alloc _, (blk_at _ _ _ (by simp)).alloc _, blk_at _ _ _ (by simp)⟩ ?_
  rintro W1 ⟨b1, t1, e1, r1⟩
  have T1 := Lib.hid t1; have E1 := Lib.hid e1; have R1 := Lib.hid r1; clear t1 e1 r1
  have SK : Hid (∀ Z' : World, Below W1.heap.size W1 Z' → Z'.cell? ⟨w.heap.size, 0, none⟩ = some (.int .i64 n) ∧ Z'.cell? ⟨w.heap.size + 1, 0, none⟩ = some (.slice o3 a3.length k3) ∧ Z'.cell? ⟨w.heap.size + 1, 1, none⟩ = some (.slice o4 a4.length k4)) := Lib.hid (fun Z' h => ⟨(T1.out.below h).cell 0 rfl, (E1.out.below h).cell 0 rfl, (E1.out.below h).cell 1 rfl⟩)
  refine region_join (fun A0 a2 w2 => ∃ (g : Nat) (t0 t1 t2 t3 t4 t5 t6 : Value), a2 = ((((((((A0.put (some 15) t0).put (some 16) t1).put (some 17) t2).put (some 18) t3).put (some 19) t4).put (some 20) t5).put (some 21) t6).put (some 9) (.pointer (some ⟨g, 0, none⟩))) ∧ Below W1.heap.size W1 w2 ∧ W1.heap.size ≤ g ∧ Blk w2 g [.int .i64 n, .int .i64 k, .string tx, .slice o3 a3.length k3, .slice o4 a4.length k4]) ?_ ?_
  · have D0 : Below W1.heap.size W1 W1.drew := (Below.refl _ _).drew
    refine wp_region_held_drew (S := (fun Z' => Z'.cell? ⟨w.heap.size, 0, none⟩ = some (.int .i64 n) ∧ Z'.cell? ⟨w.heap.size + 1, 0, none⟩ = some (.slice o3 a3.length k3) ∧ Z'.cell? ⟨w.heap.size + 1, 1, none⟩ = some (.slice o4 a4.length k4))) (by kernel_rfl) ?_ (fun hHeld => ?_)
    · (try dsimp only)
      first | exact SK.out _ D0 | exact SK.out _ D2 | exact SK.out _ DA | exact SK.out _ DS | exact SK.out _ (by assumption)
    refine wpAnyH_take (i := 0) (oi := { dst := some 15, op := Op.fieldAddr 29 (Operand.tmp 4) 0, type := 0, pos := "l08_change.go:106", after := #[], guard := none }) (v := ?_) rfl (by kernel_rfl) (by kernel_rfl) (by kernel_rfl) (fun _ _ _ h => h) (Or.inl ⟨by rfl, ?_⟩) (by assumption) ?_
    rotate_left
    · intro w hSw; (try dsimp only at hSw); go_simp; (try with_reducible rfl)
    (try simp only [Act.put, List.setIfInBounds_toArray, List.set_cons_zero, List.set_cons_succ])
    refine wpAnyH_take (i := 1) (oi := { dst := some 16, op := Op.load 2 (Operand.tmp 15), type := 2, pos := "l08_change.go:106", after := #[{ on := 0, ground := Ground.data }], guard := none }) (v := ?_) rfl (by kernel_rfl) (by kernel_rfl) (by kernel_rfl) (fun _ _ _ h => h) (Or.inl ⟨by rfl, ?_⟩) (by assumption) ?_
    rotate_left
    · intro w hSw; (try dsimp only at hSw); go_simp; (try with_reducible rfl)
    (try simp only [Act.put, List.setIfInBounds_toArray, List.set_cons_zero, List.set_cons_succ])
    refine wpAnyH_take (i := 2) (oi := { dst := some 17, op := Op.move (Operand.tmp 1), type := 2, pos := "l08_change.go:106", after := #[], guard := none }) (v := ?_) rfl (by kernel_rfl) (by kernel_rfl) (by kernel_rfl) (fun _ _ _ h => h) (Or.inl ⟨by rfl, ?_⟩) (by assumption) ?_
    rotate_left
    · intro w hSw; (try dsimp only at hSw); go_simp; (try with_reducible rfl)
    (try simp only [Act.put, List.setIfInBounds_toArray, List.set_cons_zero, List.set_cons_succ])
    refine wpAnyH_take (i := 3) (oi := { dst := some 18, op := Op.move (Operand.tmp 2), type := 42, pos := "l08_change.go:106", after := #[], guard := none }) (v := ?_) rfl (by kernel_rfl) (by kernel_rfl) (by kernel_rfl) (fun _ _ _ h => h) (Or.inl ⟨by rfl, ?_⟩) (by assumption) ?_
    rotate_left
    · intro w hSw; (try dsimp only at hSw); go_simp; (try with_reducible rfl)
    (try simp only [Act.put, List.setIfInBounds_toArray, List.set_cons_zero, List.set_cons_succ])
    refine wpAnyH_take (i := 5) (oi := { dst := some 20, op := Op.load 46 (Operand.tmp 7), type := 46, pos := "l08_change.go:106", after := #[], guard := none }) (v := ?_) rfl (by kernel_rfl) (by kernel_rfl) (by kernel_rfl) (fun _ _ _ h => h) (Or.inl ⟨by rfl, ?_⟩) (by assumption) ?_
    rotate_left
    · intro w hSw; (try dsimp only at hSw); go_simp; (try with_reducible rfl)
    (try simp only [Act.put, List.setIfInBounds_toArray, List.set_cons_zero, List.set_cons_succ])
    refine wpAnyH_ready (rs := [4, 7]) (by kernel_rfl) (by simp) ?_
    refine AllReadyH.cons (o := { dst := some 19, op := Op.call { callee := Callee.value (Operand.func 45), args := #[Operand.tmp 18], argTypes := #[42] }, type := 9, pos := "l08_change.go:106", after := #[{ on := 3, ground := Ground.data }], guard := none }) rfl (fun K hK => ?_) (AllReadyH.cons (o := { dst := some 9, op := Op.alloc 61, type := 0, pos := "l08_change.go:106", after := #[], guard := none }) rfl (fun K hK => ?_) (AllReadyH.nil))
    · go_simp
      refine (CT.out _ (b1.trans (D0.mono b1.size))).mono ?_
      rintro e w2 ⟨rfl, hb⟩
      have D2 : Below W1.heap.size W1 w2 := D0.trans (hb.mono D0.size)
      have HBC := hb
      clear hb
      clear hHeld
      refine hK.out _ _ ?_ (fun hHeld => ?_)
      · (try dsimp only)
        first | exact SK.out _ D0 | exact SK.out _ D2 | exact SK.out _ DA | exact SK.out _ DS | exact SK.out _ (by assumption)
      clear hK K
      (try simp only [Act.put, List.setIfInBounds_toArray, List.set_cons_zero, List.set_cons_succ])
      refine wpAnyH_take (i := 6) (oi := { dst := some 21, op := Op.build 61 #[(0, Operand.tmp 16), (1, Operand.tmp 17), (2, Operand.tmp 19), (3, Operand.tmp 20)], type := 61, pos := "l08_change.go:106", after := #[{ on := 1, ground := Ground.data }, { on := 2, ground := Ground.data }, { on := 4, ground := Ground.data }, { on := 5, ground := Ground.data }], guard := none }) (v := ?_) rfl (by kernel_rfl) (by kernel_rfl) (by kernel_rfl) (fun _ _ _ h => h) (Or.inl ⟨by rfl, ?_⟩) (by assumption) ?_
      rotate_left
      · intro w hSw; (try dsimp only at hSw); go_simp; (try with_reducible rfl)
      (try simp only [Act.put, List.setIfInBounds_toArray, List.set_cons_zero, List.set_cons_succ])
      refine wpAnyH_ready (rs := [7]) (by kernel_rfl) (by simp) ?_
      refine AllReadyH.cons (o := { dst := some 9, op := Op.alloc 61, type := 0, pos := "l08_change.go:106", after := #[], guard := none }) rfl (fun K hK => ?_) (AllReadyH.nil)
      go_simp
      have DA : Below W1.heap.size W1 (w2.alloc (.cells #[.int .i64 0, .int .i64 0, .string ⟨#[]⟩, .slice none 0 0, .slice none 0 0] 61)) := more' D2 _
      clear hHeld
      refine hK.out _ _ ?_ (fun hHeld => ?_)
      · (try dsimp only)
        first | exact SK.out _ D0 | exact SK.out _ D2 | exact SK.out _ DA | exact SK.out _ DS | exact SK.out _ (by assumption)
      clear hK K
      (try simp only [Act.put, List.setIfInBounds_toArray, List.set_cons_zero, List.set_cons_succ])
      refine wpAnyH_ready (rs := [8]) (by kernel_rfl) (by simp) ?_
      refine AllReadyH.cons (o := { dst := none, op := Op.store 61 (Operand.tmp 9) (Operand.tmp 21), type := 0, pos := "l08_change.go:106", after := #[{ on := 7, ground := Ground.data }, { on := 6, ground := Ground.data }, { on := 4, ground := Ground.chain }, { on := 0, ground := Ground.phase }, { on := 1, ground := Ground.phase }, { on := 2, ground := Ground.phase }, { on := 3, ground := Ground.phase }, { on := 4, ground := Ground.phase }, { on := 5, ground := Ground.phase }, { on := 6, ground := Ground.phase }, { on := 7, ground := Ground.phase }], guard := none }) rfl (fun K hK => ?_) (AllReadyH.nil)
      go_simp
      have DS : Below W1.heap.size W1 (w2.alloc (.cells #[.int .i64 n, .int .i64 k, .string tx, .slice o3 a3.length k3, .slice o4 a4.length k4] 61)) := more' D2 _
      clear hHeld
      refine hK.out _ _ ?_ (fun hHeld => ?_)
      · (try dsimp only)
        first | exact SK.out _ D0 | exact SK.out _ D2 | exact SK.out _ DA | exact SK.out _ DS | exact SK.out _ (by assumption)
      clear hK K
      (try simp only [Act.put, List.setIfInBounds_toArray, List.set_cons_zero, List.set_cons_succ])
      refine wpAnyH_done (by kernel_rfl) ?_ _
      refine ⟨w2.heap.size, (.pointer (some ⟨w.heap.size, 0, none⟩)), (.int .i64 n), (.int .i64 k), (.slice od dn.length cd), (.string tx), (.agg #[.slice o3 a3.length k3, .slice o4 a4.length k4]), (.agg #[.int .i64 n, .int .i64 k, .string tx, .slice o3 a3.length k3, .slice o4 a4.length k4]), ?_, DS, D2.size, Blk.new _ _ _⟩
      first | rfl | (simp only [Act.put, List.setIfInBounds_toArray, List.set_cons_zero, List.set_cons_succ]; done) | (simp only [Act.put, List.setIfInBounds_toArray, List.set_cons_zero, List.set_cons_succ]; rfl)
    · go_simp
      have D1 : Below W1.heap.size W1 (W1.drew.alloc (.cells #[.int .i64 0, .int .i64 0, .string ⟨#[]⟩, .slice none 0 0, .slice none 0 0] 61)) := more' D0 _
      have HA : Hid (Blk (W1.drew.alloc (.cells #[.int .i64 0, .int .i64 0, .string ⟨#[]⟩, .slice none 0 0, .slice none 0 0] 61)) W1.heap.size [.int .i64 0, .int .i64 0, .string ⟨#[]⟩, .slice none 0 0, .slice none 0 0]) := Lib.hid (Blk.new W1.drew _ _)
      have D0' := D0; clear D0; have D0 := D1; clear D1
      clear hHeld
      refine hK.out _ _ ?_ (fun hHeld => ?_)
      · (try dsimp only)
        first | exact SK.out _ D0 | exact SK.out _ D2 | exact SK.out _ DA | exact SK.out _ DS | exact SK.out _ (by assumption)
      clear hK K
      (try simp only [Act.put, List.setIfInBounds_toArray, List.set_cons_zero, List.set_cons_succ])
      refine wpAnyH_ready (rs := [4]) (by kernel_rfl) (by simp) ?_
      refine AllReadyH.cons (o := { dst := some 19, op := Op.call { callee := Callee.value (Operand.func 45), args := #[Operand.tmp 18], argTypes := #[42] }, type := 9, pos := "l08_change.go:106", after := #[{ on := 3, ground := Ground.data }], guard := none }) rfl (fun K hK => ?_) (AllReadyH.nil)
      go_simp
      refine (CT.out _ (b1.trans (D0.mono b1.size))).mono ?_
      rintro e w2 ⟨rfl, hb⟩
      have D2 : Below W1.heap.size W1 w2 := D0.trans (hb.mono D0.size)
      have HBC := hb
      clear hb
      have HB2 := Lib.hid (HA.out.below HBC)
      clear hHeld
      refine hK.out _ _ ?_ (fun hHeld => ?_)
      · (try dsimp only)
        first | exact SK.out _ D0 | exact SK.out _ D2 | exact SK.out _ DA | exact SK.out _ DS | exact SK.out _ (by assumption)
      clear hK K
      (try simp only [Act.put, List.setIfInBounds_toArray, List.set_cons_zero, List.set_cons_succ])
      refine wpAnyH_take (i := 6) (oi := { dst := some 21, op := Op.build 61 #[(0, Operand.tmp 16), (1, Operand.tmp 17), (2, Operand.tmp 19), (3, Operand.tmp 20)], type := 61, pos := "l08_change.go:106", after := #[{ on := 1, ground := Ground.data }, { on := 2, ground := Ground.data }, { on := 4, ground := Ground.data }, { on := 5, ground := Ground.data }], guard := none }) (v := ?_) rfl (by kernel_rfl) (by kernel_rfl) (by kernel_rfl) (fun _ _ _ h => h) (Or.inl ⟨by rfl, ?_⟩) (by assumption) ?_
      rotate_left
      · intro w hSw; (try dsimp only at hSw); go_simp; (try with_reducible rfl)
      (try simp only [Act.put, List.setIfInBounds_toArray, List.set_cons_zero, List.set_cons_succ])
      refine wpAnyH_ready (rs := [8]) (by kernel_rfl) (by simp) ?_
      refine AllReadyH.cons (o := { dst := none, op := Op.store 61 (Operand.tmp 9) (Operand.tmp 21), type := 0, pos := "l08_change.go:106", after := #[{ on := 7, ground := Ground.data }, { on := 6, ground := Ground.data }, { on := 4, ground := Ground.chain }, { on := 0, ground := Ground.phase }, { on := 1, ground := Ground.phase }, { on := 2, ground := Ground.phase }, { on := 3, ground := Ground.phase }, { on := 4, ground := Ground.phase }, { on := 5, ground := Ground.phase }, { on := 6, ground := Ground.phase }, { on := 7, ground := Ground.phase }], guard := none }) rfl (fun K hK => ?_) (AllReadyH.nil)
      have bx0 := HB2.out.cell 0 rfl; have bf0 := HB2.out.soft 0
      have bx1 := HB2.out.cell 1 rfl; have bf1 := HB2.out.soft 1
      have bx2 := HB2.out.cell 2 rfl; have bf2 := HB2.out.soft 2
      have bx3 := HB2.out.cell 3 rfl; have bf3 := HB2.out.soft 3
      have bx4 := HB2.out.cell 4 rfl; have bf4 := HB2.out.soft 4
      go_simp
      clear bx0 bf0 bx1 bf1 bx2 bf2 bx3 bf3 bx4 bf4
      have DS : Below W1.heap.size W1 (((((w2.setCell ⟨W1.heap.size, 0, none⟩ (.int .i64 n)).setCell ⟨W1.heap.size, 1, none⟩ (.int .i64 k)).setCell ⟨W1.heap.size, 2, none⟩ (.string tx)).setCell ⟨W1.heap.size, 3, none⟩ (.slice o3 a3.length k3)).setCell ⟨W1.heap.size, 4, none⟩ (.slice o4 a4.length k4)) := (((((D2.setCell (p := ⟨W1.heap.size, 0, none⟩) (Nat.le_refl _) (.int .i64 n)).setCell (p := ⟨W1.heap.size, 1, none⟩) (Nat.le_refl _) (.int .i64 k)).setCell (p := ⟨W1.heap.size, 2, none⟩) (Nat.le_refl _) (.string tx)).setCell (p := ⟨W1.heap.size, 3, none⟩) (Nat.le_refl _) (.slice o3 a3.length k3)).setCell (p := ⟨W1.heap.size, 4, none⟩) (Nat.le_refl _) (.slice o4 a4.length k4))
      clear hHeld
      refine hK.out _ _ ?_ (fun hHeld => ?_)
      · (try dsimp only)
        first | exact SK.out _ D0 | exact SK.out _ D2 | exact SK.out _ DA | exact SK.out _ DS | exact SK.out _ (by assumption)
      clear hK K
      (try simp only [Act.put, List.setIfInBounds_toArray, List.set_cons_zero, List.set_cons_succ])
      refine wpAnyH_done (by kernel_rfl) ?_ _
      refine ⟨W1.heap.size, (.pointer (some ⟨w.heap.size, 0, none⟩)), (.int .i64 n), (.int .i64 k), (.slice od dn.length cd), (.string tx), (.agg #[.slice o3 a3.length k3, .slice o4 a4.length k4]), (.agg #[.int .i64 n, .int .i64 k, .string tx, .slice o3 a3.length k3, .slice o4 a4.length k4]), ?_, DS, Nat.le_refl _, (((((HB2.out.set 0 (.int .i64 n)).set 1 (.int .i64 k)).set 2 (.string tx)).set 3 (.slice o3 a3.length k3)).set 4 (.slice o4 a4.length k4))⟩
      first | rfl | (simp only [Act.put, List.setIfInBounds_toArray, List.set_cons_zero, List.set_cons_succ]; done) | (simp only [Act.put, List.setIfInBounds_toArray, List.set_cons_zero, List.set_cons_succ]; rfl)
  clear SK
  rintro a2 W1j ⟨gW1, t0, t1, t2, t3, t4, t5, t6, rfl, hb, hg, ht⟩
  try simp only [Act.put, List.setIfInBounds_toArray, List.set_cons_zero, List.set_cons_succ]
  have b2 := b1.trans (hb.mono b1.size); have T2 := Lib.hid (T1.out.below hb); have R2 := Lib.hid (R1.out.below hb); have C2 := Lib.hid ht
  have hg1 : w.heap.size + 1 + 1 < gW1 := Nat.lt_of_lt_of_le R1.out.lt hg
  clear hb hg ht T1 E1 R1 b1 CT
  have x0 := T2.out.cell 0 rfl; have x1 := T2.out.cell 1 rfl
  have CG : Hid (∀ W : World, Below w.heap.size w W → Calls Tryz.prog 37 #[.agg #[.int .i64 n, .int .i64 k, .string tx, .slice o3 a3.length k3, .slice o4 a4.length k4]] W fun e w' => e = .returned (.bool (chgB (n, k, tx, (a3, a4)))) ∧ Below W.heap.size W w') := Lib.hid (fun W b => changeRight_two n k tx a3 a4 _ _ W (H3.out.frame (Same.of_below' b)) (H4.out.frame (Same.of_below' b)) (by have := HT.out; omega) hze)
  have HP := Lib.hid (@chsB_parts n d)
  have HCh : Hid (chgB (n, k, tx, (a3, a4)) = true → changeE.sz (n, k, tx, (a3, a4)) ≤ 3000) := Lib.hid chg_small
  generalize hch : chsB n d = r1 at *
  generalize hcg : chgB (n, k, tx, (a3, a4)) = r2 at *
  go_wp2_with fail
  refine (CR.out W1j b2).mono ?_
  rintro e w3 ⟨rfl, hb⟩
  have b3 := b2.trans (hb.mono b2.size); have T3 := Lib.hid (T2.out.below hb); have R3 := Lib.hid (R2.out.below hb); have C3 := Lib.hid (C2.out.below hb)
  clear hb x0 x1 T2 R2 C2 b2 CR
  cases r1
  · have HRR : Hid (R = ((0, []), [], 1)) := Lib.hid (by rw [HR.out]; rfl)
    have rf0 := R3.out.soft 0; have rz0 := R3.out.cell 0 rfl
    have rf1 := R3.out.soft 1; have rz1 := R3.out.cell 1 rfl
    have rf2 := R3.out.soft 2; have rz2 := R3.out.cell 2 rfl
    have rf3 := R3.out.soft 3; have rz3 := R3.out.cell 3 rfl
    have TE := ((((R3.out.set 0 (.int .i64 0)).set 1 (.slice none 0 0)).set 2 (.slice none 0 0)).set 3 (.int .i64 1))
    have rj0 := TE.cell 0 rfl
    have rj1 := TE.cell 1 rfl
    have rj2 := TE.cell 2 rfl
    have rj3 := TE.cell 3 rfl
    clear TE
    have BE := Lib.hid ((((b3.setCell (p := ⟨w.heap.size + 1 + 1, 0, none⟩) (by show w.heap.size ≤ w.heap.size + 1 + 1; omega) (.int .i64 0)).setCell (p := ⟨w.heap.size + 1 + 1, 1, none⟩) (by show w.heap.size ≤ w.heap.size + 1 + 1; omega) (.slice none 0 0)).setCell (p := ⟨w.heap.size + 1 + 1, 2, none⟩) (by show w.heap.size ≤ w.heap.size + 1 + 1; omega) (.slice none 0 0)).setCell (p := ⟨w.heap.size + 1 + 1, 3, none⟩) (by show w.heap.size ≤ w.heap.size + 1 + 1; omega) (.int .i64 1))
    go_wp2
    refine bodyPost_ret (v := .agg #[.int .i64 0, .slice none 0 0, .slice none 0 0, .int .i64 1]) (by simp [results, Tryz.results17, go_sem, rj0, rj1, rj2, rj3]) rfl ?_
    rw [HRR.out]
    exact gives_ill 1 BE.out
  have y0 := C3.out.cell 0 rfl; have y1 := C3.out.cell 1 rfl; have y2 := C3.out.cell 2 rfl; have y3 := C3.out.cell 3 rfl; have y4 := C3.out.cell 4 rfl
  go_wp2_with fail
  refine (CG.out w3 b3).mono ?_
  rintro e w4 ⟨rfl, hb⟩
  have b4 := b3.trans (hb.mono b3.size); have T4 := Lib.hid (T3.out.below hb); have R4 := Lib.hid (R3.out.below hb); have C4 := Lib.hid (C3.out.below hb)
  clear hb T3 R3 C3 b3 CG y0 y1 y2 y3 y4
  cases r2
  · have HRR : Hid (R = ((0, []), [], 1)) := Lib.hid (by rw [HR.out]; rfl)
    have rf0 := R4.out.soft 0; have rz0 := R4.out.cell 0 rfl
    have rf1 := R4.out.soft 1; have rz1 := R4.out.cell 1 rfl
    have rf2 := R4.out.soft 2; have rz2 := R4.out.cell 2 rfl
    have rf3 := R4.out.soft 3; have rz3 := R4.out.cell 3 rfl
    have TE := ((((R4.out.set 0 (.int .i64 0)).set 1 (.slice none 0 0)).set 2 (.slice none 0 0)).set 3 (.int .i64 1))
    have rj0 := TE.cell 0 rfl
    have rj1 := TE.cell 1 rfl
    have rj2 := TE.cell 2 rfl
    have rj3 := TE.cell 3 rfl
    clear TE
    have BE := Lib.hid ((((b4.setCell (p := ⟨w.heap.size + 1 + 1, 0, none⟩) (by show w.heap.size ≤ w.heap.size + 1 + 1; omega) (.int .i64 0)).setCell (p := ⟨w.heap.size + 1 + 1, 1, none⟩) (by show w.heap.size ≤ w.heap.size + 1 + 1; omega) (.slice none 0 0)).setCell (p := ⟨w.heap.size + 1 + 1, 2, none⟩) (by show w.heap.size ≤ w.heap.size + 1 + 1; omega) (.slice none 0 0)).setCell (p := ⟨w.heap.size + 1 + 1, 3, none⟩) (by show w.heap.size ≤ w.heap.size + 1 + 1; omega) (.int .i64 1))
    go_wp2
    refine bodyPost_ret (v := .agg #[.int .i64 0, .slice none 0 0, .slice none 0 0, .int .i64 1]) (by simp [results, Tryz.results17, go_sem, rj0, rj1, rj2, rj3]) rfl ?_
    rw [HRR.out]
    exact gives_ill 1 BE.out
  obtain ⟨hn1, hn2, hd40, hf1, hnum⟩ := HP.out (by first | rfl | trivial)
  have HNum := Lib.hid hnum
  have HSm := Lib.hid (HCh.out (by first | rfl | trivial))
  have x0 := T4.out.cell 0 rfl; have x1 := T4.out.cell 1 rfl
  by_cases c1 : d.length = 40
  · have HRR : Hid (R = ((0, []), [], 9)) := Lib.hid (by rw [HR.out, if_pos (by rfl), if_pos (.inl c1)])
    have c1' : ((d.length : Int) == 40) = true := by simp [c1]
    have rf0 := R4.out.soft 0; have rz0 := R4.out.cell 0 rfl
    have rf1 := R4.out.soft 1; have rz1 := R4.out.cell 1 rfl
    have rf2 := R4.out.soft 2; have rz2 := R4.out.cell 2 rfl
    have rf3 := R4.out.soft 3; have rz3 := R4.out.cell 3 rfl
    have TE := ((((R4.out.set 0 (.int .i64 0)).set 1 (.slice none 0 0)).set 2 (.slice none 0 0)).set 3 (.int .i64 9))
    have rj0 := TE.cell 0 rfl
    have rj1 := TE.cell 1 rfl
    have rj2 := TE.cell 2 rfl
    have rj3 := TE.cell 3 rfl
    clear TE
    have BE := Lib.hid ((((b4.setCell (p := ⟨w.heap.size + 1 + 1, 0, none⟩) (by show w.heap.size ≤ w.heap.size + 1 + 1; omega) (.int .i64 0)).setCell (p := ⟨w.heap.size + 1 + 1, 1, none⟩) (by show w.heap.size ≤ w.heap.size + 1 + 1; omega) (.slice none 0 0)).setCell (p := ⟨w.heap.size + 1 + 1, 2, none⟩) (by show w.heap.size ≤ w.heap.size + 1 + 1; omega) (.slice none 0 0)).setCell (p := ⟨w.heap.size + 1 + 1, 3, none⟩) (by show w.heap.size ≤ w.heap.size + 1 + 1; omega) (.int .i64 9))
    go_wp2
    refine bodyPost_ret (v := .agg #[.int .i64 0, .slice none 0 0, .slice none 0 0, .int .i64 9]) (by simp [results, Tryz.results17, go_sem, rj0, rj1, rj2, rj3]) rfl ?_
    rw [HRR.out]
    exact gives_ill 9 BE.out
  have c1' : ((d.length : Int) == 40) = false := by rw [beq_eq_false_iff_ne]; omega
  by_cases c2 : n = 1000000
  · have HRR : Hid (R = ((0, []), [], 9)) := Lib.hid (by rw [HR.out, if_pos (by rfl), if_pos (.inr c2)])
    have c2' : (n == 1000000) = true := by simp [c2]
    have rf0 := R4.out.soft 0; have rz0 := R4.out.cell 0 rfl
    have rf1 := R4.out.soft 1; have rz1 := R4.out.cell 1 rfl
    have rf2 := R4.out.soft 2; have rz2 := R4.out.cell 2 rfl
    have rf3 := R4.out.soft 3; have rz3 := R4.out.cell 3 rfl
    have TE := ((((R4.out.set 0 (.int .i64 0)).set 1 (.slice none 0 0)).set 2 (.slice none 0 0)).set 3 (.int .i64 9))
    have rj0 := TE.cell 0 rfl
    have rj1 := TE.cell 1 rfl
    have rj2 := TE.cell 2 rfl
    have rj3 := TE.cell 3 rfl
    clear TE
    have BE := Lib.hid ((((b4.setCell (p := ⟨w.heap.size + 1 + 1, 0, none⟩) (by show w.heap.size ≤ w.heap.size + 1 + 1; omega) (.int .i64 0)).setCell (p := ⟨w.heap.size + 1 + 1, 1, none⟩) (by show w.heap.size ≤ w.heap.size + 1 + 1; omega) (.slice none 0 0)).setCell (p := ⟨w.heap.size + 1 + 1, 2, none⟩) (by show w.heap.size ≤ w.heap.size + 1 + 1; omega) (.slice none 0 0)).setCell (p := ⟨w.heap.size + 1 + 1, 3, none⟩) (by show w.heap.size ≤ w.heap.size + 1 + 1; omega) (.int .i64 9))
    go_wp2
    refine bodyPost_ret (v := .agg #[.int .i64 0, .slice none 0 0, .slice none 0 0, .int .i64 9]) (by simp [results, Tryz.results17, go_sem, rj0, rj1, rj2, rj3]) rfl ?_
    rw [HRR.out]
    exact gives_ill 9 BE.out
  have c2' : (n == 1000000) = false := by rw [beq_eq_false_iff_ne]; omega
  have HRR : Hid (R = ((n + 1, d ++ [(n, k, tx, (a3, a4))]), [], 0)) := Lib.hid (by rw [HR.out, if_pos (by rfl), if_neg (by omega)])
  clear HR HP HCh hnum
  have CCl : Hid (∀ W : World, Below w.heap.size w W → Calls Tryz.prog 46 #[.slice ao d.length ca] W fun e w' => (∃ u xs, e = .returned u ∧ w'.ownsRow W.heap.size 61 5 u d.length xs ∧ RowsOf S W d xs) ∧ Below W.heap.size W w') := Lib.hid (fun W b => cloneCh_any _ d W (HD.out.frame (Same.of_below' b)) (by omega))
  go_wp2_with fail
  have SK : Hid (∀ Z' : World, Below w4.heap.size w4 Z' → (fun Z' => Z'.cell? ⟨w.heap.size, 0, none⟩ = some (.int .i64 n) ∧ Z'.cell? ⟨w.heap.size, 1, none⟩ = some (.slice ao d.length ca) ∧ Z'.cell? ⟨gW1, 0, none⟩ = some (.int .i64 n) ∧ Z'.cell? ⟨gW1, 1, none⟩ = some (.int .i64 k) ∧ Z'.cell? ⟨gW1, 2, none⟩ = some (.string tx) ∧ Z'.cell? ⟨gW1, 3, none⟩ = some (.slice o3 a3.length k3) ∧ Z'.cell? ⟨gW1, 4, none⟩ = some (.slice o4 a4.length k4)) Z') := Lib.hid (fun Z' h => ⟨(T4.out.below h).cell 0 rfl, (T4.out.below h).cell 1 rfl, (C4.out.below h).cell 0 rfl, (C4.out.below h).cell 1 rfl, (C4.out.below h).cell 2 rfl, (C4.out.below h).cell 3 rfl, (C4.out.below h).cell 4 rfl⟩)
  refine region_join (fun A0 a2 w2 => ∃ (t41 t42 t43 t44 t45 : Value) (g cap : Nat), a2 = (((((((A0.put (some 41) t41).put (some 42) t42).put (some 43) t43).put (some 44) t44).put (some 45) t45).put (some 46) (.slice (some ⟨g, 0, none⟩) (d.length + 1) cap)).put (some 10) (.slice (some ⟨g, 0, none⟩) (d.length + 1) cap)) ∧ Below w4.heap.size w4 w2 ∧ SlAt changeE (fun _ => True) w2 (d ++ [(n, k, tx, (a3, a4))]) (.slice (some ⟨g, 0, none⟩) (d.length + 1) cap)) ?_ ?_
  · have D0 : Below w4.heap.size w4 w4.drew := (Below.refl _ _).drew
    refine wp_region_held_drew (S := (fun Z' => Z'.cell? ⟨w.heap.size, 0, none⟩ = some (.int .i64 n) ∧ Z'.cell? ⟨w.heap.size, 1, none⟩ = some (.slice ao d.length ca) ∧ Z'.cell? ⟨gW1, 0, none⟩ = some (.int .i64 n) ∧ Z'.cell? ⟨gW1, 1, none⟩ = some (.int .i64 k) ∧ Z'.cell? ⟨gW1, 2, none⟩ = some (.string tx) ∧ Z'.cell? ⟨gW1, 3, none⟩ = some (.slice o3 a3.length k3) ∧ Z'.cell? ⟨gW1, 4, none⟩ = some (.slice o4 a4.length k4))) (by kernel_rfl) ?_ (fun hHeld => ?_)
    · (try dsimp only)
      first | exact SK.out _ D0 | exact SK.out _ D1 | exact SK.out _ D2 | exact SK.out _ D3 | exact SK.out _ D4 | exact SK.out _ (by assumption)
    refine wpAnyH_take (i := 0) (oi := { dst := some 41, op := Op.fieldAddr 29 (Operand.tmp 4) 1, type := 0, pos := "l08_change.go:113", after := #[], guard := none }) (v := ?_) rfl (by kernel_rfl) (by kernel_rfl) (by kernel_rfl) (fun _ _ _ h => h) (Or.inl ⟨by rfl, ?_⟩) (by assumption) ?_
    rotate_left
    · intro w hSw; (try dsimp only at hSw); go_simp; (try with_reducible rfl)
    (try simp only [Act.put, List.setIfInBounds_toArray, List.set_cons_zero, List.set_cons_succ])
    refine wpAnyH_take (i := 1) (oi := { dst := some 42, op := Op.load 27 (Operand.tmp 41), type := 27, pos := "l08_change.go:113", after := #[{ on := 0, ground := Ground.data }], guard := none }) (v := ?_) rfl (by kernel_rfl) (by kernel_rfl) (by kernel_rfl) (fun _ _ _ h => h) (Or.inl ⟨by rfl, ?_⟩) (by assumption) ?_
    rotate_left
    · intro w hSw; (try dsimp only at hSw); go_simp; (try with_reducible rfl)
    (try simp only [Act.put, List.setIfInBounds_toArray, List.set_cons_zero, List.set_cons_succ])
    refine wpAnyH_take (i := 3) (oi := { dst := some 44, op := Op.load 61 (Operand.tmp 9), type := 61, pos := "l08_change.go:113", after := #[], guard := none }) (v := ?_) rfl (by kernel_rfl) (by kernel_rfl) (by kernel_rfl) (fun _ _ _ h => h) (Or.inl ⟨by rfl, ?_⟩) (by assumption) ?_
    rotate_left
    · intro w hSw; (try dsimp only at hSw); go_simp; (try with_reducible rfl)
    (try simp only [Act.put, List.setIfInBounds_toArray, List.set_cons_zero, List.set_cons_succ])
    refine wpAnyH_ready (rs := [2, 4]) (by kernel_rfl) (by simp) ?_
    refine AllReadyH.cons (o := { dst := some 43, op := Op.call { callee := Callee.value (Operand.func 46), args := #[Operand.tmp 42], argTypes := #[27] }, type := 27, pos := "l08_change.go:113", after := #[{ on := 1, ground := Ground.data }], guard := none }) rfl (fun K hK => ?_) (AllReadyH.cons (o := { dst := some 45, op := Op.buildSlice 27 1 #[(0, Operand.tmp 44)], type := 27, pos := "l08_change.go:113", after := #[{ on := 3, ground := Ground.data }], guard := none }) rfl (fun K hK => ?_) (AllReadyH.nil))
    · go_simp
      refine (CCl.out w4.drew (b4.trans (D0.mono b4.size))).mono ?_
      rintro e w5 ⟨⟨u, xs, rfl, ho, hrw⟩, hb⟩
      have D2 : Below w4.heap.size w4 w5 := D0.trans (hb.mono D0.size)
      have HO := Lib.hid ho; have HRw := Lib.hid hrw
      clear ho hrw hb
      obtain ⟨pu, nu, cu, rfl⟩ := own_slice3' HO.out
      clear hHeld
      refine hK.out _ _ ?_ (fun hHeld => ?_)
      · (try dsimp only)
        first | exact SK.out _ D0 | exact SK.out _ D1 | exact SK.out _ D2 | exact SK.out _ D3 | exact SK.out _ D4 | exact SK.out _ (by assumption)
      clear hK K
      (try simp only [Act.put, List.setIfInBounds_toArray, List.set_cons_zero, List.set_cons_succ])
      refine wpAnyH_ready (rs := [4]) (by kernel_rfl) (by simp) ?_
      refine AllReadyH.cons (o := { dst := some 45, op := Op.buildSlice 27 1 #[(0, Operand.tmp 44)], type := 27, pos := "l08_change.go:113", after := #[{ on := 3, ground := Ground.data }], guard := none }) rfl (fun K hK => ?_) (AllReadyH.nil)
      go_simp
      have D3 : Below w4.heap.size w4 (w5.alloc (.cells #[.int .i64 n, .int .i64 k, .string tx, .slice o3 a3.length k3, .slice o4 a4.length k4] 61)) := more' D2 _
      clear hHeld
      refine hK.out _ _ ?_ (fun hHeld => ?_)
      · (try dsimp only)
        first | exact SK.out _ D0 | exact SK.out _ D1 | exact SK.out _ D2 | exact SK.out _ D3 | exact SK.out _ D4 | exact SK.out _ (by assumption)
      clear hK K
      (try simp only [Act.put, List.setIfInBounds_toArray, List.set_cons_zero, List.set_cons_succ])
      refine wpAnyH_ready (rs := [5]) (by kernel_rfl) (by simp) ?_
      refine AllReadyH.cons (o := { dst := some 46, op := Op.call { callee := Callee.builtin Builtin.append, args := #[Operand.tmp 43, Operand.tmp 45], argTypes := #[27, 27] }, type := 27, pos := "l08_change.go:113", after := #[{ on := 2, ground := Ground.data }, { on := 4, ground := Ground.data }, { on := 2, ground := Ground.chain }], guard := none }) rfl (fun K hK => ?_) (AllReadyH.nil)
      refine step_ch w4.heap.size rfl _ _ rfl _ d.length xs rfl (HO.out.alloc _) w5.heap.size (Blk.new w5 61 _) rfl (by omega) D3.size ?_
      intro g cap w6 h1 h2 _
      have D4 : Below w4.heap.size w4 w6 := D3.grown h2 D3.size (fun r hr => (HO.out.lt r hr).1)
      have HF := rows_fin HRw.out (fun b _ hl => D4.block b hl) HO.out.1 (b4.trans (D4.mono b4.size)) H3.out H4.out h1
      clear h1 h2
      clear hHeld
      refine hK.out _ _ ?_ (fun hHeld => ?_)
      · (try dsimp only)
        first | exact SK.out _ D0 | exact SK.out _ D1 | exact SK.out _ D2 | exact SK.out _ D3 | exact SK.out _ D4 | exact SK.out _ (by assumption)
      clear hK K
      (try simp only [Act.put, List.setIfInBounds_toArray, List.set_cons_zero, List.set_cons_succ])
      refine wpAnyH_take (i := 6) (oi := { dst := some 10, op := Op.assign (Operand.tmp 46), type := 27, pos := "l08_change.go:113", after := #[{ on := 5, ground := Ground.data }, { on := 5, ground := Ground.chain }, { on := 0, ground := Ground.phase }, { on := 1, ground := Ground.phase }, { on := 2, ground := Ground.phase }, { on := 3, ground := Ground.phase }, { on := 4, ground := Ground.phase }, { on := 5, ground := Ground.phase }], guard := none }) (v := ?_) rfl (by kernel_rfl) (by kernel_rfl) (by kernel_rfl) (fun _ _ _ h => h) (Or.inl ⟨by rfl, ?_⟩) (by assumption) ?_
      rotate_left
      · intro w hSw; (try dsimp only at hSw); go_simp; (try with_reducible rfl)
      (try simp only [Act.put, List.setIfInBounds_toArray, List.set_cons_zero, List.set_cons_succ])
      refine wpAnyH_done (by kernel_rfl) ?_ _
      refine ⟨.pointer (some ⟨w.heap.size, 1, none⟩), .slice ao d.length ca, .slice pu nu cu, .agg #[.int .i64 n, .int .i64 k, .string tx, .slice o3 a3.length k3, .slice o4 a4.length k4], .slice (some ⟨w5.heap.size, 0, none⟩) 1 1, g, cap, ?_, D4, HF⟩
      first | rfl | (simp only [Act.put, List.setIfInBounds_toArray, List.set_cons_zero, List.set_cons_succ]; done) | (simp only [Act.put, List.setIfInBounds_toArray, List.set_cons_zero, List.set_cons_succ]; rfl)
    · go_simp
      have D1 : Below w4.heap.size w4 (w4.drew.alloc (.cells #[.int .i64 n, .int .i64 k, .string tx, .slice o3 a3.length k3, .slice o4 a4.length k4] 61)) := more' D0 _
      have HA : Hid (Blk (w4.drew.alloc (.cells #[.int .i64 n, .int .i64 k, .string tx, .slice o3 a3.length k3, .slice o4 a4.length k4] 61)) w4.heap.size [.int .i64 n, .int .i64 k, .string tx, .slice o3 a3.length k3, .slice o4 a4.length k4]) := Lib.hid (Blk.new w4.drew _ _)
      clear hHeld
      refine hK.out _ _ ?_ (fun hHeld => ?_)
      · (try dsimp only)
        first | exact SK.out _ D0 | exact SK.out _ D1 | exact SK.out _ D2 | exact SK.out _ D3 | exact SK.out _ D4 | exact SK.out _ (by assumption)
      clear hK K
      (try simp only [Act.put, List.setIfInBounds_toArray, List.set_cons_zero, List.set_cons_succ])
      refine wpAnyH_ready (rs := [2]) (by kernel_rfl) (by simp) ?_
      refine AllReadyH.cons (o := { dst := some 43, op := Op.call { callee := Callee.value (Operand.func 46), args := #[Operand.tmp 42], argTypes := #[27] }, type := 27, pos := "l08_change.go:113", after := #[{ on := 1, ground := Ground.data }], guard := none }) rfl (fun K hK => ?_) (AllReadyH.nil)
      go_simp
      refine (CCl.out (w4.drew.alloc (.cells #[.int .i64 n, .int .i64 k, .string tx, .slice o3 a3.length k3, .slice o4 a4.length k4] 61)) (b4.trans (D1.mono b4.size))).mono ?_
      rintro e w5 ⟨⟨u, xs, rfl, ho, hrw⟩, hb⟩
      have D2 : Below w4.heap.size w4 w5 := D1.trans (hb.mono D1.size)
      have HO := Lib.hid ho; have HRw := Lib.hid hrw; have HBc := Lib.hid hb; have HA2 := Lib.hid (HA.out.below hb)
      clear ho hrw hb
      obtain ⟨pu, nu, cu, rfl⟩ := own_slice3' HO.out
      clear hHeld
      refine hK.out _ _ ?_ (fun hHeld => ?_)
      · (try dsimp only)
        first | exact SK.out _ D0 | exact SK.out _ D1 | exact SK.out _ D2 | exact SK.out _ D3 | exact SK.out _ D4 | exact SK.out _ (by assumption)
      clear hK K
      (try simp only [Act.put, List.setIfInBounds_toArray, List.set_cons_zero, List.set_cons_succ])
      refine wpAnyH_ready (rs := [5]) (by kernel_rfl) (by simp) ?_
      refine AllReadyH.cons (o := { dst := some 46, op := Op.call { callee := Callee.builtin Builtin.append, args := #[Operand.tmp 43, Operand.tmp 45], argTypes := #[27, 27] }, type := 27, pos := "l08_change.go:113", after := #[{ on := 2, ground := Ground.data }, { on := 4, ground := Ground.data }, { on := 2, ground := Ground.chain }], guard := none }) rfl (fun K hK => ?_) (AllReadyH.nil)
      refine step_ch (w4.drew.alloc (.cells #[.int .i64 n, .int .i64 k, .string tx, .slice o3 a3.length k3, .slice o4 a4.length k4] 61)).heap.size rfl _ _ rfl _ d.length xs rfl HO.out w4.heap.size HA2.out rfl (by omega) HBc.out.size ?_
      intro g cap w6 h1 h2 _
      have D4 : Below w4.heap.size w4 w6 := D2.grown h2 D2.size (fun r hr => Nat.le_trans D1.size (HO.out.lt r hr).1)
      have HB6 := HBc.out.grown h2 HBc.out.size (fun r hr => (HO.out.lt r hr).1)
      have HF := rows_fin HRw.out (fun b _ hl => HB6.block b hl) HO.out.1 (b4.trans (D4.mono b4.size)) H3.out H4.out h1
      clear h1 h2 HB6
      clear hHeld
      refine hK.out _ _ ?_ (fun hHeld => ?_)
      · (try dsimp only)
        first | exact SK.out _ D0 | exact SK.out _ D1 | exact SK.out _ D2 | exact SK.out _ D3 | exact SK.out _ D4 | exact SK.out _ (by assumption)
      clear hK K
      (try simp only [Act.put, List.setIfInBounds_toArray, List.set_cons_zero, List.set_cons_succ])
      refine wpAnyH_take (i := 6) (oi := { dst := some 10, op := Op.assign (Operand.tmp 46), type := 27, pos := "l08_change.go:113", after := #[{ on := 5, ground := Ground.data }, { on := 5, ground := Ground.chain }, { on := 0, ground := Ground.phase }, { on := 1, ground := Ground.phase }, { on := 2, ground := Ground.phase }, { on := 3, ground := Ground.phase }, { on := 4, ground := Ground.phase }, { on := 5, ground := Ground.phase }], guard := none }) (v := ?_) rfl (by kernel_rfl) (by kernel_rfl) (by kernel_rfl) (fun _ _ _ h => h) (Or.inl ⟨by rfl, ?_⟩) (by assumption) ?_
      rotate_left
      · intro w hSw; (try dsimp only at hSw); go_simp; (try with_reducible rfl)
      (try simp only [Act.put, List.setIfInBounds_toArray, List.set_cons_zero, List.set_cons_succ])
      refine wpAnyH_done (by kernel_rfl) ?_ _
      refine ⟨.pointer (some ⟨w.heap.size, 1, none⟩), .slice ao d.length ca, .slice pu nu cu, .agg #[.int .i64 n, .int .i64 k, .string tx, .slice o3 a3.length k3, .slice o4 a4.length k4], .slice (some ⟨w4.heap.size, 0, none⟩) 1 1, g, cap, ?_, D4, HF⟩
      first | rfl | (simp only [Act.put, List.setIfInBounds_toArray, List.set_cons_zero, List.set_cons_succ]; done) | (simp only [Act.put, List.setIfInBounds_toArray, List.set_cons_zero, List.set_cons_succ]; rfl)
  clear SK
  rintro a2 w5 ⟨t41, t42, t43, t44, t45, g5, cap5, rfl, hb, hs⟩
  try simp only [Act.put, List.setIfInBounds_toArray, List.set_cons_zero, List.set_cons_succ]
  have b5 := b4.trans (hb.mono b4.size); have T5 := Lib.hid (T4.out.below hb); have R5 := Lib.hid (R4.out.below hb); have HSL := Lib.hid hs
  have CC : Hid (∀ (W : World), Below w5.heap.size w5 W → Calls Tryz.prog 47 #[.slice (some ⟨g5, 0, none⟩) (d.length + 1) cap5, .func (.func 48) #[] #[]] W fun e w' => (∃ u, e = .returned u ∧ SlOwn changeE (Fresh W w') w' (d ++ [(n, k, tx, (a3, a4))]) u) ∧ Below W.heap.size W w') := Lib.hid (fun W h => by
    have h9 := szL_small changeE 3000 (d ++ [(n, k, tx, (a3, a4))]) (fun x hx => by
      rcases List.mem_append.1 hx with hx | hx
      · exact nums_small HNum.out x hx
      · simp at hx; subst hx; exact HSm.out)
    rw [List.length_append, List.length_singleton] at h9
    exact cpysChange_any _ (d ++ [(n, k, tx, (a3, a4))]) W (HSL.out.frame (Same.of_below' h)) (by rw [List.length_append, List.length_singleton]; omega))
  have HLen : Hid ((d ++ [(n, k, tx, (a3, a4))]).length = d.length + 1) := Lib.hid (by simp)
  clear hb hs T4 R4 C4 b4 CCl x0 x1
  have hwn : IntKind.i64.wrap (n + 1) = n + 1 := IntWalk.i64_in _ (by omega)
  have hw5 : w.heap.size + 1 + 1 < w5.heap.size := R5.out.lt
  generalize d ++ [(n, k, tx, (a3, a4))] = L at *
  go_wp2_with fail
  have SK : Hid (∀ Z' : World, Below w5.heap.size w5 Z' → Z'.cell? ⟨w.heap.size, 0, none⟩ = some (.int .i64 n)) := Lib.hid (fun Z' h => (T5.out.below h).cell 0 rfl)
  have BD : Below w5.heap.size w5 w5.drew := (Below.refl _ _).drew
  refine wp_region_held_drew (S := (fun Z' => Z'.cell? ⟨w.heap.size, 0, none⟩ = some (.int .i64 n))) (by kernel_rfl) ?_ (fun hHeld => ?_)
  · (try dsimp only)
    first | exact SK.out _ (by assumption) | exact SK.out _ BD | exact SK.out _ (more' (by assumption) _) | exact SK.out _ (more' BD _) | exact SX.out _ _ _ _
  refine wpAnyH_take (i := 0) (oi := { dst := some 47, op := Op.fieldAddr 29 (Operand.tmp 4) 0, type := 0, pos := "l08_change.go:114", after := #[], guard := none }) (v := ?_) rfl (by kernel_rfl) (by kernel_rfl) (by kernel_rfl) (fun _ _ _ h => h) (Or.inl ⟨by rfl, ?_⟩) (by assumption) ?_
  rotate_left
  · intro w hSw; (try dsimp only at hSw); go_simp; (try with_reducible rfl)
  (try simp only [Act.put, List.setIfInBounds_toArray, List.set_cons_zero, List.set_cons_succ])
  refine wpAnyH_take (i := 1) (oi := { dst := some 48, op := Op.load 2 (Operand.tmp 47), type := 2, pos := "l08_change.go:114", after := #[{ on := 0, ground := Ground.data }], guard := none }) (v := ?_) rfl (by kernel_rfl) (by kernel_rfl) (by kernel_rfl) (fun _ _ _ h => h) (Or.inl ⟨by rfl, ?_⟩) (by assumption) ?_
  rotate_left
  · intro w hSw; (try dsimp only at hSw); go_simp; (try with_reducible rfl)
  (try simp only [Act.put, List.setIfInBounds_toArray, List.set_cons_zero, List.set_cons_succ])
  refine wpAnyH_take (i := 2) (oi := { dst := some 49, op := Op.binOp BinOp.add 2 (Operand.tmp 48) (Operand.const (Value.int IntKind.i64 1)) 2, type := 2, pos := "l08_change.go:114", after := #[{ on := 1, ground := Ground.data }], guard := none }) (v := ?_) rfl (by kernel_rfl) (by kernel_rfl) (by kernel_rfl) (fun _ _ _ h => h) (Or.inl ⟨by rfl, ?_⟩) (by assumption) ?_
  rotate_left
  · intro w hSw; (try dsimp only at hSw); go_simp; (try with_reducible rfl)
  (try simp only [Act.put, List.setIfInBounds_toArray, List.set_cons_zero, List.set_cons_succ])
  refine wpAnyH_take (i := 3) (oi := { dst := some 50, op := Op.move (Operand.tmp 10), type := 27, pos := "l08_change.go:114", after := #[], guard := none }) (v := ?_) rfl (by kernel_rfl) (by kernel_rfl) (by kernel_rfl) (fun _ _ _ h => h) (Or.inl ⟨by rfl, ?_⟩) (by assumption) ?_
  rotate_left
  · intro w hSw; (try dsimp only at hSw); go_simp; (try with_reducible rfl)
  (try simp only [Act.put, List.setIfInBounds_toArray, List.set_cons_zero, List.set_cons_succ])
  refine wpAnyH_ready (rs := [4]) (by kernel_rfl) (by simp) ?_
  refine AllReadyH.cons (o := { dst := some 51, op := Op.call { callee := Callee.value (Operand.func 47), args := #[Operand.tmp 50, Operand.func 48], argTypes := #[27, 83] }, type := 27, pos := "l08_change.go:114", after := #[{ on := 3, ground := Ground.data }], guard := none }) rfl (fun K hK => ?_) (AllReadyH.nil)
  go_simp
  refine (CC.out w5.drew BD).mono ?_
  rintro e w7 ⟨⟨u, rfl, ho⟩, hb⟩
  have D7 : Below w5.heap.size w5 w7 := BD.trans (hb.mono BD.size)
  have b7 := b5.trans (D7.mono b5.size); have R7 := Lib.hid (R5.out.below D7); have T7 := Lib.hid (T5.out.below D7); have HO := Lib.hid ho
  obtain ⟨p7, k7, rfl⟩ := ho.at.sl
  clear hb ho
  have f0 := R7.out.soft 0; have f1 := R7.out.soft 1; have f2 := R7.out.soft 2; have f3 := R7.out.soft 3
  have z0 := R7.out.cell 0 rfl; have z1 := R7.out.cell 1 rfl; have z2 := R7.out.cell 2 rfl; have z3 := R7.out.cell 3 rfl
  have SX : Hid (∀ y0 y1 y2 y3 : Value, ((((w7.setCell ⟨w.heap.size + 1 + 1, 0, none⟩ y0).setCell ⟨w.heap.size + 1 + 1, 1, none⟩ y1).setCell ⟨w.heap.size + 1 + 1, 2, none⟩ y2).setCell ⟨w.heap.size + 1 + 1, 3, none⟩ y3).cell? ⟨w.heap.size, 0, none⟩ = some (.int .i64 n)) := Lib.hid (fun y0 y1 y2 y3 => ((((T7.out.far (by omega) y0).far (by omega) y1).far (by omega) y2).far (by omega) y3).cell 0 rfl)
  clear hHeld
  refine hK.out _ _ ?_ (fun hHeld => ?_)
  · (try dsimp only)
    first | exact SK.out _ (by assumption) | exact SK.out _ BD | exact SK.out _ (more' (by assumption) _) | exact SK.out _ (more' BD _) | exact SX.out _ _ _ _
  clear hK K
  (try simp only [Act.put, List.setIfInBounds_toArray, List.set_cons_zero, List.set_cons_succ])
  refine wpAnyH_take (i := 5) (oi := { dst := some 52, op := Op.build 29 #[(0, Operand.tmp 49), (1, Operand.tmp 51)], type := 29, pos := "l08_change.go:114", after := #[{ on := 2, ground := Ground.data }, { on := 4, ground := Ground.data }], guard := none }) (v := ?_) rfl (by kernel_rfl) (by kernel_rfl) (by kernel_rfl) (fun _ _ _ h => h) (Or.inl ⟨by rfl, ?_⟩) (by assumption) ?_
  rotate_left
  · intro w hSw; (try dsimp only at hSw); go_simp; (try with_reducible rfl)
  (try simp only [Act.put, List.setIfInBounds_toArray, List.set_cons_zero, List.set_cons_succ])
  refine wpAnyH_take (i := 6) (oi := { dst := some 53, op := Op.build 40 #[(0, Operand.tmp 52)], type := 40, pos := "l08_change.go:114", after := #[{ on := 5, ground := Ground.data }], guard := none }) (v := ?_) rfl (by kernel_rfl) (by kernel_rfl) (by kernel_rfl) (fun _ _ _ h => h) (Or.inl ⟨by rfl, ?_⟩) (by assumption) ?_
  rotate_left
  · intro w hSw; (try dsimp only at hSw); go_simp; (try with_reducible rfl)
  (try simp only [Act.put, List.setIfInBounds_toArray, List.set_cons_zero, List.set_cons_succ])
  refine wpAnyH_ready (rs := [7]) (by kernel_rfl) (by simp) ?_
  refine AllReadyH.cons (o := { dst := none, op := Op.store 40 (Operand.tmp 8) (Operand.tmp 53), type := 0, pos := "l08_change.go:114", after := #[{ on := 6, ground := Ground.data }, { on := 4, ground := Ground.chain }, { on := 0, ground := Ground.phase }, { on := 1, ground := Ground.phase }, { on := 2, ground := Ground.phase }, { on := 3, ground := Ground.phase }, { on := 4, ground := Ground.phase }, { on := 5, ground := Ground.phase }, { on := 6, ground := Ground.phase }], guard := none }) rfl (fun K hK => ?_) (AllReadyH.nil)
  go_simp
  clear hHeld
  refine hK.out _ _ ?_ (fun hHeld => ?_)
  · (try dsimp only)
    first | exact SK.out _ (by assumption) | exact SK.out _ BD | exact SK.out _ (more' (by assumption) _) | exact SK.out _ (more' BD _) | exact SX.out _ _ _ _
  clear hK K
  (try simp only [Act.put, List.setIfInBounds_toArray, List.set_cons_zero, List.set_cons_succ])
  refine wpAnyH_done (by kernel_rfl) ?_ _
  clear SK
  have TE := (((R7.out.set 0 (.int .i64 (n + 1))).set 1 (.slice p7 L.length k7)).set 2 (.slice none 0 0)).set 3 (.int .i64 0)
  have j0 := TE.cell 0 rfl; have j1 := TE.cell 1 rfl; have j2 := TE.cell 2 rfl; have j3 := TE.cell 3 rfl
  clear TE
  have BE := Lib.hid ((((b7.setCell (p := ⟨w.heap.size + 1 + 1, 0, none⟩) (by show w.heap.size ≤ w.heap.size + 1 + 1; omega) (.int .i64 (n + 1))).setCell (p := ⟨w.heap.size + 1 + 1, 1, none⟩) (by show w.heap.size ≤ w.heap.size + 1 + 1; omega) (.slice p7 L.length k7)).setCell (p := ⟨w.heap.size + 1 + 1, 2, none⟩) (by show w.heap.size ≤ w.heap.size + 1 + 1; omega) (.slice none 0 0)).setCell (p := ⟨w.heap.size + 1 + 1, 3, none⟩) (by show w.heap.size ≤ w.heap.size + 1 + 1; omega) (.int .i64 0))
  have hd6 : w5.drew.heap.size = w5.heap.size := rfl
  go_wp2
  refine bodyPost_ret (v := .agg #[.int .i64 (n + 1), .slice p7 L.length k7, .slice none 0 0, .int .i64 0]) (by simp [results, Tryz.results17, go_sem, j0, j1, j2, j3]) rfl ?_
  rw [HRR.out]
  refine ⟨⟨_, _, rfl, changesOut_pack (n + 1) L [] 0 _ _ (Fresh w5.drew w7) Nil ⟨?_, fun b h => ⟨by have := h.1; omega, by have := h.2; show _ < (World.heap _).size; simp only [setCell_size]; omega⟩, own_nilS _ _ _, fun _ h => h.elim, fun _ _ h => h.elim, trivial⟩⟩, BE.out⟩
  exact ((((HO.out.frame (Same.set _ (g := w.heap.size + 1 + 1) 0 _ (by intro h; have := h.1; omega))).frame (Same.set _ (g := w.heap.size + 1 + 1) 1 _ (by intro h; have := h.1; omega))).frame (Same.set _ (g := w.heap.size + 1 + 1) 2 _ (by intro h; have := h.1; omega))).frame (Same.set _ (g := w.heap.size + 1 + 1) 3 _ (by intro h; have := h.1; omega)))
end Go.Proofs.YtmanlnlhpgdbpaaGreat
