/- joinRdns: what the program's text returns. -/
import Derived.Test.YtadbjpfgjkicaaaUnder
import Derived.Test.YtadbjpfgjkicaaaJoin
namespace Go.Proofs.Ytadbjpfgjkicaaa
open Go.RowKit
attribute [local go_sem ↓] Go.wp_at_zero Go.wp_at_succ

theorem more {w0 W : World} (h : Below w0.heap.size w0 W) (o : Obj) : Below w0.heap.size w0 (W.alloc o) := h.alloc h.size o
/-- a copy of a string -/
theorem concat_at (w0 : World) (B : Nat) (a : ByteArray) (w : World) (ha : a.size ≤ 1048576) (hB : B < w.heap.size) (hc : w.cell? ⟨B, 0, none⟩ = some (.string a)) (hb : Below w0.heap.size w0 w) :
    Calls Try.prog 88 #[.slice (some ⟨B, 0, none⟩) 1 1] w fun e w' => e = .returned (.string a) ∧ Below w0.heap.size w0 w' ∧ Below w.heap.size w w' := by
  have := concat_any B 0 1 [a] w (by simp) hB (by simp [joinL]; omega) (fun i hi => by
    match i, hi with
    | 0, _ => exact hc)
  rw [joinS_one] at this
  exact this.mono fun e w' ⟨he, h⟩ => ⟨he, hb.trans (h.mono hb.size), h⟩
theorem wp_world {P : Program} {c : Code} {Q : Exit → Act → World → Prop} {a : Act} {w : World} (R : World → Prop) (h : R w) (k : ∀ W, R W → c.wp P Q a W) : c.wp P Q a w := k w h
theorem keep_two {W w2 : World} {R : Nat} {A V : Value} (hb : Below W.heap.size W w2) (h : W.cell? ⟨R, 0, none⟩ = some A ∧ W.cell? ⟨R, 1, none⟩ = some V) : w2.cell? ⟨R, 0, none⟩ = some A ∧ w2.cell? ⟨R, 1, none⟩ = some V :=
  ⟨(hb.cell (p := ⟨R, 0, none⟩) (World.block_lt_of_cell? _ _ h.1)).trans h.1, (hb.cell (p := ⟨R, 1, none⟩) (World.block_lt_of_cell? _ _ h.2)).trans h.2⟩
theorem keep_far {W w2 : World} {R : Nat} {A V : Value} {row : Option Nat} (hg : W.grownBy w2 row) (hne : row ≠ some R) (h : W.cell? ⟨R, 0, none⟩ = some A ∧ W.cell? ⟨R, 1, none⟩ = some V) : w2.cell? ⟨R, 0, none⟩ = some A ∧ w2.cell? ⟨R, 1, none⟩ = some V :=
  ⟨(hg.cell_far ⟨R, 0, none⟩ (World.block_lt_of_cell? _ _ h.1) (Ne.symm hne)).trans h.1, (hg.cell_far ⟨R, 1, none⟩ (World.block_lt_of_cell? _ _ h.2) (Ne.symm hne)).trans h.2⟩
section
variable {ops : Array Oper} {o : Oper} {a : Act} {Q : Exit → Act → World → Prop} {K : Act → World → Prop} {E : Prop} {w0 wr : World}
theorem step_rdn2 (B : Nat) (hgd : o.guard = none) (s x : Operand)
    (ho : o.op = .call { callee := .builtin .append, args := #[s, x], argTypes := #[27, 27] }) (v : Value) (pre : RdnL) (hs : a.eval s = v) (hown : wr.ownsRow B 39 2 v pre.length (rs pre))
    (A V : ByteArray) (hx : a.eval x = .slice (some ⟨wr.heap.size, 0, none⟩) 1 1) (hlen : pre.length ≤ 1000000000) (hB : B ≤ wr.heap.size) (hbel : Below B w0 wr)
    (h : ∀ g cap w', w'.ownsRow B 39 2 (.slice (some ⟨g, 0, none⟩) (pre.length + 1) cap) (pre ++ [(A, V)]).length (rs (pre ++ [(A, V)])) → Below B w0 w' → (wr.alloc (.cells #[.string A, .string V] 39)).grownBy w' v.ownBlock → K (a.put o.dst (.slice (some ⟨g, 0, none⟩) (pre.length + 1) cap)) w') :
    if Region.wanted o (yielded ops a.tmps) = true then Oper.wp Try.prog o a (wr.alloc (.cells #[.string A, .string V] 39)) K Q else E := by
  obtain ⟨i0, hi, hz0, hz1, hz2⟩ := info_parts Try.info39
  refine step_append_lies _ hgd s x 27 ho B 39 i0 _ 2 32 Try.underlying27 hi hz0 hz1 hz2 rfl (by decide) v pre.length (rs pre) hs (hown.alloc _) ⟨wr.heap.size, 0, none⟩ 1 1 [.string A, .string V] hx rfl (World.news_of_block (cs := #[.string A, .string V]) (t := 39) (fr := (0, 0)) (heap_alloc_new wr _)) ?_ (by omega) ?_ ?_ ?_ (wr.heap.size + 1) (by simp) ?_
  · intro u hu; simp at hu; rcases hu with rfl | rfl <;> rfl
  · unfold maxLen; omega
  · omega
  · simp; omega
  · intro g cap w' h1 h2 h3 h4
    have hb' : Below B w0 w' := (hbel.alloc hB _).grown h2 (by simp; omega) (fun k hk => (hown.lt k hk).1)
    refine h g cap w' ?_ hb' h2
    rw [rs_snoc]; simpa using h1
end
/-- lists of names, as slices -/
def PartsAt (w : World) (pb po : Nat) (ps : List (Option Addr × Nat × RdnL)) : Prop :=
  pb < w.heap.size ∧ ∀ i (h : i < ps.length), w.cell? ⟨pb, po + i, none⟩ = some (.slice ps[i].1 ps[i].2.2.length ps[i].2.1) ∧ DnAt w ps[i].1 ps[i].2.2 ∧ Fits ps[i].2.2
theorem PartsAt.below {w w' : World} {pb po : Nat} {ps : List (Option Addr × Nat × RdnL)} (h : PartsAt w pb po ps) (hb : Below w.heap.size w w') : PartsAt w' pb po ps :=
  ⟨Nat.lt_of_lt_of_le h.1 hb.size, fun i hi => ⟨(hb.cell (p := ⟨pb, _, none⟩) h.1).trans (h.2 i hi).1, (h.2 i hi).2.1.below hb, (h.2 i hi).2.2⟩⟩
def flat (ps : List (Option Addr × Nat × RdnL)) : RdnL := ps.flatMap (·.2.2)
theorem flat_succ (ps : List (Option Addr × Nat × RdnL)) (k : Nat) (h : k < ps.length) : flat (ps.take (k + 1)) = flat (ps.take k) ++ ps[k].2.2 := by
  unfold flat; rw [List.take_succ_eq_append_getElem h, List.flatMap_append]; simp

theorem flat_len (ps : List (Option Addr × Nat × RdnL)) (h : ∀ p ∈ ps, p.2.2.length ≤ 1048576) : (flat ps).length ≤ ps.length * 1048576 := by
  induction ps with
  | nil => simp [flat]
  | cons p ps ih =>
    have h1 := ih (fun x hx => h x (List.mem_cons_of_mem _ hx))
    have h2 := h p (List.mem_cons_self ..)
    have e : flat (p :: ps) = p.2.2 ++ flat ps := by unfold flat; simp
    rw [e, List.length_append, List.length_cons, Nat.add_mul]; omega
theorem PartsAt.len {w : World} {pb po : Nat} {ps : List (Option Addr × Nat × RdnL)} (h : PartsAt w pb po ps) (hm : ps.length ≤ 10) (k : Nat) : (flat (ps.take k)).length ≤ 100000000 := by
  have := flat_len (ps.take k) (fun p hp => by
    obtain ⟨i, hi, rfl⟩ := List.getElem_of_mem (List.mem_of_mem_take hp)
    exact (h.2 i hi).2.2.1)
  have h2 : (ps.take k).length ≤ 10 := by rw [List.length_take]; omega
  omega
set_option maxRecDepth 100000 in
set_option maxHeartbeats 2000000 in
theorem joinRdns_any (pb po pc : Nat) (ps : List (Option Addr × Nat × RdnL)) (w : World) (hp : PartsAt w pb po ps) (hm : ps.length ≤ 10) :
    Calls Try.prog 75 #[.slice (some ⟨pb, po, none⟩) ps.length pc] w fun e w' => (∃ v, e = .returned v ∧ w'.ownsRow w.heap.size 39 2 v (flat ps).length (rs (flat ps))) ∧ Below w.heap.size w w' := by
  have HP := Lib.hid hp; clear hp
  go_enter Try.func75, Try.ntmps75
  go_wp2
  go_loopw [3, 9] (fun v i wr => ∃ k : Nat, k ≤ ps.length ∧ i = .int .i64 k ∧ wr.ownsRow w.heap.size 39 2 v (flat (ps.take k)).length (rs (flat (ps.take k))) ∧ Below w.heap.size w wr) (fun _ i _ => ps.length - (intOf i).toNat)
  case atStart => exact ⟨0, Nat.zero_le _, rfl, ⟨rfl, .inl ⟨rfl, rfl⟩⟩, Below.refl _ _⟩
  case round =>
    obtain ⟨k, hk, rfl, hown, hbel⟩ := hrel
    by_cases hlt : k < ps.length
    · obtain ⟨hc0, hd, hf⟩ := HP.out.2 k hlt
      have hc := (hbel.cell (p := ⟨pb, po + k, none⟩) HP.out.1).trans hc0
      have hl := hf.1
      have HF := Lib.hid (flat_succ ps k hlt)
      have hown0 : wr.ownsRow w.heap.size 39 2 u3 (flat (ps.take k) ++ ps[k].2.2.take 0).length (rs (flat (ps.take k) ++ ps[k].2.2.take 0)) := by rw [List.take_zero, List.append_nil]; exact hown
      have HO := Lib.hid hown0; have HD := Lib.hid hd; have HFi := Lib.hid hf; have HC0 := Lib.hid hc0
      clear hown hown0 hd hf hc0
      have hpl := HP.out.len hm k
      generalize flat (ps.take k) = pre at *
      generalize ps[k].1 = ao at *
      generalize ps[k].2.1 = cp at *
      generalize ps[k].2.2 = d at *
      go_wp2_with fail
      go_loopw [3, 17] (fun v i wr => ∃ j : Nat, j ≤ d.length ∧ i = .int .i64 j ∧ wr.ownsRow w.heap.size 39 2 v (pre ++ d.take j).length (rs (pre ++ d.take j)) ∧ Below w.heap.size w wr) (fun _ i _ => d.length - (intOf i).toNat)
      case atStart => exact ⟨0, Nat.zero_le _, rfl, HO.out, hbel⟩
      case round =>
        clear hc HO hbel
        obtain ⟨j, hj, rfl, hown, hbel⟩ := hrel
        have hc := (hbel.cell (p := ⟨pb, po + k, none⟩) HP.out.1).trans HC0.out
        by_cases hjlt : j < d.length
        · obtain ⟨b, off, rfl, hb0, hd1, hd2⟩ := HD.out.at hjlt
          have hc1 := (hbel.cell (p := ⟨b, off + j * 2, none⟩) hb0).trans hd1
          have hc2 := (hbel.cell (p := ⟨b, off + j * 2 + 1, none⟩) hb0).trans hd2
          have hz := HFi.out.small hjlt
          have HN : Hid (d.take (j + 1) = d.take j ++ [d[j]]) := Lib.hid (List.take_succ_eq_append_getElem hjlt)
          clear hd1 hd2
          have HR : Hid (u3.ownBlock ≠ some wr.heap.size) := Lib.hid (fun e => by have := (hown.lt _ e).2; omega)
          have HO := Lib.hid hown
          have hpl2 : Hid ((pre ++ d.take j).length ≤ 1000000000) := Lib.hid (by rw [List.length_append, List.length_take]; omega)
          have HD2 : Hid (d[j] = (d[j].1, d[j].2)) := Lib.hid rfl
          generalize d[j].1 = A at *
          generalize d[j].2 = V at *
          go_wp2_with fail
          refine wp_world (fun W => (W.cell? ⟨wr.heap.size, 0, none⟩ = some (.string A) ∧ W.cell? ⟨wr.heap.size, 1, none⟩ = some (.string V)) ∧ W.ownsRow w.heap.size 39 2 u3 (pre ++ d.take j).length (rs (pre ++ d.take j)) ∧ Below w.heap.size w W)
            ⟨⟨by simp, by simp⟩, HO.out.alloc _, more hbel _⟩ ?_
          rintro W0 ⟨hW1, hW2, hW3⟩
          have HO2 := Lib.hid hW2
          generalize wr.heap.size = R at *
          clear hown HO hW2 hc hc1 hc2 hbel
          have hW4 : Below W0.heap.size W0 W0.drew := (Below.refl _ _).drew
          obtain ⟨hz1, hz2⟩ := hz
          go_region_held3 (fun W => W.cell? ⟨R, 0, none⟩ = some (.string A) ∧ W.cell? ⟨R, 1, none⟩ = some (.string V))
            (first | go_keep | exact keep_far hg5 HR.out (by assumption) | exact keep_two hb2 (by assumption))
            (first
              | (go_at_call 88; refine (concat_at W0 _ A _ hz1 ?_ ?_ ?_).mono ?_; (focus (first | (simp; done) | (simp; omega) | (exact Nat.lt_of_lt_of_le (by first | (simp; done) | (simp; omega)) hb2.size))); (focus (first | (simp; done) | (rw [bc _ _ (by first | (simp; done) | (simp; omega))]; simp; done))); (focus (first | assumption | exact more (by assumption) _ | exact (more (Below.refl _ _) _).drew | exact (more (more (Below.refl _ _) _) _).drew)); rintro e w2 ⟨rfl, hq2, hb2⟩; obtain ⟨bc, bf⟩ := bcell hb2)
              | (go_at_call 88; refine (concat_at W0 _ V _ hz2 ?_ ?_ ?_).mono ?_; (focus (first | (simp; done) | (simp; omega) | (exact Nat.lt_of_lt_of_le (by first | (simp; done) | (simp; omega)) hb2.size))); (focus (first | (simp; done) | (rw [bc _ _ (by first | (simp; done) | (simp; omega))]; simp; done))); (focus (first | assumption | exact more (by assumption) _ | exact (more (Below.refl _ _) _).drew | exact (more (more (Below.refl _ _) _) _).drew)); rintro e w2 ⟨rfl, hq2, hb2⟩; obtain ⟨bc, bf⟩ := bcell hb2)
              | (refine step_rdn2 w.heap.size (by rfl) _ _ (by rfl) _ (pre ++ d.take j) (by rfl) (own_below HO2.out hq2) _ _ (by rfl) hpl2.out (Nat.le_trans hW3.size hq2.size) (hW3.trans (hq2.mono hW3.size)) ?_; intro g cp5 w5 hown5 hbel5 hg5)
              | (fail "none"))
          all_goals
            rw [show (pre ++ d.take j).length + 1 = pre.length + j + 1 by rw [List.length_append, List.length_take]; omega] at hown5
            have HO5 := Lib.hid hown5
            clear hown5 bc bf
            go_wp2
            go_roundw
            case rel => exact ⟨j + 1, by omega, by go_num, by rw [HN.out, HD2.out, ← List.append_assoc]; exact HO5.out, hbel5⟩
            case measure => simp [intOf]; omega
        · have e : d.take j = d := List.take_of_length_le (by omega)
          rw [e] at hown
          have HO := Lib.hid hown
          clear hown e
          go_wp2
          go_roundw
          case rel => exact ⟨k + 1, by omega, by go_num, by rw [HF.out]; exact HO.out, hbel⟩
          case measure => simp [intOf]; omega
    · have e : ps.take k = ps := List.take_of_length_le (by omega)
      rw [e] at hown
      have HO := Lib.hid hown
      clear hown e
      go_wp2
      go_ret
      exact ⟨⟨_, rfl, HO.out⟩, hbel⟩
end Go.Proofs.Ytadbjpfgjkicaaa
