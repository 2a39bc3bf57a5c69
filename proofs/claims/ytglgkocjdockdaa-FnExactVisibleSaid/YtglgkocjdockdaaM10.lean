/- Merged texts: VwT, VisS, VwZ, VisZ, szRdn, szString, szRule, toRule, eqRdn, eqString, eqRule, szAttr. -/
import Derived.Test.YtglgkocjdockdaaM7
import Derived.Test.YtglgkocjdockdaaM9
import Derived.Test.YtglgkocjdockdaaM1
import Derived.Test.YtglgkocjdockdaaM3
import Derived.Test.YtglgkocjdockdaaM2
import Derived.Laws.MakeOwn
import Derived.Test.YtglgkocjdockdaaM6
import Derived.SliceStrings
/- ViewOf: what the specification returns. -/
namespace Go.Proofs.Ytglgkocjdockdaa
open Go.RowKit
attribute [local go_sem ↓] Go.wp_at_zero Go.wp_at_succ

set_option maxRecDepth 100000 in
set_option maxHeartbeats 4000000 in
theorem SpecViewOf_any {S S1 S2 : Bs} (v : Value) (d : List RuleT) (who : ByteArray) (dn : RdnL) (at_ : List AttrT) (dv av : Value) (w : World) (hL : SlAt ruleE S w d v) (hd : SlAt rdnE S1 w dn dv) (ha : SlAt attrE S2 w at_ av)
    (hz : d.length + szL ruleE d ≤ 1048576) (hze : entryE.sz (dn, at_) ≤ 1048576) (hw : who.size ≤ 1048576) :
    Calls Try.prog 23 #[v, .string who, .agg #[dv, av]] w (GivesView w (viewR d who dn at_)) := by
  have CL : Hid (∀ W : World, Below w.heap.size w W → Calls Try.prog 13 #[v] W fun e w' => e = .returned (.bool (aclB d)) ∧ Below W.heap.size W w') := Lib.hid (fun W b => SpecAclRight_any v d W (hL.frame (Same.of_below' b)) hz)
  have CN : Hid (∀ W : World, Calls Try.prog 48 #[.string who] W fun e w' => e = .returned (.bool (nmL who)) ∧ Below W.heap.size W w') := Lib.hid (fun W => (SpecNameRight_any who W (by unfold maxLen; omega)).mono fun e w' ⟨h1, h2⟩ => ⟨h1, h2 ▸ Below.refl _ _⟩)
  have CV : Hid (∀ (W : World), Below w.heap.size w W → Calls Try.prog 81 #[v, .string who, .agg #[dv, av]] W (GivesPair W (grantB d who dn ⟨#[]⟩ 1) dn (readR d who dn at_))) := Lib.hid (fun W b => l06View_any v d who dn at_ dv av W (hL.frame (Same.of_below' b)) (hd.frame (Same.of_below' b)) (ha.frame (Same.of_below' b)) hz hze)
  have HE : entryE.sz (dn, at_) = (dn.length + szL rdnE dn) + (at_.length + szL attrE at_) := rfl
  rw [HE] at hze
  obtain ⟨o1, k1, rfl⟩ := hL.sl
  have hd0 := hd; have ha0 := ha
  obtain ⟨o2, k2, rfl⟩ := hd.sl
  obtain ⟨o3, k3, rfl⟩ := ha.sl
  have CE : Hid (∀ W : World, Below w.heap.size w W → Calls Try.prog 80 #[.agg #[.slice o2 dn.length k2, .slice o3 at_.length k3]] W fun e w' => e = .returned (.bool (rightB dn at_)) ∧ Below W.heap.size W w') := Lib.hid (fun W b => SpecEntryRight_any o2 o3 dn at_ k2 k3 W ((dn_of hd0).below b) ((attrs_of ha0).below b) (fits_dn (by omega)) (fits_attrs (by omega)))
  have CI : Hid (∀ (c : Int) (W : World), Calls Try.prog 79 #[.int .i64 c] W fun e w' => e = .returned (.agg #[.slice none 0 0, .slice none 0 0, .int .i64 c]) ∧ Below W.heap.size W w') := Lib.hid (fun c W => l03Ill_any c W)
  have hdl : d.length ≤ 1048576 := by omega
  have HV1 : Hid ((400 < d.length ∨ 8000 < who.size) → viewR d who dn at_ = (([], []), 2)) := Lib.hid (fun h => by unfold viewR; rw [if_pos h])
  have HV2 : Hid (¬ (400 < d.length ∨ 8000 < who.size) → (aclB d && (rightB dn at_ && nmL who)) = false → viewR d who dn at_ = (([], []), 1)) := Lib.hid (fun h h2 => by unfold viewR; rw [if_neg h, if_pos h2])
  have HV3 : Hid (¬ (400 < d.length ∨ 8000 < who.size) → (aclB d && (rightB dn at_ && nmL who)) = true → grantB d who dn ⟨#[]⟩ 1 = false → viewR d who dn at_ = (([], []), 11)) := Lib.hid (fun h h2 h3 => by unfold viewR; rw [if_neg h, if_neg (by rw [h2]; simp), if_pos h3])
  have HV4 : Hid (¬ (400 < d.length ∨ 8000 < who.size) → (aclB d && (rightB dn at_ && nmL who)) = true → grantB d who dn ⟨#[]⟩ 1 = true → viewR d who dn at_ = ((dn, readR d who dn at_), 0)) := Lib.hid (fun h h2 h3 => by unfold viewR; rw [if_neg h, if_neg (by rw [h2]; simp), if_neg (by rw [h3]; simp)])
  clear hL hd hd0 ha ha0 hz hze HE
  generalize viewR d who dn at_ = R at *
  generalize aclB d = n1 at *
  generalize rightB dn at_ = n2 at *
  generalize nmL who = n3 at *
  generalize grantB d who dn ⟨#[]⟩ 1 = n4 at *
  generalize readR d who dn at_ = rd at *
  by_cases c1 : 400 < d.length
  · have HR := Lib.hid (HV1.out (.inl c1))
    have c1' : (400 : Int) < (d.length : Int) := by omega
    go_enter Try.func23, Try.ntmps23
    go_wp2_with fail
    refine calls_by (fun W => Below w.heap.size w W ∧ Blk W w.heap.size [.slice o2 dn.length k2, .slice o3 at_.length k3] ∧ Blk W (w.heap.size + 1) [.slice none 0 0, .slice none 0 0, .int .i64 0]) ⟨more' (more' (Below.refl _ _) _) _, (Blk.new _ _ _).alloc _, blk_at _ _ _ (by simp)⟩ ?_
    rintro W1 ⟨b1, t1, r1⟩
    have R1 := Lib.hid r1
    refine (CI.out 2 _).mono ?_
    rintro e wz ⟨rfl, hb⟩
    have bz := b1.trans (hb.mono b1.size); have RZ := Lib.hid (R1.out.below hb)
    clear hb
    have TE := ((RZ.out.set 0 (.slice none 0 0)).set 1 (.slice none 0 0)).set 2 (.int .i64 2)
    have j0 := TE.cell 0 rfl
    have j1 := TE.cell 1 rfl
    have j2 := TE.cell 2 rfl
    have x0 := RZ.out.cell 0 rfl
    have x1 := RZ.out.cell 1 rfl
    have x2 := RZ.out.cell 2 rfl
    have f0 := RZ.out.soft 0
    have f1 := RZ.out.soft 1
    have f2 := RZ.out.soft 2
    clear TE
    go_wp2
    refine bodyPost_ret (v := .agg #[.slice none 0 0, .slice none 0 0, .int .i64 2]) (by simp [results, Try.results23, go_sem, j0, j1, j2]) rfl ?_
    rw [HR.out]
    exact gives_ill w _ 2 (((bz.setCell (p := ⟨w.heap.size + 1, 0, none⟩) (by show w.heap.size ≤ w.heap.size + 1; omega) _).setCell (p := ⟨w.heap.size + 1, 1, none⟩) (by show w.heap.size ≤ w.heap.size + 1; omega) _).setCell (p := ⟨w.heap.size + 1, 2, none⟩) (by show w.heap.size ≤ w.heap.size + 1; omega) _)
  have c1' : ¬ (400 : Int) < (d.length : Int) := by omega
  by_cases c2 : 8000 < who.size
  · have HR := Lib.hid (HV1.out (.inr c2))
    have c2' : (8000 : Int) < (who.size : Int) := by omega
    go_enter Try.func23, Try.ntmps23
    go_wp2_with fail
    refine calls_by (fun W => Below w.heap.size w W ∧ Blk W w.heap.size [.slice o2 dn.length k2, .slice o3 at_.length k3] ∧ Blk W (w.heap.size + 1) [.slice none 0 0, .slice none 0 0, .int .i64 0]) ⟨more' (more' (Below.refl _ _) _) _, (Blk.new _ _ _).alloc _, blk_at _ _ _ (by simp)⟩ ?_
    rintro W1 ⟨b1, t1, r1⟩
    have R1 := Lib.hid r1
    refine (CI.out 2 _).mono ?_
    rintro e wz ⟨rfl, hb⟩
    have bz := b1.trans (hb.mono b1.size); have RZ := Lib.hid (R1.out.below hb)
    clear hb
    have TE := ((RZ.out.set 0 (.slice none 0 0)).set 1 (.slice none 0 0)).set 2 (.int .i64 2)
    have j0 := TE.cell 0 rfl
    have j1 := TE.cell 1 rfl
    have j2 := TE.cell 2 rfl
    have x0 := RZ.out.cell 0 rfl
    have x1 := RZ.out.cell 1 rfl
    have x2 := RZ.out.cell 2 rfl
    have f0 := RZ.out.soft 0
    have f1 := RZ.out.soft 1
    have f2 := RZ.out.soft 2
    clear TE
    go_wp2
    refine bodyPost_ret (v := .agg #[.slice none 0 0, .slice none 0 0, .int .i64 2]) (by simp [results, Try.results23, go_sem, j0, j1, j2]) rfl ?_
    rw [HR.out]
    exact gives_ill w _ 2 (((bz.setCell (p := ⟨w.heap.size + 1, 0, none⟩) (by show w.heap.size ≤ w.heap.size + 1; omega) _).setCell (p := ⟨w.heap.size + 1, 1, none⟩) (by show w.heap.size ≤ w.heap.size + 1; omega) _).setCell (p := ⟨w.heap.size + 1, 2, none⟩) (by show w.heap.size ≤ w.heap.size + 1; omega) _)
  have c2' : ¬ (8000 : Int) < (who.size : Int) := by omega
  have hsz : ¬ (400 < d.length ∨ 8000 < who.size) := by omega
  have HV2' := Lib.hid (HV2.out hsz); have HV3' := Lib.hid (HV3.out hsz); have HV4' := Lib.hid (HV4.out hsz)
  clear HV1 HV2 HV3 HV4 hsz c1 c2
  go_enter Try.func23, Try.ntmps23
  go_wp2_with fail
  refine calls_by (fun W => Below w.heap.size w W ∧ Blk W w.heap.size [.slice o2 dn.length k2, .slice o3 at_.length k3] ∧ Blk W (w.heap.size + 1) [.slice none 0 0, .slice none 0 0, .int .i64 0]) ⟨more' (more' (Below.refl _ _) _) _, (Blk.new _ _ _).alloc _, blk_at _ _ _ (by simp)⟩ ?_
  rintro W1 ⟨b1, t1, r1⟩
  refine (CL.out W1 b1).mono ?_
  rintro e w2 ⟨rfl, hb⟩
  have b2 := b1.trans (hb.mono b1.size); have T2 := Lib.hid (t1.below hb); have R2 := Lib.hid (r1.below hb)
  clear hb t1 r1 b1
  cases n1
  · have HR := Lib.hid (HV2'.out (by rfl))
    go_wp2_with fail
    refine (CI.out 1 _).mono ?_
    rintro e wz ⟨rfl, hb⟩
    have bz := b2.trans (hb.mono b2.size); have RZ := Lib.hid (R2.out.below hb)
    clear hb
    have TE := ((RZ.out.set 0 (.slice none 0 0)).set 1 (.slice none 0 0)).set 2 (.int .i64 1)
    have j0 := TE.cell 0 rfl
    have j1 := TE.cell 1 rfl
    have j2 := TE.cell 2 rfl
    have x0 := RZ.out.cell 0 rfl
    have x1 := RZ.out.cell 1 rfl
    have x2 := RZ.out.cell 2 rfl
    have f0 := RZ.out.soft 0
    have f1 := RZ.out.soft 1
    have f2 := RZ.out.soft 2
    clear TE
    go_wp2
    refine bodyPost_ret (v := .agg #[.slice none 0 0, .slice none 0 0, .int .i64 1]) (by simp [results, Try.results23, go_sem, j0, j1, j2]) rfl ?_
    rw [HR.out]
    exact gives_ill w _ 1 (((bz.setCell (p := ⟨w.heap.size + 1, 0, none⟩) (by show w.heap.size ≤ w.heap.size + 1; omega) _).setCell (p := ⟨w.heap.size + 1, 1, none⟩) (by show w.heap.size ≤ w.heap.size + 1; omega) _).setCell (p := ⟨w.heap.size + 1, 2, none⟩) (by show w.heap.size ≤ w.heap.size + 1; omega) _)
  go_wp2_with fail
  refine (CN.out w2).mono ?_
  rintro e w3 ⟨rfl, hb⟩
  have b3 := b2.trans (hb.mono b2.size); have T3 := Lib.hid (T2.out.below hb); have R3 := Lib.hid (R2.out.below hb)
  clear hb
  cases n3
  · have HR := Lib.hid (HV2'.out (by cases n2 <;> rfl))
    go_wp2_with fail
    refine (CI.out 1 _).mono ?_
    rintro e wz ⟨rfl, hb⟩
    have bz := b3.trans (hb.mono b3.size); have RZ := Lib.hid (R3.out.below hb)
    clear hb
    have TE := ((RZ.out.set 0 (.slice none 0 0)).set 1 (.slice none 0 0)).set 2 (.int .i64 1)
    have j0 := TE.cell 0 rfl
    have j1 := TE.cell 1 rfl
    have j2 := TE.cell 2 rfl
    have x0 := RZ.out.cell 0 rfl
    have x1 := RZ.out.cell 1 rfl
    have x2 := RZ.out.cell 2 rfl
    have f0 := RZ.out.soft 0
    have f1 := RZ.out.soft 1
    have f2 := RZ.out.soft 2
    clear TE
    go_wp2
    refine bodyPost_ret (v := .agg #[.slice none 0 0, .slice none 0 0, .int .i64 1]) (by simp [results, Try.results23, go_sem, j0, j1, j2]) rfl ?_
    rw [HR.out]
    exact gives_ill w _ 1 (((bz.setCell (p := ⟨w.heap.size + 1, 0, none⟩) (by show w.heap.size ≤ w.heap.size + 1; omega) _).setCell (p := ⟨w.heap.size + 1, 1, none⟩) (by show w.heap.size ≤ w.heap.size + 1; omega) _).setCell (p := ⟨w.heap.size + 1, 2, none⟩) (by show w.heap.size ≤ w.heap.size + 1; omega) _)
  have m0 := T3.out.cell 0 rfl
  have m1 := T3.out.cell 1 rfl
  go_wp2_with fail
  refine (CE.out w3 b3).mono ?_
  rintro e w4 ⟨rfl, hb⟩
  have b4 := b3.trans (hb.mono b3.size); have T4 := Lib.hid (T3.out.below hb); have R4 := Lib.hid (R3.out.below hb)
  clear hb m0 m1
  cases n2
  · have HR := Lib.hid (HV2'.out (by rfl))
    go_wp2_with fail
    refine (CI.out 1 _).mono ?_
    rintro e wz ⟨rfl, hb⟩
    have bz := b4.trans (hb.mono b4.size); have RZ := Lib.hid (R4.out.below hb)
    clear hb
    have TE := ((RZ.out.set 0 (.slice none 0 0)).set 1 (.slice none 0 0)).set 2 (.int .i64 1)
    have j0 := TE.cell 0 rfl
    have j1 := TE.cell 1 rfl
    have j2 := TE.cell 2 rfl
    have x0 := RZ.out.cell 0 rfl
    have x1 := RZ.out.cell 1 rfl
    have x2 := RZ.out.cell 2 rfl
    have f0 := RZ.out.soft 0
    have f1 := RZ.out.soft 1
    have f2 := RZ.out.soft 2
    clear TE
    go_wp2
    refine bodyPost_ret (v := .agg #[.slice none 0 0, .slice none 0 0, .int .i64 1]) (by simp [results, Try.results23, go_sem, j0, j1, j2]) rfl ?_
    rw [HR.out]
    exact gives_ill w _ 1 (((bz.setCell (p := ⟨w.heap.size + 1, 0, none⟩) (by show w.heap.size ≤ w.heap.size + 1; omega) _).setCell (p := ⟨w.heap.size + 1, 1, none⟩) (by show w.heap.size ≤ w.heap.size + 1; omega) _).setCell (p := ⟨w.heap.size + 1, 2, none⟩) (by show w.heap.size ≤ w.heap.size + 1; omega) _)
  have m0 := T4.out.cell 0 rfl
  have m1 := T4.out.cell 1 rfl
  go_wp2_with fail
  refine (CV.out w4 b4).mono ?_
  rintro e w5 ⟨q0, q1, hb⟩
  have b5 := b4.trans (hb.mono b4.size); have R5 := Lib.hid (R4.out.below hb)
  have hs5 := hb.size
  clear hb m0 m1
  cases n4
  · obtain rfl := q0 rfl
    clear q0 q1
    have HR := Lib.hid (HV3'.out (by rfl) (by rfl))
    go_wp2_with fail
    refine calls_by (fun W => Below w.heap.size w W ∧ Blk W (w.heap.size + 1) [.slice none 0 0, .slice none 0 0, .int .i64 0]) ⟨more' b5 _, R5.out.alloc _⟩ ?_
    rintro W6 ⟨b6, r6⟩
    have R6 := Lib.hid r6
    refine (CI.out 11 _).mono ?_
    rintro e wz ⟨rfl, hb⟩
    have bz := b6.trans (hb.mono b6.size); have RZ := Lib.hid (R6.out.below hb)
    clear hb
    have TE := ((RZ.out.set 0 (.slice none 0 0)).set 1 (.slice none 0 0)).set 2 (.int .i64 11)
    have j0 := TE.cell 0 rfl
    have j1 := TE.cell 1 rfl
    have j2 := TE.cell 2 rfl
    have x0 := RZ.out.cell 0 rfl
    have x1 := RZ.out.cell 1 rfl
    have x2 := RZ.out.cell 2 rfl
    have f0 := RZ.out.soft 0
    have f1 := RZ.out.soft 1
    have f2 := RZ.out.soft 2
    clear TE
    go_wp2
    refine bodyPost_ret (v := .agg #[.slice none 0 0, .slice none 0 0, .int .i64 11]) (by simp [results, Try.results23, go_sem, j0, j1, j2]) rfl ?_
    rw [HR.out]
    exact gives_ill w _ 11 (((bz.setCell (p := ⟨w.heap.size + 1, 0, none⟩) (by show w.heap.size ≤ w.heap.size + 1; omega) _).setCell (p := ⟨w.heap.size + 1, 1, none⟩) (by show w.heap.size ≤ w.heap.size + 1; omega) _).setCell (p := ⟨w.heap.size + 1, 2, none⟩) (by show w.heap.size ≤ w.heap.size + 1; omega) _)
  obtain ⟨u0, u1, S, T, rfl, p0, p1, hS, hT, hST⟩ := q1 rfl
  clear q0 q1
  have HR := Lib.hid (HV4'.out (by rfl) (by rfl))
  clear HV2' HV3' HV4' CV CE CN CL
  have P0 := Lib.hid p0; have P1 := Lib.hid p1
  obtain ⟨y0, z0, rfl⟩ := p0.at.sl
  obtain ⟨y1, z1, rfl⟩ := p1.at.sl
  clear p0 p1
  have hn5 : w.heap.size + 1 < w4.heap.size := R4.out.lt
  have nS : ¬ S (w.heap.size + 1) := fun h => by have := (hS _ h).1; omega
  have nT : ¬ T (w.heap.size + 1) := fun h => by have := (hT _ h).1; omega
  have R6 := Lib.hid (R5.out.alloc (.cells #[.slice y0 dn.length z0, .slice y1 rd.length z1] 42))
  have x0 := R6.out.cell 0 rfl
  have x1 := R6.out.cell 1 rfl
  have x2 := R6.out.cell 2 rfl
  have f0 := R6.out.soft 0
  have f1 := R6.out.soft 1
  have f2 := R6.out.soft 2
  have TE := ((R6.out.set 0 (.slice y0 dn.length z0)).set 1 (.slice y1 rd.length z1)).set 2 (.int .i64 0)
  have j0 := TE.cell 0 rfl
  have j1 := TE.cell 1 rfl
  have j2 := TE.cell 2 rfl
  clear TE
  have B6 : Below w.heap.size w (w5.alloc (.cells #[.slice y0 dn.length z0, .slice y1 rd.length z1] 42)) := more' b5 _
  have BA : Below w5.heap.size w5 (w5.alloc (.cells #[.slice y0 dn.length z0, .slice y1 rd.length z1] 42)) := more' (Below.refl _ _) _
  have Q0 := Lib.hid (P0.out.frame (Same.of_below' BA)); have Q1 := Lib.hid (P1.out.frame (Same.of_below' BA))
  have hsz : (w5.alloc (.cells #[.slice y0 dn.length z0, .slice y1 rd.length z1] 42)).heap.size = w5.heap.size + 1 := World.size_alloc _ _
  go_wp2
  refine bodyPost_ret (v := .agg #[.slice y0 dn.length z0, .slice y1 rd.length z1, .int .i64 0]) (by simp [results, Try.results23, go_sem, j0, j1, j2]) rfl ?_
  rw [HR.out]
  refine ⟨_, _, rfl, entryOut_pack dn rd 0 _ _ S T ⟨?_, ?_, ?_, ?_, fun k h1 h2 => hST k h1 h2, trivial⟩, ?_⟩
  · exact ((Q0.out.frame (Same.set _ (g := w.heap.size + 1) 0 _ nS)).frame (Same.set _ (g := w.heap.size + 1) 1 _ nS)).frame (Same.set _ (g := w.heap.size + 1) 2 _ nS)
  · exact fun k z => ⟨by have := (hS k z).1; omega, by have := (hS k z).2; show _ < (World.heap _).size; simp only [setCell_size]; omega⟩
  · exact ((Q1.out.frame (Same.set _ (g := w.heap.size + 1) 0 _ nT)).frame (Same.set _ (g := w.heap.size + 1) 1 _ nT)).frame (Same.set _ (g := w.heap.size + 1) 2 _ nT)
  · exact fun k z => ⟨by have := (hT k z).1; omega, by have := (hT k z).2; show _ < (World.heap _).size; simp only [setCell_size]; omega⟩
  · exact ((B6.setCell (p := ⟨w.heap.size + 1, 0, none⟩) (by show w.heap.size ≤ w.heap.size + 1; omega) _).setCell (p := ⟨w.heap.size + 1, 1, none⟩) (by show w.heap.size ≤ w.heap.size + 1; omega) _).setCell (p := ⟨w.heap.size + 1, 2, none⟩) (by show w.heap.size ≤ w.heap.size + 1; omega) _
end Go.Proofs.Ytglgkocjdockdaa
/- Visible: what the specification returns. -/
namespace Go.Proofs.Ytglgkocjdockdaa
open Go.RowKit
attribute [local go_sem ↓] Go.wp_at_zero Go.wp_at_succ

noncomputable def grantE (l : List RuleT) (who : ByteArray) (e : EntryT) : Bool := grantB l who e.1 ⟨#[]⟩ 1
noncomputable def visG (l : List RuleT) (who : ByteArray) (es : List EntryT) : List EntryT := (es.filter (grantE l who)).map (fun e => (e.1, readR l who e.1 e.2))
noncomputable def rightE (e : EntryT) : Bool := rightB e.1 e.2
theorem visG_snoc (l : List RuleT) (who : ByteArray) (es : List EntryT) (x : EntryT) : visG l who (es ++ [x]) = visG l who es ++ (if grantB l who x.1 ⟨#[]⟩ 1 then [(x.1, readR l who x.1 x.2)] else []) := by
  unfold visG
  rw [List.filter_append, List.map_append]
  cases h : grantE l who x
  · have h' : grantB l who x.1 ⟨#[]⟩ 1 = false := h
    simp [List.filter_cons, h, h']
  · have h' : grantB l who x.1 ⟨#[]⟩ 1 = true := h
    simp [List.filter_cons, h, h']
theorem vis_nil (l : List RuleT) (who : ByteArray) : visR l who [] = [] := by unfold visR visL; simp
theorem vis_of {l : List RuleT} {who : ByteArray} {es : List EntryT} {x : EntryT} (hx : x ∈ es) (hb : badV l who x = true) : visR l who es = [] := by
  unfold visR; exact if_pos (.inr (List.any_eq_true.2 ⟨x, hx, hb⟩))
theorem vis_bad (l : List RuleT) (who : ByteArray) (es : List EntryT) (h : (400 < l.length ∨ 8000 < who.size) ∨ 400 < es.length ∨ aclB l = false ∨ nmL who = false ∨ es.all rightE = false) : visR l who es = [] := by
  by_cases hs : 400 < l.length ∨ 8000 < who.size
  · rcases es with _ | ⟨x, es⟩
    · exact vis_nil l who
    · exact vis_of (x := x) (by simp) (by unfold badV codeV viewR; rw [if_pos hs]; simp)
  · have hb : ∀ x ∈ es, (aclB l && (rightB x.1 x.2 && nmL who)) = false → visR l who es = [] := fun x hx hb =>
      vis_of hx (by unfold badV codeV viewR; rw [if_neg hs, if_pos hb]; simp)
    rcases h with h | h | h | h | h
    · exact absurd h hs
    · unfold visR; exact if_pos (.inl h)
    · rcases es with _ | ⟨x, es⟩
      · exact vis_nil l who
      · exact hb x (by simp) (by rw [h]; rfl)
    · rcases es with _ | ⟨x, es⟩
      · exact vis_nil l who
      · exact hb x (by simp) (by rw [h]; simp)
    · obtain ⟨x, hx, hr⟩ := List.all_eq_false.1 h
      have hr' : rightB x.1 x.2 = false := by simpa [rightE] using hr
      exact hb x hx (by rw [hr']; simp)
theorem vis_good (l : List RuleT) (who : ByteArray) (es : List EntryT) (h1 : ¬ (400 < l.length ∨ 8000 < who.size)) (h2 : ¬ 400 < es.length) (h3 : aclB l = true) (h4 : nmL who = true) (h5 : es.all rightE = true) : visR l who es = visG l who es := by
  have hv : ∀ x ∈ es, viewR l who x.1 x.2 = if grantB l who x.1 ⟨#[]⟩ 1 = false then (([], []), 11) else ((x.1, readR l who x.1 x.2), 0) := fun x hx => by
    have hr : rightB x.1 x.2 = true := List.all_eq_true.1 h5 x hx
    unfold viewR
    rw [if_neg h1, if_neg (by rw [h3, h4, hr]; simp)]
  have hn : es.any (badV l who) = false := by
    rw [List.any_eq_false]
    intro x hx
    have := hv x hx
    unfold badV codeV
    rw [this]
    cases grantB l who x.1 ⟨#[]⟩ 1 <;> simp
  unfold visR
  rw [if_neg (by rw [hn]; simp; omega)]
  unfold visL visG
  have e1 : es.filter (fun e => decide (codeV l who e = 0)) = es.filter (grantE l who) := List.filter_congr (fun x hx => by
    unfold codeV grantE; rw [hv x hx]
    cases grantB l who x.1 ⟨#[]⟩ 1 <;> simp)
  rw [e1]
  refine List.map_congr_left (fun x hx => ?_)
  have hm := List.mem_filter.1 hx
  have hg : grantB l who x.1 ⟨#[]⟩ 1 = true := hm.2
  rw [hv x hm.1, if_neg (by rw [hg]; simp)]
theorem own_zeroS {α : Type} (e : Enc α) (S : Bs) (w : World) (a : Addr) : SlOwn e S w [] (.slice (some a) 0 0) := ⟨some a, 0, rfl, Nat.le_refl _, (fun h => by cases h), .inl rfl⟩
theorem Grow.zero {α : Type} {e : Enc α} {T : TypeId} {B : Nat} {w : World} {v : Value} (h : w.ownsRow B T e.n v 0 []) : Grow e T B w v [] [] := ⟨h, fun _ _ => False, fun _ h => by simp at h, fun _ _ h => by simp at h, fun _ h => by simp at h⟩
set_option maxRecDepth 100000 in
set_option maxHeartbeats 4000000 in
theorem l06Entries_any {S1 : Bs} (es : List EntryT) (ev : Value) (w : World) (he : SlAt entryE S1 w es ev) (hze : es.length + szL entryE es ≤ 1048576) :
    Calls Try.prog 92 #[ev] w fun e w' => e = .returned (.bool (es.all rightE)) ∧ Below w.heap.size w w' := by
  obtain ⟨o3, k3, rfl⟩ := he.sl
  have HA := Lib.hid he
  have HZ : Hid (∀ x ∈ es, entryE.sz x ≤ 1048576) := Lib.hid (fun x h => by have h1 := szL_mem entryE h; omega)
  have hl : es.length ≤ 1048576 := by omega
  clear he hze
  go_enter Try.func92, Try.ntmps92
  go_wp2
  go_loopw [3] (fun i wr => ∃ k : Nat, k ≤ es.length ∧ i = .int .i64 k ∧ (es.take k).all rightE = true ∧ Below w.heap.size w wr) (fun i _ => es.length - (intOf i).toNat)
  case atStart => exact ⟨0, Nat.zero_le _, rfl, rfl, Below.refl _ _⟩
  case round =>
    obtain ⟨k, hk, rfl, hgood, hbel⟩ := hrel
    have HGood := Lib.hid hgood; clear hgood
    by_cases hlt : k < es.length
    · obtain ⟨b, off, a0, a1, v0, v1, rfl, _, hb0, hx, ⟨hc0, hc1⟩, s0, s1, _⟩ := entry_row (HA.out.frame (Same.of_below' hbel)) hlt
      have HZ1 : Hid (entryE.sz (a0, a1) ≤ 1048576) := Lib.hid (by have := HZ.out _ (List.getElem_mem hlt); rw [hx] at this; exact this)
      have HT : Hid ((es.take (k + 1)).all rightE = ((es.take k).all rightE && rightB a0 a1)) := Lib.hid (by rw [List.take_succ_eq_append_getElem hlt, hx, List.all_append]; simp [rightE])
      have HN : Hid (rightB a0 a1 = false → es.all rightE = false) := Lib.hid (fun h => List.all_eq_false.2 ⟨(a0, a1), by rw [← hx]; exact List.getElem_mem hlt, by show ¬ rightB a0 a1 = true; rw [h]; simp⟩)
      obtain ⟨o4, k4, rfl⟩ := s0.sl
      obtain ⟨o5, k5, rfl⟩ := s1.sl
      have HE : entryE.sz (a0, a1) = (a0.length + szL rdnE a0) + (a1.length + szL attrE a1) := rfl
      have hze := HZ1.out
      rw [HE] at hze
      have CE : Hid (∀ W : World, Below wr.heap.size wr W → Calls Try.prog 80 #[.agg #[.slice o4 a0.length k4, .slice o5 a1.length k5]] W fun e w' => e = .returned (.bool (rightB a0 a1)) ∧ Below W.heap.size W w') := Lib.hid (fun W b => SpecEntryRight_any o4 o5 a0 a1 k4 k5 W ((dn_of s0).below b) ((attrs_of s1).below b) (fits_dn (by omega)) (fits_attrs (by omega)))
      clear s0 s1 hx HE hze
      generalize rightB a0 a1 = rr at *
      have g1 : (0 : Int) ≤ (k : Int) := by omega
      have g2 : (k : Int) < (es.length : Int) := by omega
      go_wp2_with fail
      refine (CE.out wr (Below.refl _ _)).mono ?_
      rintro e w2 ⟨rfl, hb⟩
      have b2 := hbel.trans (hb.mono hbel.size)
      clear hc0 hc1 hb
      cases rr
      · have HR := Lib.hid (HN.out rfl)
        go_wp2
        go_ret
        rw [HR.out]
        exact ⟨rfl, b2⟩
      · have HT2 : Hid ((es.take (k + 1)).all rightE = true) := Lib.hid (by rw [HT.out, HGood.out]; rfl)
        go_wp2
        go_roundw
        case rel => exact ⟨k + 1, by omega, by go_num, HT2.out, b2⟩
        case measure => simp [intOf]; omega
    · have e : es.take k = es := List.take_of_length_le (by omega)
      have HO : Hid (es.all rightE = true) := Lib.hid (by have := HGood.out; rw [e] at this; exact this)
      clear e
      go_wp2
      go_ret
      rw [HO.out]
      exact ⟨rfl, hbel⟩
set_option maxRecDepth 100000 in
set_option maxHeartbeats 4000000 in
theorem SpecVisible_any {S S1 : Bs} (v : Value) (d : List RuleT) (who : ByteArray) (es : List EntryT) (ev : Value) (w : World) (hL : SlAt ruleE S w d v) (he : SlAt entryE S1 w es ev)
    (hz : d.length + szL ruleE d ≤ 1048576) (hze : es.length + szL entryE es ≤ 1048576) (hw : who.size ≤ 1048576) :
    Calls Try.prog 33 #[v, .string who, ev] w fun e w' => (∃ u, e = .returned u ∧ SlOwn entryE (Fresh w w') w' (visR d who es) u) ∧ Below w.heap.size w w' := by
  have CL : Hid (∀ W : World, Below w.heap.size w W → Calls Try.prog 13 #[v] W fun e w' => e = .returned (.bool (aclB d)) ∧ Below W.heap.size W w') := Lib.hid (fun W b => SpecAclRight_any v d W (hL.frame (Same.of_below' b)) hz)
  have CN : Hid (∀ W : World, Calls Try.prog 48 #[.string who] W fun e w' => e = .returned (.bool (nmL who)) ∧ Below W.heap.size W w') := Lib.hid (fun W => (SpecNameRight_any who W (by unfold maxLen; omega)).mono fun e w' ⟨h1, h2⟩ => ⟨h1, h2 ▸ Below.refl _ _⟩)
  have CV : Hid (∀ (W : World) (S2 S3 : Bs) (dn : RdnL) (at_ : List AttrT) (dv av : Value), Below w.heap.size w W → SlAt rdnE S2 W dn dv → SlAt attrE S3 W at_ av → entryE.sz (dn, at_) ≤ 1048576 → Calls Try.prog 81 #[v, .string who, .agg #[dv, av]] W (GivesPair W (grantB d who dn ⟨#[]⟩ 1) dn (readR d who dn at_))) := Lib.hid (fun W S2 S3 dn at_ dv av b h1 h2 z => l06View_any v d who dn at_ dv av W (hL.frame (Same.of_below' b)) h1 h2 hz z)
  have CE : Hid (∀ W : World, Below w.heap.size w W → Calls Try.prog 92 #[ev] W fun e w' => e = .returned (.bool (es.all rightE)) ∧ Below W.heap.size W w') := Lib.hid (fun W b => l06Entries_any es ev W (he.frame (Same.of_below' b)) hze)
  obtain ⟨o1, k1, rfl⟩ := hL.sl
  obtain ⟨o3, k3, rfl⟩ := he.sl
  have HA := Lib.hid he
  have HZ : Hid (∀ x ∈ es, entryE.sz x ≤ 1048576) := Lib.hid (fun x h => by have h1 := szL_mem entryE h; omega)
  have hl : es.length ≤ 1048576 := by omega
  have hdl : d.length ≤ 1048576 := by omega
  have HB := Lib.hid (vis_bad d who es)
  have HG := Lib.hid (vis_good d who es)
  clear hL he hz hze
  generalize visR d who es = R at *
  generalize aclB d = n1 at *
  generalize nmL who = n2 at *
  generalize es.all rightE = n3 at *
  by_cases c1 : 400 < d.length
  · have HR := Lib.hid (HB.out (.inl (.inl c1)))
    have c1' : (400 : Int) < (d.length : Int) := by omega
    go_enter Try.func33, Try.ntmps33
    go_wp2
    go_ret
    rw [HR.out]
    exact ⟨⟨_, rfl, own_zeroS _ _ _ _⟩, more' (Below.refl _ _) _⟩
  have c1' : ¬ (400 : Int) < (d.length : Int) := by omega
  by_cases c2 : 8000 < who.size
  · have HR := Lib.hid (HB.out (.inl (.inr c2)))
    have c2' : (8000 : Int) < (who.size : Int) := by omega
    go_enter Try.func33, Try.ntmps33
    go_wp2
    go_ret
    rw [HR.out]
    exact ⟨⟨_, rfl, own_zeroS _ _ _ _⟩, more' (Below.refl _ _) _⟩
  have c2' : ¬ (8000 : Int) < (who.size : Int) := by omega
  by_cases c3 : 400 < es.length
  · have HR := Lib.hid (HB.out (.inr (.inl c3)))
    have c3' : (400 : Int) < (es.length : Int) := by omega
    go_enter Try.func33, Try.ntmps33
    go_wp2
    go_ret
    rw [HR.out]
    exact ⟨⟨_, rfl, own_zeroS _ _ _ _⟩, more' (Below.refl _ _) _⟩
  have c3' : ¬ (400 : Int) < (es.length : Int) := by omega
  have HG' := Lib.hid (HG.out (by omega) c3); clear HG
  go_enter Try.func33, Try.ntmps33
  go_wp2_with fail
  refine calls_by (fun W => Below w.heap.size w W ∧ Grow entryE 42 w.heap.size W (.slice (some ⟨w.heap.size, 0, none⟩) 0 0) [] []) ⟨more' (Below.refl _ _) _, Grow.zero ⟨rfl, .inr ⟨w.heap.size, 0, #[], rfl, Nat.le_refl _, heap_alloc_new w _, by simp, by unfold maxLen; simp, rfl, rfl⟩⟩⟩ ?_
  rintro W1 ⟨b1, t1⟩
  refine (CL.out W1 b1).mono ?_
  rintro e w2 ⟨rfl, hb⟩
  have b2 := b1.trans (hb.mono b1.size); have T2 := Lib.hid (t1.below hb)
  clear hb t1
  cases n1
  · have HR := Lib.hid (HB.out (.inr (.inr (.inl rfl))))
    go_wp2
    go_ret
    rw [HR.out]
    exact ⟨⟨_, rfl, own_zeroS _ _ _ _⟩, b2⟩
  go_wp2_with fail
  refine (CN.out w2).mono ?_
  rintro e w3 ⟨rfl, hb⟩
  have b3 := b2.trans (hb.mono b2.size); have T3 := Lib.hid (T2.out.below hb)
  clear hb
  cases n2
  · have HR := Lib.hid (HB.out (.inr (.inr (.inr (.inl rfl)))))
    go_wp2
    go_ret
    rw [HR.out]
    exact ⟨⟨_, rfl, own_zeroS _ _ _ _⟩, b3⟩
  go_wp2_with fail
  refine (CE.out w3 b3).mono ?_
  rintro e w4 ⟨rfl, hb⟩
  have b4 := b3.trans (hb.mono b3.size); have T4 := Lib.hid (T3.out.below hb)
  clear hb
  cases n3
  · have HR := Lib.hid (HB.out (.inr (.inr (.inr (.inr rfl)))))
    go_wp2
    go_ret
    rw [HR.out]
    exact ⟨⟨_, rfl, own_zeroS _ _ _ _⟩, b4⟩
  have HR := Lib.hid (HG'.out (by trivial) (by trivial) (by trivial))
  clear HB HG' CE CN CL T2 T3 b2 b3 b1
  go_wp2
  go_loopw [7, 8] (fun v i wr => ∃ k : Nat, k ≤ es.length ∧ i = .int .i64 k ∧ (∃ xs, Grow entryE 42 w.heap.size wr v (visG d who (es.take k)) xs) ∧ Below w.heap.size w wr) (fun _ i _ => es.length - (intOf i).toNat)
  case atStart => exact ⟨0, Nat.zero_le _, rfl, ⟨[], T4.out⟩, b4⟩
  case round =>
    obtain ⟨k, hk, rfl, ⟨xs, hg⟩, hbel⟩ := hrel
    have HG := Lib.hid hg; clear hg
    obtain ⟨p7, n7, q7, hv7⟩ := own_slice3' HG.out.row
    subst hv7
    by_cases hlt : k < es.length
    · obtain ⟨b, off, a0, a1, v0, v1, rfl, _, hb0, hx, ⟨hc0, hc1⟩, s0, s1, _⟩ := entry_row (HA.out.frame (Same.of_below' hbel)) hlt
      have HZ1 : Hid (entryE.sz (a0, a1) ≤ 1048576) := Lib.hid (by have := HZ.out _ (List.getElem_mem hlt); rw [hx] at this; exact this)
      have HV : Hid (visG d who (es.take (k + 1)) = visG d who (es.take k) ++ (if grantB d who a0 ⟨#[]⟩ 1 then [(a0, readR d who a0 a1)] else [])) := Lib.hid (by rw [List.take_succ_eq_append_getElem hlt, hx, visG_snoc])
      have HS0 := Lib.hid s0; have HS1 := Lib.hid s1
      obtain ⟨o4, k4, rfl⟩ := s0.sl
      obtain ⟨o5, k5, rfl⟩ := s1.sl
      clear s0 s1 hx
      have CVk : Hid (Calls Try.prog 81 #[.slice o1 d.length k1, .string who, .agg #[.slice o4 a0.length k4, .slice o5 a1.length k5]] wr (GivesPair wr (grantB d who a0 ⟨#[]⟩ 1) a0 (readR d who a0 a1))) := Lib.hid (CV.out wr _ _ a0 a1 _ _ hbel HS0.out HS1.out HZ1.out)
      generalize grantB d who a0 ⟨#[]⟩ 1 = gr at *
      generalize readR d who a0 a1 = rd at *
      have hrl : Hid ((visG d who (es.take k)).length ≤ 100000000) := Lib.hid (by
        have h1 := List.length_filter_le (grantE d who) (es.take k)
        have h2 : (es.take k).length ≤ k := by rw [List.length_take]; omega
        unfold visG
        rw [List.length_map]
        omega)
      generalize visG d who (es.take k) = pre at *
      have g1 : (0 : Int) ≤ (k : Int) := by omega
      have g2 : (k : Int) < (es.length : Int) := by omega
      go_wp2_with fail
      refine CVk.out.mono ?_
      clear hc0 hc1
      rintro e w2 ⟨q0, q1, hb⟩
      have D2 := Lib.hid hb
      have hbs2 := hb.size
      have hb1 : w.heap.size ≤ wr.heap.size := hbel.size
      have b2 : Below w.heap.size w w2 := hbel.trans (hb.mono hbel.size)
      clear hb
      cases gr
      · obtain rfl := q0 rfl
        clear q0 q1
        have HT2 : Hid (visG d who (es.take (k + 1)) = pre) := Lib.hid (by rw [HV.out]; simp)
        have G3 := Lib.hid ((HG.out.below D2.out).below (more' (Below.refl _ _) (.cells #[.slice none 0 0, .slice none 0 0] 42)))
        go_wp2
        go_roundw
        case rel => exact ⟨k + 1, by omega, by go_num, ⟨xs, by rw [HT2.out]; exact G3.out⟩, more' b2 _⟩
        case measure => simp [intOf]; omega
      obtain ⟨u0, u1, S2, S3, rfl, p0, p1, hS, hT, hST⟩ := q1 rfl
      clear q0 q1
      have QE : Hid (entryE.Own (Fresh wr w2) w2 (a0, rd) [u0, u1]) := Lib.hid (entry_pack a0 rd _ _ S2 S3 ⟨p0, hS, p1, hT, hST, trivial⟩)
      obtain ⟨p8, c8, rfl⟩ := p0.at.sl
      obtain ⟨p9, c9, rfl⟩ := p1.at.sl
      clear p0 p1 hS hT hST
      have HT2 : Hid (visG d who (es.take (k + 1)) = pre ++ [(a0, rd)]) := Lib.hid (by rw [HV.out]; simp)
      have R3 := Lib.hid ((HG.out.below D2.out).below (more' (Below.refl _ _) (.cells #[.slice p8 a0.length c8, .slice p9 rd.length c9] 42))).row
      have hB3 : w.heap.size ≤ (w2.alloc (.cells #[.slice p8 a0.length c8, .slice p9 rd.length c9] 42)).heap.size := by simp; omega
      go_wp2_with (first
        | (at_builtin; refine append_entry w.heap.size rfl _ _ rfl _ _ xs rfl R3.out p8 p9 a0.length c8 rd.length c9 (w2.heap.size + 1) (World.size_alloc _ _).symm rfl hrl.out hB3 ?_; intro g cap w5 h1 h2 h3)
        | (fail "none"))
      have HG5 : Hid (Grow entryE 42 w.heap.size w5 (.slice (some ⟨g, 0, none⟩) (pre.length + 1) cap) (pre ++ [(a0, rd)]) (xs ++ [.slice p8 a0.length c8, .slice p9 rd.length c9])) := Lib.hid (Grow.step HG.out (by omega) D2.out QE.out (more' (more' (Below.refl _ _) _) _) h1 h2 (fun g' hg' => by
        have e : g = g' := by simpa [Value.ownBlock] using hg'
        subst e
        rcases h3 with h | h
        · exact .inl h
        · exact .inr (by rw [World.size_alloc] at h; omega)))
      have B5 : Below w.heap.size w w5 := (more' (more' b2 _) _).grown h2 (by simp only [World.size_alloc]; omega) (fun r hr => (R3.out.lt r hr).1)
      clear h1 h2 h3 R3
      go_wp2
      go_roundw
      case rel => exact ⟨k + 1, by omega, by go_num, ⟨_, by rw [HT2.out]; exact HG5.out⟩, B5⟩
      case measure => simp [intOf]; omega
    · have e : es.take k = es := List.take_of_length_le (by omega)
      have HO : Hid (SlOwn entryE (Fresh w wr) wr R (.slice p7 n7 q7)) := Lib.hid (by
        have h1 := HG.out.own
        rw [e] at h1
        rw [HR.out]
        exact h1)
      clear e
      go_wp2
      go_ret
      exact ⟨⟨_, rfl, HO.out⟩, hbel⟩
end Go.Proofs.Ytglgkocjdockdaa
/- ViewOf: the size of its answer. -/
namespace Go.Proofs.Ytglgkocjdockdaa
open Go.RowKit

theorem szL_filter {α : Type} (e : Enc α) (p : α → Bool) (l : List α) : szL e (l.filter p) ≤ szL e l := by
  induction l with
  | nil => exact Nat.le_refl _
  | cons x l ih =>
    rw [List.filter_cons]
    cases p x
    · rw [szL_cons]; simp only [Bool.false_eq_true, if_false]; omega
    · simp only [if_true]; rw [szL_cons, szL_cons]; omega
theorem viewR_sz (l : List RuleT) (who : ByteArray) (dn : RdnL) (at_ : List AttrT) : entryOutE.sz (viewR l who dn at_) ≤ entryE.sz (dn, at_) := by
  have h0 : ∀ c : Int, entryOutE.sz (([], []), c) ≤ entryE.sz (dn, at_) := fun c => by
    show (0 + szL rdnE []) + (0 + szL attrE []) + 0 ≤ _
    have e1 : szL rdnE [] = 0 := rfl
    have e2 : szL attrE [] = 0 := rfl
    omega
  unfold viewR
  split
  · exact h0 _
  · split
    · exact h0 _
    · split
      · exact h0 _
      · show (dn.length + szL rdnE dn) + ((readR l who dn at_).length + szL attrE (readR l who dn at_)) + 0 ≤ (dn.length + szL rdnE dn) + (at_.length + szL attrE at_)
        have h1 : (readR l who dn at_).length ≤ at_.length := List.length_filter_le _ _
        have h2 : szL attrE (readR l who dn at_) ≤ szL attrE at_ := szL_filter _ _ _
        omega
end Go.Proofs.Ytglgkocjdockdaa
/- Visible: the size of its answer. -/
namespace Go.Proofs.Ytglgkocjdockdaa
open Go.RowKit

theorem szL_map_le {α β : Type} (e : Enc α) (e' : Enc β) (f : α → β) (l : List α) (h : ∀ x, e'.sz (f x) ≤ e.sz x) : szL e' (l.map f) ≤ szL e l := by
  induction l with
  | nil => exact Nat.le_refl _
  | cons x l ih => rw [List.map_cons, szL_cons, szL_cons]; have := h x; omega
theorem visR_sz (l : List RuleT) (who : ByteArray) (es : List EntryT) : (visR l who es).length + szL entryE (visR l who es) ≤ es.length + szL entryE es := by
  unfold visR
  split
  · show 0 + 0 ≤ _; omega
  · unfold visL
    have h1 : szL entryE ((es.filter (fun e => decide (codeV l who e = 0))).map (fun e => (viewR l who e.1 e.2).1)) ≤ szL entryE (es.filter (fun e => decide (codeV l who e = 0))) := szL_map_le entryE entryE _ _ (fun x => by
      have h := viewR_sz l who x.1 x.2
      have e1 : entryOutE.sz (viewR l who x.1 x.2) = entryE.sz (viewR l who x.1 x.2).1 + 0 := rfl
      have e2 : entryE.sz (x.1, x.2) = entryE.sz x := rfl
      omega)
    have h2 := szL_filter entryE (fun e => decide (codeV l who e = 0)) es
    have h3 := List.length_filter_le (fun e => decide (codeV l who e = 0)) es
    rw [List.length_map]
    omega
end Go.Proofs.Ytglgkocjdockdaa
/- The helpers of the laws: sizes. -/
namespace Go.Proofs.Ytglgkocjdockdaa
open Go.RowKit
attribute [local go_sem ↓] Go.wp_at_zero Go.wp_at_succ

set_option maxRecDepth 100000 in
set_option maxHeartbeats 4000000 in
theorem szRdn_at  (a0 : ByteArray) (a1 : ByteArray)  (left : Int) (w : World)  (hl : rdnE.long (a0, a1)) (g0 : 0 ≤ left) (g1 : left ≤ 1048576) :
    Calls Try.prog 71 #[.agg #[.string a0, .string a1], .int .i64 left] w fun e w' => e = .returned (.int .i64 (leftR (rdnE.sz (a0, a1)) left)) ∧ Below w.heap.size w w' := by
  have HE : Hid (rdnE.sz (a0, a1) = a0.size + (a1.size)) := Lib.hid rfl
  have z0 : a0.size ≤ 9223372036854775807 := by have := hl.1; simp only [strE, maxLen] at this; omega
  have z1 : a1.size ≤ 9223372036854775807 := by have := hl.2; simp only [strE, maxLen] at this; omega
  clear hl
  generalize rdnE.sz (a0, a1) = z at *
  by_cases g2 : (a0.size : Int) ≤ left
  · have c0 : ¬ left - (a0.size : Int) < 0 := by omega
    by_cases g3 : (a1.size : Int) ≤ left - (a0.size : Int)
    · have c1 : ¬ left - (a0.size : Int) - (a1.size : Int) < 0 := by omega
      have HR : Hid (leftR z left = left - (a0.size : Int) - (a1.size : Int)) := Lib.hid (by rw [leftR_pos (by rw [HE.out]; omega), HE.out]; omega)
      go_enter Try.func71, Try.ntmps71
      go_wp2
      go_ret
      exact ⟨ret_int (by rw [HR.out]), (Below.refl _ _).alloc (Nat.le_refl _) _⟩
    · have c1 : left - (a0.size : Int) - (a1.size : Int) < 0 := by omega
      have HR : Hid (leftR z left = -1) := Lib.hid (leftR_neg (by rw [HE.out]; omega))
      go_enter Try.func71, Try.ntmps71
      go_wp2
      go_ret
      exact ⟨ret_int (by rw [HR.out]), (Below.refl _ _).alloc (Nat.le_refl _) _⟩
  · have c0 : left - (a0.size : Int) < 0 := by omega
    have HR : Hid (leftR z left = -1) := Lib.hid (leftR_neg (by rw [HE.out]; omega))
    go_enter Try.func71, Try.ntmps71
    go_wp2
    go_ret
    exact ⟨ret_int (by rw [HR.out]), (Below.refl _ _).alloc (Nat.le_refl _) _⟩
set_option maxRecDepth 100000 in
set_option maxHeartbeats 4000000 in
theorem szRdnS_at {S : Bs} (v : Value) (d : List RdnT) (left : Int) (w : World) (hd : SlAt rdnE S w d v) (hf : (slE rdnE).long d) (h0 : 0 ≤ left) (h1 : left ≤ 1048576) :
    Calls Try.prog 17 #[v, .int .i64 left] w fun e w' => e = .returned (.int .i64 (leftR (d.length + szL rdnE d) left)) ∧ Below w.heap.size w w' := by
  obtain ⟨ao, cap, rfl⟩ := hd.sl
  have hl : d.length ≤ 9223372036854775807 := hf.1
  have HD := Lib.hid hd; have HF := Lib.hid hf; clear hd hf
  by_cases g : (d.length : Int) ≤ left
  · have c1 : ¬ left - (d.length : Int) < 0 := by omega
    go_enter Try.func17, Try.ntmps17
    go_wp2
    go_loopw [1, 5] (fun t i wr => ∃ k : Nat, k ≤ d.length ∧ i = .int .i64 k ∧ ((d.length + szL rdnE (d.take k) : Nat) : Int) ≤ left ∧ t = .int .i64 (left - (d.length + szL rdnE (d.take k) : Nat)) ∧ Below w.heap.size w wr) (fun _ i _ => d.length - (intOf i).toNat)
    case atStart => exact ⟨0, Nat.zero_le _, rfl, by simp [szL]; omega, by simp [szL], Below.refl _ _⟩
    case round =>
      clear c1
      obtain ⟨k, hk, rfl, hle, rfl, hbel⟩ := hrel
      have hsz := hbel.size
      by_cases hlt : k < d.length
      · obtain ⟨b, off, a0, a1, rfl, _, hb0, hx, ⟨hc0, hc1⟩, _⟩ := rdn_row (HD.out.frame (Same.of_below' hbel)) hlt
        have HZ : Hid (rdnE.long (a0, a1)) := Lib.hid (by have := HF.out.2 _ (List.getElem_mem hlt); rw [hx] at this; exact this)
        have HT : Hid (szL rdnE (d.take (k + 1)) = szL rdnE (d.take k) + rdnE.sz (a0, a1)) := Lib.hid (by rw [szL_take rdnE d k hlt, hx])
        have HTl := Lib.hid (szL_le rdnE d (k + 1))
        clear hx
        generalize hq : d.length + szL rdnE (d.take k) = q at *
        have Hq := Lib.hid hq; clear hq
        have HC := Lib.hid (szRdn_at a0 a1 (left - (q : Int)) wr  HZ.out (by omega) (by omega))
        generalize rdnE.sz (a0, a1) = r at *
        go_wp2_with fail
        refine HC.out.mono ?_
        rintro e w2 ⟨rfl, hb2⟩
        have B2 := Lib.hid (hbel.trans (hb2.mono hsz)); clear hb2
        by_cases hfit : (r : Int) ≤ left - (q : Int)
        · rw [leftR_pos hfit]
          have c2 : ¬ left - (q : Int) - (r : Int) < 0 := by omega
          go_wp2
          go_roundw
          case rel =>
            have e := HT.out
            have e3 := Hq.out
            exact ⟨k + 1, by omega, by go_num, by omega, by rw [e]; congr 1; omega, B2.out⟩
          case measure => simp [intOf]; omega
        · rw [leftR_neg hfit]
          have HR : Hid (leftR (d.length + szL rdnE d) left = -1) := Lib.hid (leftR_neg (by
            have := HT.out; have := HTl.out; have := Hq.out; omega))
          go_wp2
          go_ret
          exact ⟨ret_int (by rw [HR.out]), B2.out⟩
      · have HR : Hid (leftR (d.length + szL rdnE d) left = left - (d.length + szL rdnE (d.take k) : Nat)) := Lib.hid (by
          rw [List.take_of_length_le (by omega)] at hle ⊢
          exact leftR_pos hle)
        go_wp2
        go_ret
        exact ⟨ret_int (by rw [HR.out]), hbel⟩
  · have HR : Hid (leftR (d.length + szL rdnE d) left = -1) := Lib.hid (leftR_neg (by omega))
    have c1 : left - (d.length : Int) < 0 := by omega
    go_enter Try.func17, Try.ntmps17
    go_wp2
    go_ret
    exact ⟨ret_int (by rw [HR.out]), Below.refl _ _⟩
end Go.Proofs.Ytglgkocjdockdaa
/- The helpers of the laws: sizes. -/
namespace Go.Proofs.Ytglgkocjdockdaa
open Go.RowKit
attribute [local go_sem ↓] Go.wp_at_zero Go.wp_at_succ

set_option maxRecDepth 100000 in
set_option maxHeartbeats 4000000 in
theorem szStringS_at {S : Bs} (v : Value) (d : List ByteArray) (left : Int) (w : World) (hd : SlAt strE S w d v) (hf : (slE strE).long d) (h0 : 0 ≤ left) (h1 : left ≤ 1048576) :
    Calls Try.prog 39 #[v, .int .i64 left] w fun e w' => e = .returned (.int .i64 (leftR (d.length + szL strE d) left)) ∧ Below w.heap.size w w' := by
  obtain ⟨ao, cap, rfl⟩ := hd.sl
  have hl : d.length ≤ 9223372036854775807 := hf.1
  have HD := Lib.hid hd; have HF := Lib.hid hf; clear hd hf
  by_cases g : (d.length : Int) ≤ left
  · have c1 : ¬ left - (d.length : Int) < 0 := by omega
    go_enter Try.func39, Try.ntmps39
    go_wp2
    go_loopw [1, 5] (fun t i wr => ∃ k : Nat, k ≤ d.length ∧ i = .int .i64 k ∧ ((d.length + szL strE (d.take k) : Nat) : Int) ≤ left ∧ t = .int .i64 (left - (d.length + szL strE (d.take k) : Nat)) ∧ Below w.heap.size w wr) (fun _ i _ => d.length - (intOf i).toNat)
    case atStart => exact ⟨0, Nat.zero_le _, rfl, by simp [szL]; omega, by simp [szL], Below.refl _ _⟩
    case round =>
      clear c1
      obtain ⟨k, hk, rfl, hle, rfl, hbel⟩ := hrel
      have hsz := hbel.size
      by_cases hlt : k < d.length
      · obtain ⟨b, off, A, rfl, _, hb0, hx, hc1⟩ := str_row (HD.out.frame (Same.of_below' hbel)) hlt
        have hz : A.size ≤ maxLen := by have := HF.out.2 _ (List.getElem_mem hlt); rw [hx] at this; exact this
        unfold maxLen at hz
        have HT : Hid (szL strE (d.take (k + 1)) = szL strE (d.take k) + A.size) := Lib.hid (by rw [szL_take strE d k hlt, hx]; rfl)
        have HTl := Lib.hid (szL_le strE d (k + 1))
        clear hx
        generalize hq : d.length + szL strE (d.take k) = q at *
        have Hq := Lib.hid hq; clear hq
        by_cases hfit : ((A.size : Nat) : Int) ≤ left - (q : Int)
        · have c2 : ¬ left - (q : Int) - (A.size : Int) < 0 := by omega
          go_wp2
          go_roundw
          case rel =>
            have e := HT.out
            have e3 := Hq.out
            exact ⟨k + 1, by omega, by go_num, by omega, by rw [e]; congr 1; omega, hbel⟩
          case measure => simp [intOf]; omega
        · have c2 : left - (q : Int) - (A.size : Int) < 0 := by omega
          have HR : Hid (leftR (d.length + szL strE d) left = -1) := Lib.hid (leftR_neg (by
            have := HT.out; have := HTl.out; have := Hq.out; omega))
          go_wp2
          go_ret
          exact ⟨ret_int (by rw [HR.out]), hbel⟩
      · have HR : Hid (leftR (d.length + szL strE d) left = left - (d.length + szL strE (d.take k) : Nat)) := Lib.hid (by
          rw [List.take_of_length_le (by omega)] at hle ⊢
          exact leftR_pos hle)
        go_wp2
        go_ret
        exact ⟨ret_int (by rw [HR.out]), hbel⟩
  · have HR : Hid (leftR (d.length + szL strE d) left = -1) := Lib.hid (leftR_neg (by omega))
    have c1 : left - (d.length : Int) < 0 := by omega
    go_enter Try.func39, Try.ntmps39
    go_wp2
    go_ret
    exact ⟨ret_int (by rw [HR.out]), Below.refl _ _⟩
end Go.Proofs.Ytglgkocjdockdaa
/- The helpers of the laws: sizes. -/
namespace Go.Proofs.Ytglgkocjdockdaa
open Go.RowKit
attribute [local go_sem ↓] Go.wp_at_zero Go.wp_at_succ

set_option maxRecDepth 100000 in
set_option maxHeartbeats 4000000 in
theorem szRule_at {S : Bs} (a0 : ByteArray) (a1 : (List RdnT)) (a2 : (List ByteArray)) (a3 : Int) (a4 : Bool) (v1 v2 : Value) (left : Int) (w : World) (h1 : SlAt rdnE S w a1 v1) (h2 : SlAt strE S w a2 v2) (hl : ruleE.long (a0, a1, a2, a3, a4)) (g0 : 0 ≤ left) (g1 : left ≤ 1048576) :
    Calls Try.prog 66 #[.agg #[.string a0, v1, v2, .int .i64 a3, .bool a4], .int .i64 left] w fun e w' => e = .returned (.int .i64 (leftR (ruleE.sz (a0, a1, a2, a3, a4)) left)) ∧ Below w.heap.size w w' := by
  have HE : Hid (ruleE.sz (a0, a1, a2, a3, a4) = a0.size + ((a1.length + szL rdnE a1) + ((a2.length + szL strE a2) + (0 + (0))))) := Lib.hid rfl
  have z0 : a0.size ≤ 9223372036854775807 := by have := hl.1; simp only [strE, maxLen] at this; omega
  have C1 : Hid (∀ (l : Int) (W : World), Below w.heap.size w W → 0 ≤ l → l ≤ 1048576 → Calls Try.prog 17 #[v1, .int .i64 l] W fun e w' => e = .returned (.int .i64 (leftR (a1.length + szL rdnE a1) l)) ∧ Below W.heap.size W w') := Lib.hid (fun l W b p q => szRdnS_at v1 a1 l W (h1.frame (Same.of_below' b)) hl.2.1 p q)
  have C2 : Hid (∀ (l : Int) (W : World), Below w.heap.size w W → 0 ≤ l → l ≤ 1048576 → Calls Try.prog 39 #[v2, .int .i64 l] W fun e w' => e = .returned (.int .i64 (leftR (a2.length + szL strE a2) l)) ∧ Below W.heap.size W w') := Lib.hid (fun l W b p q => szStringS_at v2 a2 l W (h2.frame (Same.of_below' b)) hl.2.2.1 p q)
  obtain ⟨o1, k1, rfl⟩ := h1.sl
  obtain ⟨o2, k2, rfl⟩ := h2.sl
  clear h1 h2
  clear hl
  generalize ruleE.sz (a0, a1, a2, a3, a4) = z at *
  generalize (a1.length + szL rdnE a1) = r1 at *
  generalize (a2.length + szL strE a2) = r2 at *
  generalize a1.length = m1 at *
  generalize a2.length = m2 at *
  by_cases g2 : (a0.size : Int) ≤ left
  · have c0 : ¬ left - (a0.size : Int) < 0 := by omega
    go_enter Try.func66, Try.ntmps66
    go_wp2_with fail
    refine calls_by (fun W => Below w.heap.size w W ∧ Blk W w.heap.size [.string a0, .slice o1 m1 k1, .slice o2 m2 k2, .int .i64 a3, .bool a4]) ⟨more' (Below.refl _ _) _, Blk.new _ _ _⟩ ?_
    rintro w1 ⟨b1, t1⟩
    have T1 := Lib.hid t1; clear t1
    refine (C1.out _ w1 b1 (by omega) (by omega)).mono ?_
    rintro e w2 ⟨rfl, hb⟩
    have T2 := Lib.hid (T1.out.below hb); have b2 := b1.trans (hb.mono b1.size)
    clear hb b1 T1 C1
    by_cases g3 : (r1 : Int) ≤ left - (a0.size : Int)
    · rw [leftR_pos g3]
      have c1 : ¬ left - (a0.size : Int) - (r1 : Int) < 0 := by omega
      have q0 := T2.out.cell 0 rfl
      have q1 := T2.out.cell 1 rfl
      have q2 := T2.out.cell 2 rfl
      have q3 := T2.out.cell 3 rfl
      have q4 := T2.out.cell 4 rfl
      go_wp2_with fail
      refine (C2.out _ w2 b2 (by omega) (by omega)).mono ?_
      rintro e w3 ⟨rfl, hb⟩
      have T3 := Lib.hid (T2.out.below hb); have b3 := b2.trans (hb.mono b2.size)
      clear hb b2 T2 C2 q0 q1 q2 q3 q4
      by_cases g4 : (r2 : Int) ≤ left - (a0.size : Int) - (r1 : Int)
      · rw [leftR_pos g4]
        have c2 : ¬ left - (a0.size : Int) - (r1 : Int) - (r2 : Int) < 0 := by omega
        have q0 := T3.out.cell 0 rfl
        have q1 := T3.out.cell 1 rfl
        have q2 := T3.out.cell 2 rfl
        have q3 := T3.out.cell 3 rfl
        have q4 := T3.out.cell 4 rfl
        have HR : Hid (leftR z left = left - (a0.size : Int) - (r1 : Int) - (r2 : Int)) := Lib.hid (by rw [leftR_pos (by rw [HE.out]; omega), HE.out]; omega)
        go_wp2
        go_ret
        exact ⟨ret_int (by rw [HR.out]), b3⟩
      · rw [leftR_neg g4]
        have HR : Hid (leftR z left = -1) := Lib.hid (leftR_neg (by rw [HE.out]; omega))
        go_wp2
        go_ret
        exact ⟨ret_int (by rw [HR.out]), b3⟩
    · rw [leftR_neg g3]
      have HR : Hid (leftR z left = -1) := Lib.hid (leftR_neg (by rw [HE.out]; omega))
      go_wp2
      go_ret
      exact ⟨ret_int (by rw [HR.out]), b2⟩
  · have c0 : left - (a0.size : Int) < 0 := by omega
    have HR : Hid (leftR z left = -1) := Lib.hid (leftR_neg (by rw [HE.out]; omega))
    go_enter Try.func66, Try.ntmps66
    go_wp2
    go_ret
    exact ⟨ret_int (by rw [HR.out]), (Below.refl _ _).alloc (Nat.le_refl _) _⟩
set_option maxRecDepth 100000 in
set_option maxHeartbeats 4000000 in
theorem szRuleS_at {S : Bs} (v : Value) (d : List RuleT) (left : Int) (w : World) (hd : SlAt ruleE S w d v) (hf : (slE ruleE).long d) (h0 : 0 ≤ left) (h1 : left ≤ 1048576) :
    Calls Try.prog 12 #[v, .int .i64 left] w fun e w' => e = .returned (.int .i64 (leftR (d.length + szL ruleE d) left)) ∧ Below w.heap.size w w' := by
  obtain ⟨ao, cap, rfl⟩ := hd.sl
  have hl : d.length ≤ 9223372036854775807 := hf.1
  have HD := Lib.hid hd; have HF := Lib.hid hf; clear hd hf
  by_cases g : (d.length : Int) ≤ left
  · have c1 : ¬ left - (d.length : Int) < 0 := by omega
    go_enter Try.func12, Try.ntmps12
    go_wp2
    go_loopw [1, 5] (fun t i wr => ∃ k : Nat, k ≤ d.length ∧ i = .int .i64 k ∧ ((d.length + szL ruleE (d.take k) : Nat) : Int) ≤ left ∧ t = .int .i64 (left - (d.length + szL ruleE (d.take k) : Nat)) ∧ Below w.heap.size w wr) (fun _ i _ => d.length - (intOf i).toNat)
    case atStart => exact ⟨0, Nat.zero_le _, rfl, by simp [szL]; omega, by simp [szL], Below.refl _ _⟩
    case round =>
      clear c1
      obtain ⟨k, hk, rfl, hle, rfl, hbel⟩ := hrel
      have hsz := hbel.size
      by_cases hlt : k < d.length
      · obtain ⟨b, off, a0, a1, a2, a3, a4, v1, v2, rfl, _, hb0, hx, ⟨hc0, hc1, hc2, hc3, hc4⟩, s1, s2, _⟩ := rule_row (HD.out.frame (Same.of_below' hbel)) hlt
        have HV1 := Lib.hid s1; clear s1
        have HV2 := Lib.hid s2; clear s2
        have HZ : Hid (ruleE.long (a0, a1, a2, a3, a4)) := Lib.hid (by have := HF.out.2 _ (List.getElem_mem hlt); rw [hx] at this; exact this)
        have HT : Hid (szL ruleE (d.take (k + 1)) = szL ruleE (d.take k) + ruleE.sz (a0, a1, a2, a3, a4)) := Lib.hid (by rw [szL_take ruleE d k hlt, hx])
        have HTl := Lib.hid (szL_le ruleE d (k + 1))
        clear hx
        generalize hq : d.length + szL ruleE (d.take k) = q at *
        have Hq := Lib.hid hq; clear hq
        have HC := Lib.hid (szRule_at a0 a1 a2 a3 a4 v1 v2 (left - (q : Int)) wr HV1.out HV2.out HZ.out (by omega) (by omega))
        generalize ruleE.sz (a0, a1, a2, a3, a4) = r at *
        go_wp2_with fail
        refine HC.out.mono ?_
        rintro e w2 ⟨rfl, hb2⟩
        have B2 := Lib.hid (hbel.trans (hb2.mono hsz)); clear hb2
        by_cases hfit : (r : Int) ≤ left - (q : Int)
        · rw [leftR_pos hfit]
          have c2 : ¬ left - (q : Int) - (r : Int) < 0 := by omega
          go_wp2
          go_roundw
          case rel =>
            have e := HT.out
            have e3 := Hq.out
            exact ⟨k + 1, by omega, by go_num, by omega, by rw [e]; congr 1; omega, B2.out⟩
          case measure => simp [intOf]; omega
        · rw [leftR_neg hfit]
          have HR : Hid (leftR (d.length + szL ruleE d) left = -1) := Lib.hid (leftR_neg (by
            have := HT.out; have := HTl.out; have := Hq.out; omega))
          go_wp2
          go_ret
          exact ⟨ret_int (by rw [HR.out]), B2.out⟩
      · have HR : Hid (leftR (d.length + szL ruleE d) left = left - (d.length + szL ruleE (d.take k) : Nat)) := Lib.hid (by
          rw [List.take_of_length_le (by omega)] at hle ⊢
          exact leftR_pos hle)
        go_wp2
        go_ret
        exact ⟨ret_int (by rw [HR.out]), hbel⟩
  · have HR : Hid (leftR (d.length + szL ruleE d) left = -1) := Lib.hid (leftR_neg (by omega))
    have c1 : left - (d.length : Int) < 0 := by omega
    go_enter Try.func12, Try.ntmps12
    go_wp2
    go_ret
    exact ⟨ret_int (by rw [HR.out]), Below.refl _ _⟩
end Go.Proofs.Ytglgkocjdockdaa
/- The helpers of the laws: copies. -/
namespace Go.Proofs.Ytglgkocjdockdaa
open Go.RowKit
attribute [local go_sem ↓] Go.wp_at_zero Go.wp_at_succ

theorem Try.infoTRule : (Try.prog.info? 74).map (fun i => (i.zero, i.size, i.bytes)) = some (some (.agg #[.string ByteArray.empty, .slice none 0 0, .slice none 0 0, .int .i64 0, .bool false]), 5, 80) := by kernel_rfl
theorem mkRule (n : Nat) (hn : n ≤ 1048576) (W : World) : ∃ C : Array Value, C.size = n * 5 ∧
    (Instr.makeSlice 25 (.int .i64 (n : Int)) (.int .i64 (n : Int))).run Try.prog W = .ok (.slice (some ⟨W.heap.size, 0, none⟩) n n) (W.alloc (.cells C 74)) := by
  obtain ⟨i0, hi, hz0, hz1, hz2⟩ := info_parts Try.infoTRule
  have := run_make (P := Try.prog) W 25 74 i0 _ Try.underlying25 hi hz0 .i64 .i64 (n : Int) (n : Int) (by omega) (by omega) (by rw [hz2]; omega) (by omega)
  rw [hz1] at this
  refine ⟨madeCells (Value.cells (.agg #[.string ByteArray.empty, .slice none 0 0, .slice none 0 0, .int .i64 0, .bool false])) (n * 5), size_madeCells _ _, ?_⟩
  simpa using this
set_option maxRecDepth 100000 in
set_option maxHeartbeats 4000000 in
theorem toRule_at {S : Bs} (a0 : ByteArray) (a1 : (List RdnT)) (a2 : (List ByteArray)) (a3 : Int) (a4 : Bool) (v1 v2 : Value) (w : World) (h1 : SlAt rdnE S w a1 v1) (h2 : SlAt strE S w a2 v2) (hz : ruleE.sz (a0, a1, a2, a3, a4) ≤ 1048576) :
    Calls Try.prog 68 #[.agg #[.string a0, v1, v2, .int .i64 a3, .bool a4]] w fun e w' => ∃ u1 u2, e = .returned (.agg #[.string a0, u1, u2, .int .i64 a3, .bool a4]) ∧ ruleE.Own (Fresh w w') w' (a0, a1, a2, a3, a4) [.string a0, u1, u2, .int .i64 a3, .bool a4] ∧ Below w.heap.size w w' := by
  have HE : ruleE.sz (a0, a1, a2, a3, a4) = a0.size + ((a1.length + szL rdnE a1) + ((a2.length + szL strE a2) + (0 + (0)))) := rfl
  rw [HE] at hz
  have C1 : Hid (∀ W : World, Below w.heap.size w W → Calls Try.prog 19 #[v1] W fun e w' => ∃ u, e = .returned u ∧ SlOwn rdnE (Fresh W w') w' a1 u ∧ Below W.heap.size W w') := Lib.hid (fun W b => toRdnS_at v1 a1 W (h1.frame (Same.of_below' b)) (by omega))
  have C2 : Hid (∀ W : World, Below w.heap.size w W → Calls Try.prog 41 #[v2] W fun e w' => ∃ u, e = .returned u ∧ SlOwn strE (Fresh W w') w' a2 u ∧ Below W.heap.size W w') := Lib.hid (fun W b => toStringS_at v2 a2 W (h2.frame (Same.of_below' b)) (by omega))
  obtain ⟨o1, k1, rfl⟩ := h1.sl
  obtain ⟨o2, k2, rfl⟩ := h2.sl
  clear hz HE h1 h2
  go_enter Try.func68, Try.ntmps68
  go_wp2_with fail
  refine calls_by (fun W => Below w.heap.size w W ∧ Blk W w.heap.size [.string a0, .slice o1 a1.length k1, .slice o2 a2.length k2, .int .i64 a3, .bool a4] ∧ Blk W (w.heap.size + 1) [.string ⟨#[]⟩, .slice none 0 0, .slice none 0 0, .int .i64 0, .bool false] ∧ Blk W (w.heap.size + 1 + 1) [.string a0, .slice none 0 0, .slice none 0 0, .int .i64 0, .bool false]) ⟨more' (more' (more' (Below.refl _ _) _) _) _, ((Blk.new _ _ _).alloc _).alloc _, (blk_at _ _ _ (by simp)).alloc _, blk_at _ _ _ (by simp)⟩ ?_
  rintro W0 ⟨b0, t0, r0, s0⟩
  have hn : w.heap.size + 1 + 1 < W0.heap.size := s0.lt
  refine (C1.out W0 b0).mono ?_
  rintro e y1 ⟨u1, rfl, q1, hb⟩
  obtain ⟨p1, j1, rfl⟩ := q1.at.sl
  have T := Lib.hid (t0.below hb); have Rr := Lib.hid (r0.below hb); have U := Lib.hid (s0.below hb); have B := Lib.hid (b0.trans (hb.mono b0.size)); have hs1 := hb.size
  have Q1 := Lib.hid q1
  clear t0 r0 s0 b0 hb q1 C1
  have m0 := T.out.cell 0 rfl
  have c0 := U.out.cell 0 rfl
  have f0 := U.out.soft 0
  have m1 := T.out.cell 1 rfl
  have c1 := U.out.cell 1 rfl
  have f1 := U.out.soft 1
  have m2 := T.out.cell 2 rfl
  have c2 := U.out.cell 2 rfl
  have f2 := U.out.soft 2
  have m3 := T.out.cell 3 rfl
  have c3 := U.out.cell 3 rfl
  have f3 := U.out.soft 3
  have m4 := T.out.cell 4 rfl
  have c4 := U.out.cell 4 rfl
  have f4 := U.out.soft 4
  go_wp2_with fail
  have hW : y1.heap.size = y1.heap.size := rfl
  refine calls_by (fun W => y1.heap.size ≤ W.heap.size ∧ Below w.heap.size w W ∧ Blk W w.heap.size [.string a0, .slice o1 a1.length k1, .slice o2 a2.length k2, .int .i64 a3, .bool a4] ∧ Blk W (w.heap.size + 1) [.string ⟨#[]⟩, .slice none 0 0, .slice none 0 0, .int .i64 0, .bool false] ∧ Blk W (w.heap.size + 1 + 1) [.string a0, .slice p1 a1.length j1, .slice none 0 0, .int .i64 0, .bool false] ∧ SlOwn rdnE (Fresh W0 y1) W a1 (.slice p1 a1.length j1)) ⟨by simp [World.setCell], (B.out.setCell (p := ⟨w.heap.size + 1 + 1, 1, none⟩) (by show w.heap.size ≤ w.heap.size + 1 + 1; omega) _), (T.out.far (by omega) _), (Rr.out.far (by omega) _), (U.out.set 1 _), (Q1.out.frame (Same.set _ _ _ (by intro h; have := h.1; omega)))⟩ ?_
  clear T Rr U B Q1
  rintro W1 ⟨hl1, b1, t1, r1, s1, q1⟩
  have Q1 := Lib.hid q1; clear q1
  refine (C2.out W1 b1).mono ?_
  rintro e y2 ⟨u2, rfl, q2, hb⟩
  obtain ⟨p2, j2, rfl⟩ := q2.at.sl
  have T := Lib.hid (t1.below hb); have Rr := Lib.hid (r1.below hb); have U := Lib.hid (s1.below hb); have B := Lib.hid (b1.trans (hb.mono b1.size)); have hs2 := hb.size
  have Q2 := Lib.hid q2
  have Q1 := Lib.hid (Q1.out.frame (Same.of_below' hb))
  clear t1 r1 s1 b1 hb q2 C2
  clear c0 f0 m0 c1 f1 m1 c2 f2 m2 c3 f3 m3 c4 f4 m4
  have m0 := T.out.cell 0 rfl
  have c0 := U.out.cell 0 rfl
  have f0 := U.out.soft 0
  have m1 := T.out.cell 1 rfl
  have c1 := U.out.cell 1 rfl
  have f1 := U.out.soft 1
  have m2 := T.out.cell 2 rfl
  have c2 := U.out.cell 2 rfl
  have f2 := U.out.soft 2
  have m3 := T.out.cell 3 rfl
  have c3 := U.out.cell 3 rfl
  have f3 := U.out.soft 3
  have m4 := T.out.cell 4 rfl
  have c4 := U.out.cell 4 rfl
  have f4 := U.out.soft 4
  have TE := ((((((((Rr.out.far (R := w.heap.size + 1 + 1) (j := 2) (by omega) (.slice p2 a2.length j2)).far (R := w.heap.size + 1 + 1) (j := 3) (by omega) (.int .i64 a3)).far (R := w.heap.size + 1 + 1) (j := 4) (by omega) (.bool a4)).set 0 (.string a0)).set 1 (.slice p1 a1.length j1)).set 2 (.slice p2 a2.length j2)).set 3 (.int .i64 a3)).set 4 (.bool a4))
  have d0 := Rr.out.cell 0 rfl
  have g0 := Rr.out.soft 0
  have k100 := TE.cell 0 rfl
  have d1 := Rr.out.cell 1 rfl
  have g1 := Rr.out.soft 1
  have k101 := TE.cell 1 rfl
  have d2 := Rr.out.cell 2 rfl
  have g2 := Rr.out.soft 2
  have k102 := TE.cell 2 rfl
  have d3 := Rr.out.cell 3 rfl
  have g3 := Rr.out.soft 3
  have k103 := TE.cell 3 rfl
  have d4 := Rr.out.cell 4 rfl
  have g4 := Rr.out.soft 4
  have k104 := TE.cell 4 rfl
  clear TE
  go_wp2_with fail
  refine bodyPost_ret (v := .agg #[.string a0, .slice p1 a1.length j1, .slice p2 a2.length j2, .int .i64 a3, .bool a4]) (by simp [results, Try.results68, go_sem, k100, k101, k102, k103, k104]) rfl ⟨_, _, rfl, ?_, ?_⟩
  · exact rule_pack a0 a1 a2 a3 a4 _ _ (Fresh W0 y1) (Fresh W1 y2) ⟨((((((((Q1.out.frame (Same.set _ _ _ (by intro h; have := h.1; omega))).frame (Same.set _ _ _ (by intro h; have := h.1; omega))).frame (Same.set _ _ _ (by intro h; have := h.1; omega))).frame (Same.set _ _ _ (by intro h; have := h.1; omega))).frame (Same.set _ _ _ (by intro h; have := h.1; omega))).frame (Same.set _ _ _ (by intro h; have := h.1; omega))).frame (Same.set _ _ _ (by intro h; have := h.1; omega))).frame (Same.set _ _ _ (by intro h; have := h.1; omega))), (fun k z => ⟨by have := z.1; omega, by have := z.2; show _ < (World.heap _).size; simp only [setCell_size]; omega⟩), ((((((((Q2.out.frame (Same.set _ _ _ (by intro h; have := h.1; omega))).frame (Same.set _ _ _ (by intro h; have := h.1; omega))).frame (Same.set _ _ _ (by intro h; have := h.1; omega))).frame (Same.set _ _ _ (by intro h; have := h.1; omega))).frame (Same.set _ _ _ (by intro h; have := h.1; omega))).frame (Same.set _ _ _ (by intro h; have := h.1; omega))).frame (Same.set _ _ _ (by intro h; have := h.1; omega))).frame (Same.set _ _ _ (by intro h; have := h.1; omega))), (fun k z => ⟨by have := z.1; omega, by have := z.2; show _ < (World.heap _).size; simp only [setCell_size]; omega⟩), (fun k z y => by have := z.2; have := y.1; omega), trivial⟩
  · exact ((((((((B.out.setCell (p := ⟨w.heap.size + 1 + 1, 2, none⟩) (by show w.heap.size ≤ w.heap.size + 1 + 1; omega) _).setCell (p := ⟨w.heap.size + 1 + 1, 3, none⟩) (by show w.heap.size ≤ w.heap.size + 1 + 1; omega) _).setCell (p := ⟨w.heap.size + 1 + 1, 4, none⟩) (by show w.heap.size ≤ w.heap.size + 1 + 1; omega) _).setCell (p := ⟨w.heap.size + 1, 0, none⟩) (by show w.heap.size ≤ w.heap.size + 1; omega) _).setCell (p := ⟨w.heap.size + 1, 1, none⟩) (by show w.heap.size ≤ w.heap.size + 1; omega) _).setCell (p := ⟨w.heap.size + 1, 2, none⟩) (by show w.heap.size ≤ w.heap.size + 1; omega) _).setCell (p := ⟨w.heap.size + 1, 3, none⟩) (by show w.heap.size ≤ w.heap.size + 1; omega) _).setCell (p := ⟨w.heap.size + 1, 4, none⟩) (by show w.heap.size ≤ w.heap.size + 1; omega) _)
set_option maxRecDepth 100000 in
set_option maxHeartbeats 4000000 in
theorem toRuleS_at {S : Bs} (v : Value) (d : List RuleT) (w : World) (hd : SlAt ruleE S w d v) (hz : d.length + szL ruleE d ≤ 1048576) :
    Calls Try.prog 14 #[v] w fun e w' => ∃ u, e = .returned u ∧ SlOwn ruleE (Fresh w w') w' d u ∧ Below w.heap.size w w' := by
  obtain ⟨ao, cap, rfl⟩ := hd.sl
  have HD := Lib.hid hd; clear hd
  have HL := Lib.hid hz
  have hl : d.length ≤ 1048576 := by omega
  clear hz
  obtain ⟨C, hC, hmk⟩ := mkRule d.length hl w
  have HC := Lib.hid hC; clear hC
  go_enter Try.func14, Try.ntmps14
  go_wp2
  clear hmk
  go_loopw [4] (fun i wr => ∃ k : Nat, k ≤ d.length ∧ i = .int .i64 k ∧ Build ruleE wr w.heap.size d.length (d.take k) ∧ Below w.heap.size w wr) (fun i _ => d.length - (intOf i).toNat)
  case atStart => exact ⟨0, Nat.zero_le _, rfl, Build.new _ _ _ _ HC.out, (Below.refl _ _).alloc (Nat.le_refl _) _⟩
  case round =>
    obtain ⟨k, hk, rfl, hR, hbel⟩ := hrel
    have HR := Lib.hid hR; clear hR
    have hsz := hbel.size
    by_cases hlt : k < d.length
    · obtain ⟨b, off, a0, a1, a2, a3, a4, v1, v2, rfl, _, hb0, hx, ⟨hc0, hc1, hc2, hc3, hc4⟩, s1, s2, _⟩ := rule_row (HD.out.frame (Same.of_below' hbel)) hlt
      have HT : Hid (d.take (k + 1) = d.take k ++ [(a0, a1, a2, a3, a4)]) := Lib.hid (by rw [List.take_succ_eq_append_getElem hlt, hx])
      have HK : Hid ((d.take k).length = k) := Lib.hid (by rw [List.length_take]; omega)
      have HZ : Hid (ruleE.sz (a0, a1, a2, a3, a4) ≤ 1048576) := Lib.hid (by have h1 := szL_mem ruleE (List.getElem_mem hlt); rw [hx] at h1; have := HL.out; omega)
      clear hx
      have HV1 := Lib.hid s1; clear s1
      have HV2 := Lib.hid s2; clear s2
      obtain ⟨o1, k1, rfl⟩ := HV1.out.sl
      obtain ⟨o2, k2, rfl⟩ := HV2.out.sl
      go_wp2_with fail
      refine (toRule_at a0 a1 a2 a3 a4 _ _ wr HV1.out HV2.out HZ.out).mono ?_
      rintro e w2 ⟨u1, u2, rfl, hq, hb2⟩
      have HR2 := Lib.hid (HR.out.below hb2)
      have B2 := Lib.hid (hbel.trans (hb2.mono hsz))
      have HQ := Lib.hid hq
      have HB := Lib.hid hb2
      clear hb2 hq hc0 hc1 hc2 hc3 hc4
      have hsl := rule_sl HQ.out rfl
      obtain ⟨⟨p1, l1, j1, rfl⟩, ⟨p2, l2, j2, rfl⟩⟩ := hsl
      obtain ⟨x0, c0⟩ := HR2.out.cell (k := k) (u := 0) hlt (by decide)
      have c0 : w2.cell? ⟨w.heap.size, k * 5, none⟩ = some x0 := c0
      have f0 := HR2.out.soft (k * 5)
      obtain ⟨x1, c1⟩ := HR2.out.cell (k := k) (u := 1) hlt (by decide)
      have c1 : w2.cell? ⟨w.heap.size, k * 5 + 1, none⟩ = some x1 := c1
      have f1 := HR2.out.soft (k * 5 + 1)
      obtain ⟨x2, c2⟩ := HR2.out.cell (k := k) (u := 2) hlt (by decide)
      have c2 : w2.cell? ⟨w.heap.size, k * 5 + 2, none⟩ = some x2 := c2
      have f2 := HR2.out.soft (k * 5 + 2)
      obtain ⟨x3, c3⟩ := HR2.out.cell (k := k) (u := 3) hlt (by decide)
      have c3 : w2.cell? ⟨w.heap.size, k * 5 + 3, none⟩ = some x3 := c3
      have f3 := HR2.out.soft (k * 5 + 3)
      obtain ⟨x4, c4⟩ := HR2.out.cell (k := k) (u := 4) hlt (by decide)
      have c4 : w2.cell? ⟨w.heap.size, k * 5 + 4, none⟩ = some x4 := c4
      have f4 := HR2.out.soft (k * 5 + 4)
      go_wp2
      go_roundw
      case rel => exact ⟨k + 1, by omega, by go_num, by rw [HT.out]; exact HR.out.row (o := k * 5) (cs := [.string a0, .slice p1 l1 j1, .slice p2 l2 j2, .int .i64 a3, .bool a4]) (by rw [HK.out]; exact hlt) (by rw [HK.out]; rfl) HB.out HQ.out, (((((B2.out.setCell (Nat.le_refl _) _).setCell (Nat.le_refl _) _).setCell (Nat.le_refl _) _).setCell (Nat.le_refl _) _).setCell (Nat.le_refl _) _)⟩
      case measure => simp [intOf]; omega
    · have e : d.take k = d := List.take_of_length_le (by omega)
      rw [e] at HR
      clear e
      go_wp2
      go_ret
      exact ⟨_, rfl, HR.out.own, hbel⟩
end Go.Proofs.Ytglgkocjdockdaa
/- The helpers of the laws: comparisons. -/
namespace Go.Proofs.Ytglgkocjdockdaa
open Go.RowKit
attribute [local go_sem ↓] Go.wp_at_zero Go.wp_at_succ

set_option maxRecDepth 100000 in
set_option maxHeartbeats 4000000 in
theorem eqRdn_at  (w0 : World) (a0 : ByteArray) (a1 : ByteArray)   (w : World) (hB : Below w0.heap.size w0 w)    :
    Calls Try.prog 77 #[.agg #[.string a0, .string a1], .agg #[.string a0, .string a1]] w fun e w' => e = .returned (.bool true) ∧ Below w0.heap.size w0 w' := by
  have hk0 : (a0.toList == a0.toList) = true := by simp
  have hk1 : (a1.toList == a1.toList) = true := by simp
  have HB := Lib.hid hB
  clear hB
  go_enter Try.func77, Try.ntmps77
  go_wp2
  go_ret
  exact ⟨rfl, more' (more' HB.out _) _⟩
set_option maxRecDepth 100000 in
set_option maxHeartbeats 4000000 in
theorem eqRdnS_at {S S' : Bs} (v u : Value) (d : List RdnT) (w : World) (hd : SlAt rdnE S w d v) (hu : SlAt rdnE S' w d u) (hz : d.length + szL rdnE d ≤ 1048576) :
    Calls Try.prog 21 #[v, u] w fun e w' => e = .returned (.bool true) ∧ Below w.heap.size w w' := by
  obtain ⟨ao, ca, rfl⟩ := hd.sl
  obtain ⟨bo, cb, rfl⟩ := hu.sl
  have HA := Lib.hid hd; have HB := Lib.hid hu; clear hd hu
  have HL := Lib.hid hz
  have hl : d.length ≤ 1048576 := by omega
  clear hz
  go_enter Try.func21, Try.ntmps21
  go_wp2
  go_loopw [5] (fun i wr => ∃ k : Nat, k ≤ d.length ∧ i = .int .i64 k ∧ Below w.heap.size w wr) (fun i _ => d.length - (intOf i).toNat)
  case atStart => exact ⟨0, Nat.zero_le _, rfl, Below.refl _ _⟩
  case round =>
    obtain ⟨k, hk, rfl, hbel⟩ := hrel
    have hsz := hbel.size
    by_cases hlt : k < d.length
    · obtain ⟨p, off, a0, a1, rfl, _, hp0, hx, hc, _⟩ := rdn_row (HA.out.frame (Same.of_below' hbel)) hlt
      obtain ⟨q, off', x0, x1, rfl, _, hq0, hx', hd, _⟩ := rdn_row (HB.out.frame (Same.of_below' hbel)) hlt
      have hxx := hx.symm.trans hx'
      simp only [Prod.mk.injEq] at hxx
      obtain ⟨rfl, rfl⟩ := hxx
      have HZ : Hid (rdnE.sz (a0, a1) ≤ 1048576) := Lib.hid (by have h1 := szL_mem rdnE (List.getElem_mem hlt); rw [hx] at h1; have := HL.out; omega)
      clear hx hx'
      have C : Hid (∀ W : World, Below wr.heap.size wr W → Calls Try.prog 77 #[.agg #[.string a0, .string a1], .agg #[.string a0, .string a1]] W fun e w' => e = .returned (.bool true) ∧ Below wr.heap.size wr w') := Lib.hid (fun W b => eqRdn_at wr a0 a1 W b   )
      have SK : Hid (∀ W : World, Below wr.heap.size wr W → (Below wr.heap.size wr W ∧ (W.cell? ⟨p, off + k * 2, none⟩ = some (.string a0) ∧ W.cell? ⟨p, off + k * 2 + 1, none⟩ = some (.string a1)) ∧ (W.cell? ⟨q, off' + k * 2, none⟩ = some (.string a0) ∧ W.cell? ⟨q, off' + k * 2 + 1, none⟩ = some (.string a1)))) :=
        Lib.hid (fun W h => ⟨h, ⟨(h.cell (p := ⟨p, _, none⟩) hp0).trans hc.1, (h.cell (p := ⟨p, _, none⟩) hp0).trans hc.2⟩, ⟨(h.cell (p := ⟨q, _, none⟩) hq0).trans hd.1, (h.cell (p := ⟨q, _, none⟩) hq0).trans hd.2⟩⟩)
      have hbd : Below wr.heap.size wr wr.drew := (Below.refl _ _).drew
      have hb0 : Below wr.heap.size wr wr := Below.refl _ _
      have HBl := Lib.hid hbel
      clear hc hd hbel
      have g1 : (0 : Int) ≤ (k : Int) := by omega
      have g2 : (k : Int) < (d.length : Int) := by omega
      go_wp2_with fail
      go_region_held3 (fun W => Below wr.heap.size wr W ∧ (W.cell? ⟨p, off + k * 2, none⟩ = some (.string a0) ∧ W.cell? ⟨p, off + k * 2 + 1, none⟩ = some (.string a1)) ∧ (W.cell? ⟨q, off' + k * 2, none⟩ = some (.string a0) ∧ W.cell? ⟨q, off' + k * 2 + 1, none⟩ = some (.string a1)))
        (exact SK.out _ (by assumption))
        (first | (go_at_call 77; refine (C.out _ (by assumption)).mono ?_; rintro e w2 ⟨rfl, hb2⟩) | (fail "none"))
      all_goals
        go_wp2
        go_roundw
        case rel => exact ⟨k + 1, by omega, by go_num, HBl.out.trans (hb2.mono HBl.out.size)⟩
        case measure => simp [intOf]; omega
    · go_wp2
      go_ret
      exact ⟨rfl, hbel⟩
end Go.Proofs.Ytglgkocjdockdaa
/- The helpers of the laws: comparisons. -/
namespace Go.Proofs.Ytglgkocjdockdaa
open Go.RowKit
attribute [local go_sem ↓] Go.wp_at_zero Go.wp_at_succ

set_option maxRecDepth 100000 in
set_option maxHeartbeats 4000000 in
theorem eqStringS_at {S S' : Bs} (v u : Value) (d : List ByteArray) (w : World) (hd : SlAt strE S w d v) (hu : SlAt strE S' w d u) (hz : d.length + szL strE d ≤ 1048576) :
    Calls Try.prog 43 #[v, u] w fun e w' => e = .returned (.bool true) ∧ Below w.heap.size w w' := by
  obtain ⟨ao, ca, rfl⟩ := hd.sl
  obtain ⟨bo, cb, rfl⟩ := hu.sl
  have HA := Lib.hid hd; have HB := Lib.hid hu; clear hd hu
  have HL := Lib.hid hz
  have hl : d.length ≤ 1048576 := by omega
  clear hz
  go_enter Try.func43, Try.ntmps43
  go_wp2
  go_loopw [5] (fun i wr => ∃ k : Nat, k ≤ d.length ∧ i = .int .i64 k ∧ Below w.heap.size w wr) (fun i _ => d.length - (intOf i).toNat)
  case atStart => exact ⟨0, Nat.zero_le _, rfl, Below.refl _ _⟩
  case round =>
    obtain ⟨k, hk, rfl, hbel⟩ := hrel
    have hsz := hbel.size
    by_cases hlt : k < d.length
    · obtain ⟨p, off, A, rfl, _, hp0, hx, c1⟩ := str_row (HA.out.frame (Same.of_below' hbel)) hlt
      obtain ⟨q, off', A', rfl, _, hq0, hx', c2⟩ := str_row (HB.out.frame (Same.of_below' hbel)) hlt
      obtain rfl : A = A' := hx.symm.trans hx'
      clear hx hx'
      have hkk : (A.toList == A.toList) = true := by simp
      have g1 : (0 : Int) ≤ (k : Int) := by omega
      have g2 : (k : Int) < (d.length : Int) := by omega
      have hbd := hbel.drew
      have c1' : wr.drew.cell? ⟨p, off + k, none⟩ = some (.string A) := c1
      have c2' : wr.drew.cell? ⟨q, off' + k, none⟩ = some (.string A) := c2
      go_wp2_with fail
      go_region_held3 (fun W => Below w.heap.size w W ∧ W.cell? ⟨p, off + k, none⟩ = some (.string A) ∧ W.cell? ⟨q, off' + k, none⟩ = some (.string A))
        (first | exact ⟨hbel, c1, c2⟩ | exact ⟨hbd, c1', c2'⟩)
        (fail "none")
      all_goals
        go_wp2
        go_roundw
        case rel => exact ⟨k + 1, by omega, by go_num, by first | exact hbel | exact hbd⟩
        case measure => simp [intOf]; omega
    · go_wp2
      go_ret
      exact ⟨rfl, hbel⟩
end Go.Proofs.Ytglgkocjdockdaa
/- The helpers of the laws: comparisons. -/
namespace Go.Proofs.Ytglgkocjdockdaa
open Go.RowKit
attribute [local go_sem ↓] Go.wp_at_zero Go.wp_at_succ

set_option maxRecDepth 100000 in
set_option maxHeartbeats 4000000 in
theorem eqRule_at {S S' : Bs} (w0 : World) (a0 : ByteArray) (a1 : (List RdnT)) (a2 : (List ByteArray)) (a3 : Int) (a4 : Bool) (v1 v2 : Value) (u1 u2 : Value) (w : World) (hB : Below w0.heap.size w0 w) (h1 : SlAt rdnE S w0 a1 v1) (h2 : SlAt strE S w0 a2 v2) (g1 : SlAt rdnE S' w0 a1 u1) (g2 : SlAt strE S' w0 a2 u2) (hz : ruleE.sz (a0, a1, a2, a3, a4) ≤ 1048576) :
    Calls Try.prog 70 #[.agg #[.string a0, v1, v2, .int .i64 a3, .bool a4], .agg #[.string a0, u1, u2, .int .i64 a3, .bool a4]] w fun e w' => e = .returned (.bool true) ∧ Below w0.heap.size w0 w' := by
  have HE : ruleE.sz (a0, a1, a2, a3, a4) = a0.size + ((a1.length + szL rdnE a1) + ((a2.length + szL strE a2) + (0 + (0)))) := rfl
  rw [HE] at hz
  have hk0 : (a0.toList == a0.toList) = true := by simp
  have C1 : Hid (∀ W : World, Below w0.heap.size w0 W → Calls Try.prog 21 #[v1, u1] W fun e w' => e = .returned (.bool true) ∧ Below W.heap.size W w') := Lib.hid (fun W b => eqRdnS_at v1 u1 a1 W (h1.frame (Same.of_below' b)) (g1.frame (Same.of_below' b)) (by omega))
  have C2 : Hid (∀ W : World, Below w0.heap.size w0 W → Calls Try.prog 43 #[v2, u2] W fun e w' => e = .returned (.bool true) ∧ Below W.heap.size W w') := Lib.hid (fun W b => eqStringS_at v2 u2 a2 W (h2.frame (Same.of_below' b)) (g2.frame (Same.of_below' b)) (by omega))
  have hk3 : (a3 == a3) = true := by simp
  have hj3 : (a3 != a3) = false := by simp
  have hk4 : (a4 == a4) = true := by simp
  have hj4 : (a4 != a4) = false := by simp
  obtain ⟨o1, k1, rfl⟩ := h1.sl
  obtain ⟨p1, j1, rfl⟩ := g1.sl
  obtain ⟨o2, k2, rfl⟩ := h2.sl
  obtain ⟨p2, j2, rfl⟩ := g2.sl
  clear hz HE h1 g1 h2 g2
  have HB := Lib.hid hB
  clear hB
  go_enter Try.func70, Try.ntmps70
  go_wp2_with fail
  refine calls_by (fun W => Below w0.heap.size w0 W ∧ Blk W w.heap.size [.string a0, .slice o1 a1.length k1, .slice o2 a2.length k2, .int .i64 a3, .bool a4] ∧ Blk W (w.heap.size + 1) [.string a0, .slice p1 a1.length j1, .slice p2 a2.length j2, .int .i64 a3, .bool a4]) ⟨more' (more' HB.out _) _, (Blk.new _ _ _).alloc _, blk_at _ _ _ (by simp)⟩ ?_
  rintro W1 ⟨b1, x1, y1⟩
  have X1 := Lib.hid x1; have Y1 := Lib.hid y1; clear x1 y1
  refine (C1.out W1 b1).mono ?_
  rintro e W2 ⟨rfl, hb⟩
  have X2 := Lib.hid (X1.out.below hb); have Y2 := Lib.hid (Y1.out.below hb); have b2 := b1.trans (hb.mono b1.size)
  clear X1 Y1 hb b1 C1
  have m0 := X2.out.cell 0 rfl
  have n0 := Y2.out.cell 0 rfl
  have m1 := X2.out.cell 1 rfl
  have n1 := Y2.out.cell 1 rfl
  have m2 := X2.out.cell 2 rfl
  have n2 := Y2.out.cell 2 rfl
  have m3 := X2.out.cell 3 rfl
  have n3 := Y2.out.cell 3 rfl
  have m4 := X2.out.cell 4 rfl
  have n4 := Y2.out.cell 4 rfl
  go_wp2_with fail
  refine (C2.out W2 b2).mono ?_
  rintro e W3 ⟨rfl, hb⟩
  have X3 := Lib.hid (X2.out.below hb); have Y3 := Lib.hid (Y2.out.below hb); have b3 := b2.trans (hb.mono b2.size)
  clear X2 Y2 hb b2 C2 m0 n0 m1 n1 m2 n2 m3 n3 m4 n4
  have m0 := X3.out.cell 0 rfl
  have n0 := Y3.out.cell 0 rfl
  have m1 := X3.out.cell 1 rfl
  have n1 := Y3.out.cell 1 rfl
  have m2 := X3.out.cell 2 rfl
  have n2 := Y3.out.cell 2 rfl
  have m3 := X3.out.cell 3 rfl
  have n3 := Y3.out.cell 3 rfl
  have m4 := X3.out.cell 4 rfl
  have n4 := Y3.out.cell 4 rfl
  go_wp2
  go_ret
  exact ⟨rfl, b3⟩
set_option maxRecDepth 100000 in
set_option maxHeartbeats 4000000 in
theorem eqRuleS_at {S S' : Bs} (v u : Value) (d : List RuleT) (w : World) (hd : SlAt ruleE S w d v) (hu : SlAt ruleE S' w d u) (hz : d.length + szL ruleE d ≤ 1048576) :
    Calls Try.prog 16 #[v, u] w fun e w' => e = .returned (.bool true) ∧ Below w.heap.size w w' := by
  obtain ⟨ao, ca, rfl⟩ := hd.sl
  obtain ⟨bo, cb, rfl⟩ := hu.sl
  have HA := Lib.hid hd; have HB := Lib.hid hu; clear hd hu
  have HL := Lib.hid hz
  have hl : d.length ≤ 1048576 := by omega
  clear hz
  go_enter Try.func16, Try.ntmps16
  go_wp2
  go_loopw [5] (fun i wr => ∃ k : Nat, k ≤ d.length ∧ i = .int .i64 k ∧ Below w.heap.size w wr) (fun i _ => d.length - (intOf i).toNat)
  case atStart => exact ⟨0, Nat.zero_le _, rfl, Below.refl _ _⟩
  case round =>
    obtain ⟨k, hk, rfl, hbel⟩ := hrel
    have hsz := hbel.size
    by_cases hlt : k < d.length
    · obtain ⟨p, off, a0, a1, a2, a3, a4, v1, v2, rfl, _, hp0, hx, hc, s1, s2, _⟩ := rule_row (HA.out.frame (Same.of_below' hbel)) hlt
      obtain ⟨q, off', x0, x1, x2, x3, x4, u1, u2, rfl, _, hq0, hx', hd, t1, t2, _⟩ := rule_row (HB.out.frame (Same.of_below' hbel)) hlt
      have hxx := hx.symm.trans hx'
      simp only [Prod.mk.injEq] at hxx
      obtain ⟨rfl, rfl, rfl, rfl, rfl⟩ := hxx
      have HZ : Hid (ruleE.sz (a0, a1, a2, a3, a4) ≤ 1048576) := Lib.hid (by have h1 := szL_mem ruleE (List.getElem_mem hlt); rw [hx] at h1; have := HL.out; omega)
      clear hx hx'
      have C : Hid (∀ W : World, Below wr.heap.size wr W → Calls Try.prog 70 #[.agg #[.string a0, v1, v2, .int .i64 a3, .bool a4], .agg #[.string a0, u1, u2, .int .i64 a3, .bool a4]] W fun e w' => e = .returned (.bool true) ∧ Below wr.heap.size wr w') := Lib.hid (fun W b => eqRule_at wr a0 a1 a2 a3 a4 v1 v2 u1 u2 W b s1 s2 t1 t2 HZ.out)
      clear s1 t1 s2 t2 HZ
      have SK : Hid (∀ W : World, Below wr.heap.size wr W → (Below wr.heap.size wr W ∧ (W.cell? ⟨p, off + k * 5, none⟩ = some (.string a0) ∧ W.cell? ⟨p, off + k * 5 + 1, none⟩ = some (v1) ∧ W.cell? ⟨p, off + k * 5 + 2, none⟩ = some (v2) ∧ W.cell? ⟨p, off + k * 5 + 3, none⟩ = some (.int .i64 a3) ∧ W.cell? ⟨p, off + k * 5 + 4, none⟩ = some (.bool a4)) ∧ (W.cell? ⟨q, off' + k * 5, none⟩ = some (.string a0) ∧ W.cell? ⟨q, off' + k * 5 + 1, none⟩ = some (u1) ∧ W.cell? ⟨q, off' + k * 5 + 2, none⟩ = some (u2) ∧ W.cell? ⟨q, off' + k * 5 + 3, none⟩ = some (.int .i64 a3) ∧ W.cell? ⟨q, off' + k * 5 + 4, none⟩ = some (.bool a4)))) :=
        Lib.hid (fun W h => ⟨h, ⟨(h.cell (p := ⟨p, _, none⟩) hp0).trans hc.1, (h.cell (p := ⟨p, _, none⟩) hp0).trans hc.2.1, (h.cell (p := ⟨p, _, none⟩) hp0).trans hc.2.2.1, (h.cell (p := ⟨p, _, none⟩) hp0).trans hc.2.2.2.1, (h.cell (p := ⟨p, _, none⟩) hp0).trans hc.2.2.2.2⟩, ⟨(h.cell (p := ⟨q, _, none⟩) hq0).trans hd.1, (h.cell (p := ⟨q, _, none⟩) hq0).trans hd.2.1, (h.cell (p := ⟨q, _, none⟩) hq0).trans hd.2.2.1, (h.cell (p := ⟨q, _, none⟩) hq0).trans hd.2.2.2.1, (h.cell (p := ⟨q, _, none⟩) hq0).trans hd.2.2.2.2⟩⟩)
      have hbd : Below wr.heap.size wr wr.drew := (Below.refl _ _).drew
      have hb0 : Below wr.heap.size wr wr := Below.refl _ _
      have HBl := Lib.hid hbel
      clear hc hd hbel
      have g1 : (0 : Int) ≤ (k : Int) := by omega
      have g2 : (k : Int) < (d.length : Int) := by omega
      go_wp2_with fail
      go_region_held3 (fun W => Below wr.heap.size wr W ∧ (W.cell? ⟨p, off + k * 5, none⟩ = some (.string a0) ∧ W.cell? ⟨p, off + k * 5 + 1, none⟩ = some (v1) ∧ W.cell? ⟨p, off + k * 5 + 2, none⟩ = some (v2) ∧ W.cell? ⟨p, off + k * 5 + 3, none⟩ = some (.int .i64 a3) ∧ W.cell? ⟨p, off + k * 5 + 4, none⟩ = some (.bool a4)) ∧ (W.cell? ⟨q, off' + k * 5, none⟩ = some (.string a0) ∧ W.cell? ⟨q, off' + k * 5 + 1, none⟩ = some (u1) ∧ W.cell? ⟨q, off' + k * 5 + 2, none⟩ = some (u2) ∧ W.cell? ⟨q, off' + k * 5 + 3, none⟩ = some (.int .i64 a3) ∧ W.cell? ⟨q, off' + k * 5 + 4, none⟩ = some (.bool a4)))
        (exact SK.out _ (by assumption))
        (first | (go_at_call 70; refine (C.out _ (by assumption)).mono ?_; rintro e w2 ⟨rfl, hb2⟩) | (fail "none"))
      all_goals
        go_wp2
        go_roundw
        case rel => exact ⟨k + 1, by omega, by go_num, HBl.out.trans (hb2.mono HBl.out.size)⟩
        case measure => simp [intOf]; omega
    · go_wp2
      go_ret
      exact ⟨rfl, hbel⟩
end Go.Proofs.Ytglgkocjdockdaa
/- The helpers of the laws: sizes. -/
namespace Go.Proofs.Ytglgkocjdockdaa
open Go.RowKit
attribute [local go_sem ↓] Go.wp_at_zero Go.wp_at_succ

set_option maxRecDepth 100000 in
set_option maxHeartbeats 4000000 in
theorem szAttr_at {S : Bs} (a0 : ByteArray) (a1 : (List ByteArray)) (v1 : Value) (left : Int) (w : World) (h1 : SlAt strE S w a1 v1) (hl : attrE.long (a0, a1)) (g0 : 0 ≤ left) (g1 : left ≤ 1048576) :
    Calls Try.prog 122 #[.agg #[.string a0, v1], .int .i64 left] w fun e w' => e = .returned (.int .i64 (leftR (attrE.sz (a0, a1)) left)) ∧ Below w.heap.size w w' := by
  have HE : Hid (attrE.sz (a0, a1) = a0.size + ((a1.length + szL strE a1))) := Lib.hid rfl
  have z0 : a0.size ≤ 9223372036854775807 := by have := hl.1; simp only [strE, maxLen] at this; omega
  have C1 : Hid (∀ (l : Int) (W : World), Below w.heap.size w W → 0 ≤ l → l ≤ 1048576 → Calls Try.prog 39 #[v1, .int .i64 l] W fun e w' => e = .returned (.int .i64 (leftR (a1.length + szL strE a1) l)) ∧ Below W.heap.size W w') := Lib.hid (fun l W b p q => szStringS_at v1 a1 l W (h1.frame (Same.of_below' b)) hl.2 p q)
  obtain ⟨o1, k1, rfl⟩ := h1.sl
  clear h1
  clear hl
  generalize attrE.sz (a0, a1) = z at *
  generalize (a1.length + szL strE a1) = r1 at *
  generalize a1.length = m1 at *
  by_cases g2 : (a0.size : Int) ≤ left
  · have c0 : ¬ left - (a0.size : Int) < 0 := by omega
    go_enter Try.func122, Try.ntmps122
    go_wp2_with fail
    refine calls_by (fun W => Below w.heap.size w W ∧ Blk W w.heap.size [.string a0, .slice o1 m1 k1]) ⟨more' (Below.refl _ _) _, Blk.new _ _ _⟩ ?_
    rintro w1 ⟨b1, t1⟩
    have T1 := Lib.hid t1; clear t1
    refine (C1.out _ w1 b1 (by omega) (by omega)).mono ?_
    rintro e w2 ⟨rfl, hb⟩
    have T2 := Lib.hid (T1.out.below hb); have b2 := b1.trans (hb.mono b1.size)
    clear hb b1 T1 C1
    by_cases g3 : (r1 : Int) ≤ left - (a0.size : Int)
    · rw [leftR_pos g3]
      have c1 : ¬ left - (a0.size : Int) - (r1 : Int) < 0 := by omega
      have q0 := T2.out.cell 0 rfl
      have q1 := T2.out.cell 1 rfl
      have HR : Hid (leftR z left = left - (a0.size : Int) - (r1 : Int)) := Lib.hid (by rw [leftR_pos (by rw [HE.out]; omega), HE.out]; omega)
      go_wp2
      go_ret
      exact ⟨ret_int (by rw [HR.out]), b2⟩
    · rw [leftR_neg g3]
      have HR : Hid (leftR z left = -1) := Lib.hid (leftR_neg (by rw [HE.out]; omega))
      go_wp2
      go_ret
      exact ⟨ret_int (by rw [HR.out]), b2⟩
  · have c0 : left - (a0.size : Int) < 0 := by omega
    have HR : Hid (leftR z left = -1) := Lib.hid (leftR_neg (by rw [HE.out]; omega))
    go_enter Try.func122, Try.ntmps122
    go_wp2
    go_ret
    exact ⟨ret_int (by rw [HR.out]), (Below.refl _ _).alloc (Nat.le_refl _) _⟩
set_option maxRecDepth 100000 in
set_option maxHeartbeats 4000000 in
theorem szAttrS_at {S : Bs} (v : Value) (d : List AttrT) (left : Int) (w : World) (hd : SlAt attrE S w d v) (hf : (slE attrE).long d) (h0 : 0 ≤ left) (h1 : left ≤ 1048576) :
    Calls Try.prog 78 #[v, .int .i64 left] w fun e w' => e = .returned (.int .i64 (leftR (d.length + szL attrE d) left)) ∧ Below w.heap.size w w' := by
  obtain ⟨ao, cap, rfl⟩ := hd.sl
  have hl : d.length ≤ 9223372036854775807 := hf.1
  have HD := Lib.hid hd; have HF := Lib.hid hf; clear hd hf
  by_cases g : (d.length : Int) ≤ left
  · have c1 : ¬ left - (d.length : Int) < 0 := by omega
    go_enter Try.func78, Try.ntmps78
    go_wp2
    go_loopw [1, 5] (fun t i wr => ∃ k : Nat, k ≤ d.length ∧ i = .int .i64 k ∧ ((d.length + szL attrE (d.take k) : Nat) : Int) ≤ left ∧ t = .int .i64 (left - (d.length + szL attrE (d.take k) : Nat)) ∧ Below w.heap.size w wr) (fun _ i _ => d.length - (intOf i).toNat)
    case atStart => exact ⟨0, Nat.zero_le _, rfl, by simp [szL]; omega, by simp [szL], Below.refl _ _⟩
    case round =>
      clear c1
      obtain ⟨k, hk, rfl, hle, rfl, hbel⟩ := hrel
      have hsz := hbel.size
      by_cases hlt : k < d.length
      · obtain ⟨b, off, a0, a1, v1, rfl, _, hb0, hx, ⟨hc0, hc1⟩, s1, _⟩ := attr_row (HD.out.frame (Same.of_below' hbel)) hlt
        have HV1 := Lib.hid s1; clear s1
        have HZ : Hid (attrE.long (a0, a1)) := Lib.hid (by have := HF.out.2 _ (List.getElem_mem hlt); rw [hx] at this; exact this)
        have HT : Hid (szL attrE (d.take (k + 1)) = szL attrE (d.take k) + attrE.sz (a0, a1)) := Lib.hid (by rw [szL_take attrE d k hlt, hx])
        have HTl := Lib.hid (szL_le attrE d (k + 1))
        clear hx
        generalize hq : d.length + szL attrE (d.take k) = q at *
        have Hq := Lib.hid hq; clear hq
        have HC := Lib.hid (szAttr_at a0 a1 v1 (left - (q : Int)) wr HV1.out HZ.out (by omega) (by omega))
        generalize attrE.sz (a0, a1) = r at *
        go_wp2_with fail
        refine HC.out.mono ?_
        rintro e w2 ⟨rfl, hb2⟩
        have B2 := Lib.hid (hbel.trans (hb2.mono hsz)); clear hb2
        by_cases hfit : (r : Int) ≤ left - (q : Int)
        · rw [leftR_pos hfit]
          have c2 : ¬ left - (q : Int) - (r : Int) < 0 := by omega
          go_wp2
          go_roundw
          case rel =>
            have e := HT.out
            have e3 := Hq.out
            exact ⟨k + 1, by omega, by go_num, by omega, by rw [e]; congr 1; omega, B2.out⟩
          case measure => simp [intOf]; omega
        · rw [leftR_neg hfit]
          have HR : Hid (leftR (d.length + szL attrE d) left = -1) := Lib.hid (leftR_neg (by
            have := HT.out; have := HTl.out; have := Hq.out; omega))
          go_wp2
          go_ret
          exact ⟨ret_int (by rw [HR.out]), B2.out⟩
      · have HR : Hid (leftR (d.length + szL attrE d) left = left - (d.length + szL attrE (d.take k) : Nat)) := Lib.hid (by
          rw [List.take_of_length_le (by omega)] at hle ⊢
          exact leftR_pos hle)
        go_wp2
        go_ret
        exact ⟨ret_int (by rw [HR.out]), hbel⟩
  · have HR : Hid (leftR (d.length + szL attrE d) left = -1) := Lib.hid (leftR_neg (by omega))
    have c1 : left - (d.length : Int) < 0 := by omega
    go_enter Try.func78, Try.ntmps78
    go_wp2
    go_ret
    exact ⟨ret_int (by rw [HR.out]), Below.refl _ _⟩
end Go.Proofs.Ytglgkocjdockdaa
