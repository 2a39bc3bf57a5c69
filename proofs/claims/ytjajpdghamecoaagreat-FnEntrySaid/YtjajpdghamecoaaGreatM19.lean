/- Merged texts: FnEntW. -/
import Derived.Test.YtjajpdghamecoaaGreatM12
import Derived.Test.YtjajpdghamecoaaGreatM18
import Derived.Test.YtjajpdghamecoaaGreatM13
/- The law FnEntry: its walk. -/
namespace Go.Proofs.YtjajpdghamecoaaGreat
open Go.RowKit
attribute [local go_sem ↓] Go.wp_at_zero Go.wp_at_succ
/-- an entry in its block -/
structure EntIn (W : World) (E : Nat) (vo uo : Option Addr) (vc uc : Nat) (d : RdnL) (l : List AttrV) : Prop where
  dn : DnAt W vo d
  att : AttrsAt W uo l
  two : Two W E 26 (.slice vo d.length vc) (.slice uo l.length uc)
theorem EntIn.below {W W' : World} {E : Nat} {vo uo : Option Addr} {vc uc : Nat} {d : RdnL} {l : List AttrV} (h : EntIn W E vo uo vc uc d l) (b : Below W.heap.size W W') : EntIn W' E vo uo vc uc d l := ⟨h.dn.below b, h.att.below b, h.two.below b⟩
theorem entNew {W : World} {vo uo : Option Addr} {vc uc : Nat} {d : RdnL} {l : List AttrV} (h1 : DnAt W vo d) (h2 : AttrsAt W uo l) : EntIn (W.alloc (.cells #[.slice vo d.length vc, .slice uo l.length uc] 26)) W.heap.size vo uo vc uc d l := ⟨h1.below (more (Below.refl _ _) _), h2.below (more (Below.refl _ _) _), twoNew _ _ _ _⟩
/-- a result in its block -/
structure ResIn (W : World) (E : Nat) (vo uo : Option Addr) (vc uc : Nat) (c : Int) (d : RdnL) (l : List AttrV) : Prop where
  dn : DnAt W vo d
  att : AttrsAt W uo l
  three : Three W E 30 (.slice vo d.length vc) (.slice uo l.length uc) (.int .i64 c)
theorem ResIn.below {W W' : World} {E : Nat} {vo uo : Option Addr} {vc uc : Nat} {c : Int} {d : RdnL} {l : List AttrV} (h : ResIn W E vo uo vc uc c d l) (b : Below W.heap.size W W') : ResIn W' E vo uo vc uc c d l := ⟨h.dn.below b, h.att.below b, h.three.below b⟩
theorem resNew {W : World} {vo uo : Option Addr} {vc uc : Nat} {c : Int} {d : RdnL} {l : List AttrV} (h1 : DnAt W vo d) (h2 : AttrsAt W uo l) : ResIn (W.alloc (.cells #[.slice vo d.length vc, .slice uo l.length uc, .int .i64 c] 30)) W.heap.size vo uo vc uc c d l := ⟨h1.below (more (Below.refl _ _) _), h2.below (more (Below.refl _ _) _), heap_alloc_new _ _⟩
theorem field30c (v u : Value) (c : Int) (w : World) : (Instr.field 30 (.agg #[v, u, .int .i64 c]) 1).run Tryz.prog w = .ok (.int .i64 c) w := by kernel_rfl
theorem row_below {w w' : World} {ao : Option Addr} {len : Nat} (h : Row w w.heap.size ao len) (hb : Below w.heap.size w w') : Row w' w'.heap.size ao len := row_more h hb.size (fun k hk => hb.block k hk)
set_option maxRecDepth 100000 in
set_option maxHeartbeats 4000000 in
theorem FnEntry_walk (ao bo : Option Addr) (la ca lb cb : Nat) (w : World) (hA : Row w w.heap.size ao la) (hB : Row w w.heap.size bo lb) (hla : la ≤ 1048576) (hlb : lb ≤ 1048576) :
    Calls Tryz.prog 3 #[.slice ao la ca, .slice bo lb cb] w fun e w' => e = .returned (.bool true) ∧ Below w.heap.size w w' := by
  have HA := Lib.hid hA; have HB := Lib.hid hB; clear hA hB
  have ga : ¬ 1048576 < (la : Int) := by omega
  have gb : ¬ 1048576 < (lb : Int) := by omega
  go_enter Tryz.func3, Tryz.ntmps3
  go_wp2_with fail
  refine (DrawValueAdd_any ao la ca w HA.out hla).mono ?_
  rintro e w1 ⟨⟨d, l, vo, uo, vc, uc, nm, val, rfl, o, a, hd, hsh, hsm, hn, hv⟩, b1⟩
  have F1 := Lib.hid (short_fits hsh hd); have G1 := Lib.hid (hsm.fits (by omega)); have N1 : Hid (nm.size ≤ maxLen) := Lib.hid (by unfold maxLen; omega); have V1 : Hid (val.size ≤ maxLen) := Lib.hid (by unfold maxLen; omega)
  have B1 := Lib.hid (more b1 (.cells #[.slice vo d.length vc, .slice uo l.length uc] 26)); have E1 := Lib.hid (entNew (vc := vc) (uc := uc) (own_dn o) a.attrs)
  clear o a hd hsh hsm hn hv b1 HA
  obtain ⟨⟨c, D, T⟩, hR⟩ : ∃ R, R = addR d l nm val := ⟨_, rfl⟩
  have HR := Lib.hid hR
  have S9 : Hid (Small (c, D, T)) := Lib.hid (by rw [hR]; exact addR_small G1.out)
  have C9 : Hid (∀ W : World, EntIn W w1.heap.size vo uo vc uc d l → Calls Tryz.prog 9 #[.agg #[.slice vo d.length vc, .slice uo l.length uc], .string nm, .string val] W (ImplOut W (c, D, T))) := Lib.hid (fun W h => by rw [hR]; exact ValueAdd_out vo uo d l vc uc nm val W h.dn h.att F1.out G1.out N1.out V1.out)
  clear hR
  obtain ⟨E, hE⟩ : ∃ E, E = w1.heap.size := ⟨_, rfl⟩
  rw [← hE] at E1 C9
  have HE := Lib.hid hE
  go_wp2_with fail
  rw [← HE.out]
  refine calls_any' (fun W => Below w.heap.size w W ∧ EntIn W E vo uo vc uc d l) ⟨B1.out, E1.out⟩ ?_
  rintro W ⟨b2, e2⟩
  clear B1 E1 HE hE w1
  refine (C9.out W e2).mono ?_
  rintro e w2 ⟨⟨xo, xc, yo, yc, rfl, o, a⟩, b⟩
  dsimp only at o a ⊢
  have E2 := Lib.hid (e2.below b); have B2 := Lib.hid (b2.trans (b.mono b2.size))
  have X2 := Lib.hid (resNew (vc := xc) (uc := yc) (c := c) (own_dn o) (attrsMk_of a 1).attrs)
  have B2' := Lib.hid (more B2.out (.cells #[.slice xo D.length xc, .slice yo T.length yc, .int .i64 c] 30)); have E2' := Lib.hid (E2.out.below (more (Below.refl _ _) (.cells #[.slice xo D.length xc, .slice yo T.length yc, .int .i64 c] 30)))
  clear o a b e2 b2 C9 E2 B2
  go_wp2_with fail
  obtain ⟨X, hX⟩ : ∃ X, X = w2.heap.size := ⟨_, rfl⟩
  rw [← hX] at X2
  have HX := Lib.hid hX
  try rw [← HX.out]
  refine calls_any' (fun W => Below w.heap.size w W ∧ EntIn W E vo uo vc uc d l ∧ ResIn W X xo yo xc yc c D T) ⟨B2'.out, E2'.out, X2.out⟩ ?_
  rintro W2 ⟨b2, e2, x2⟩
  clear B2' E2' X2 HX hX w2 W
  refine (DrawValueDrop_any bo lb cb W2 (row_below HB.out b2) hlb).mono ?_
  rintro e w3 ⟨⟨f, m, fo, go', fc, gc, at', wv, rfl, o, a, hd, hsh, hsm, hn, hv⟩, b1⟩
  have F3 := Lib.hid (short_fits hsh hd); have G3 := Lib.hid (hsm.fits (by omega)); have N3 : Hid (at'.size ≤ maxLen) := Lib.hid (by unfold maxLen; omega); have V3 : Hid (wv.size ≤ maxLen) := Lib.hid (by unfold maxLen; omega)
  have bb := more b1 (.cells #[.slice fo f.length fc, .slice go' m.length gc] 26)
  have B3 := Lib.hid (b2.trans (bb.mono b2.size)); have Y3 := Lib.hid (entNew (vc := fc) (uc := gc) (own_dn o) a.attrs)
  have E3 := Lib.hid (e2.below bb); have X3 := Lib.hid (x2.below bb)
  clear o a hd hsh hsm hn hv b1 bb e2 x2 b2
  obtain ⟨⟨k, L, U⟩, hR⟩ : ∃ R, R = dropR f m at' wv := ⟨_, rfl⟩
  have HQ := Lib.hid hR
  have S11 : Hid (Small (k, L, U)) := Lib.hid (by rw [hR]; exact dropR_small G3.out)
  obtain ⟨Y, hY⟩ : ∃ Y, Y = w3.heap.size := ⟨_, rfl⟩
  rw [← hY] at Y3
  have HY := Lib.hid hY
  have C11 : Hid (∀ W : World, EntIn W Y fo go' fc gc f m → Calls Tryz.prog 11 #[.agg #[.slice fo f.length fc, .slice go' m.length gc], .string at', .string wv] W (ImplOut W (k, L, U))) := Lib.hid (fun W h => by rw [hR]; exact ValueDrop_out fo go' f m fc gc at' wv W h.dn h.att F3.out G3.out N3.out V3.out)
  clear hR
  go_wp2_with fail
  rw [← HY.out]
  refine calls_any' (fun W => Below w.heap.size w W ∧ EntIn W E vo uo vc uc d l ∧ ResIn W X xo yo xc yc c D T ∧ EntIn W Y fo go' fc gc f m) ⟨B3.out, E3.out, X3.out, Y3.out⟩ ?_
  rintro W4 ⟨b4, e4, x4, y4⟩
  clear B3 E3 X3 Y3 HY hY w3 W2
  refine (C11.out W4 y4).mono ?_
  rintro e w4 ⟨⟨po, pc, qo, qc, rfl, o, a⟩, b⟩
  dsimp only at o a ⊢
  have bb := more b (.cells #[.slice po L.length pc, .slice qo U.length qc, .int .i64 k] 30)
  have E4 := Lib.hid (e4.below bb); have X4 := Lib.hid (x4.below bb); have Y4 := Lib.hid (y4.below bb); have B4 := Lib.hid (b4.trans (bb.mono b4.size))
  have Z4 := Lib.hid (resNew (vc := pc) (uc := qc) (c := k) (own_dn o) (attrsMk_of a 1).attrs)
  obtain ⟨Z, hZ⟩ : ∃ Z, Z = w4.heap.size := ⟨_, rfl⟩
  rw [← hZ] at Z4
  have HZ := Lib.hid hZ
  clear o a b e4 x4 y4 b4 bb C11
  go_wp2_with fail
  try rw [← HZ.out]
  refine calls_any' (fun W => Below w.heap.size w W ∧ EntIn W E vo uo vc uc d l ∧ ResIn W X xo yo xc yc c D T ∧ EntIn W Y fo go' fc gc f m ∧ ResIn W Z po qo pc qc k L U) ⟨B4.out, E4.out, X4.out, Y4.out, Z4.out⟩ ?_
  rintro W5 ⟨b5, e5, x5, y5, z5⟩
  clear E4 X4 Y4 B4 Z4 HZ hZ w4 W4
  refine (DrawHasValue_any bo lb cb W5 (row_below HB.out b5) hlb).mono ?_
  rintro e w6 ⟨⟨g, n, ho, io, hc, ic, gn, gu, rfl, o, a, hd, hsh, hsm, hn, hv⟩, b1⟩
  have F6 := Lib.hid (short_fits hsh hd); have G6 := Lib.hid (hsm.fits (by omega)); have N6 : Hid (gn.size ≤ maxLen) := Lib.hid (by unfold maxLen; omega); have V6 : Hid (gu.size ≤ maxLen) := Lib.hid (by unfold maxLen; omega)
  have bb := more b1 (.cells #[.slice ho g.length hc, .slice io n.length ic] 26)
  have B6 := Lib.hid (b5.trans (bb.mono b5.size)); have H6 := Lib.hid (entNew (vc := hc) (uc := ic) (own_dn o) a.attrs)
  have E6 := Lib.hid (e5.below bb); have X6 := Lib.hid (x5.below bb); have Y6 := Lib.hid (y5.below bb); have Z6 := Lib.hid (z5.below bb)
  clear o a hd hsh hsm hn hv b1 bb e5 x5 y5 z5 b5
  obtain ⟨I, hI⟩ : ∃ I, I = w6.heap.size := ⟨_, rfl⟩
  rw [← hI] at H6
  have HI := Lib.hid hI
  go_wp2_with fail
  rw [← HI.out]
  refine wp_world (fun W => Below w.heap.size w W ∧ EntIn W E vo uo vc uc d l ∧ ResIn W X xo yo xc yc c D T ∧ EntIn W Y fo go' fc gc f m ∧ ResIn W Z po qo pc qc k L U ∧ EntIn W I ho io hc ic g n) ⟨B6.out, E6.out, X6.out, Y6.out, Z6.out, H6.out⟩ ?_
  rintro M ⟨b7, e7, x7, y7, z7, h7⟩
  clear B6 E6 X6 Y6 Z6 H6 HI hI w6 W5 HB
  have BD : Below M.heap.size M M.drew := (Below.refl _ _).drew
  have SK : Hid (∀ Z' : World, Below M.heap.size M Z' → (Z'.cell? ⟨E, 0, none⟩ = some (.slice vo d.length vc) ∧ Z'.cell? ⟨E, 1, none⟩ = some (.slice uo l.length uc)) ∧ (Z'.cell? ⟨X, 0, none⟩ = some (.slice xo D.length xc) ∧ Z'.cell? ⟨X, 1, none⟩ = some (.slice yo T.length yc) ∧ Z'.cell? ⟨X, 2, none⟩ = some (.int .i64 c)) ∧ (Z'.cell? ⟨Y, 0, none⟩ = some (.slice fo f.length fc) ∧ Z'.cell? ⟨Y, 1, none⟩ = some (.slice go' m.length gc)) ∧ (Z'.cell? ⟨Z, 0, none⟩ = some (.slice po L.length pc) ∧ Z'.cell? ⟨Z, 1, none⟩ = some (.slice qo U.length qc) ∧ Z'.cell? ⟨Z, 2, none⟩ = some (.int .i64 k)) ∧ (Z'.cell? ⟨I, 0, none⟩ = some (.slice ho g.length hc) ∧ Z'.cell? ⟨I, 1, none⟩ = some (.slice io n.length ic))) := Lib.hid (fun Z' b => ⟨(e7.two.below b).cells.1, (x7.three.below b).cells.1, (y7.two.below b).cells.1, (z7.three.below b).cells.1, (h7.two.below b).cells.1⟩)
  have C14 : Hid (∀ W : World, Below M.heap.size M W → Calls Tryz.prog 14 #[.agg #[.slice vo d.length vc, .slice uo l.length uc], .string nm, .string val] W fun e w' => (∃ ro rc so sc, e = .returned (.agg #[.slice ro D.length rc, .slice so T.length sc, .int .i64 c]) ∧ DnAt w' ro D ∧ AttrsAt w' so T) ∧ Below M.heap.size M w') := Lib.hid (fun W h => by
    refine (SpecValueAdd_any vo uo d l vc uc nm val W (e7.dn.below h) (e7.att.below h) F1.out G1.out N1.out V1.out).mono ?_
    rw [← HR.out]
    rintro e w' ⟨⟨ro, rc, so, sc, rfl, o, a⟩, b⟩
    exact ⟨⟨ro, rc, so, sc, rfl, own_dn o, a.attrs⟩, h.trans (b.mono h.size)⟩)
  have C15 : Hid (∀ W : World, Below M.heap.size M W → Calls Tryz.prog 15 #[.agg #[.slice fo f.length fc, .slice go' m.length gc], .string at', .string wv] W fun e w' => (∃ ro rc so sc, e = .returned (.agg #[.slice ro L.length rc, .slice so U.length sc, .int .i64 k]) ∧ DnAt w' ro L ∧ AttrsAt w' so U) ∧ Below M.heap.size M w') := Lib.hid (fun W h => by
    refine (SpecValueDrop_any fo go' f m fc gc at' wv W (y7.dn.below h) (y7.att.below h) F3.out G3.out N3.out V3.out).mono ?_
    rw [← HQ.out]
    rintro e w' ⟨⟨ro, rc, so, sc, rfl, o, a⟩, b⟩
    exact ⟨⟨ro, rc, so, sc, rfl, own_dn o, a.attrs⟩, h.trans (b.mono h.size)⟩)
  have C13 : Hid (∀ (W : World) (ro so : Option Addr) (rc sc : Nat), Below M.heap.size M W → DnAt W ro D → AttrsAt W so T → Calls Tryz.prog 13 #[.agg #[.slice xo D.length xc, .slice yo T.length yc, .int .i64 c], .agg #[.slice ro D.length rc, .slice so T.length sc, .int .i64 c]] W fun e w' => e = .returned (.bool true) ∧ Below M.heap.size M w') := Lib.hid (fun W ro so rc sc h o a => by
    refine (lwEntryOut_same xo yo ro so xc yc rc sc c D T W (x7.dn.below h) (x7.att.below h) o a (by have := S9.out.1; dsimp only at this; omega) S9.out.2.2).mono ?_
    rintro e w' ⟨rfl, b⟩
    exact ⟨rfl, h.trans (b.mono h.size)⟩)
  have C13b : Hid (∀ (W : World) (ro so : Option Addr) (rc sc : Nat), Below M.heap.size M W → DnAt W ro L → AttrsAt W so U → Calls Tryz.prog 13 #[.agg #[.slice po L.length pc, .slice qo U.length qc, .int .i64 k], .agg #[.slice ro L.length rc, .slice so U.length sc, .int .i64 k]] W fun e w' => e = .returned (.bool true) ∧ Below M.heap.size M w') := Lib.hid (fun W ro so rc sc h o a => by
    refine (lwEntryOut_same po qo ro so pc qc rc sc k L U W (z7.dn.below h) (z7.att.below h) o a (by have := S11.out.1; dsimp only at this; omega) S11.out.2.2).mono ?_
    rintro e w' ⟨rfl, b⟩
    exact ⟨rfl, h.trans (b.mono h.size)⟩)
  have C16 : Hid (∀ W : World, Below M.heap.size M W → Calls Tryz.prog 16 #[.agg #[.slice ho g.length hc, .slice io n.length ic], .string gn, .string gu] W fun e w' => e = .returned (.bool (hasB g n gn gu)) ∧ Below M.heap.size M w') := Lib.hid (fun W h => by
    refine (HasValue_any ho io g n hc ic gn gu W (h7.dn.below h) (h7.att.below h) F6.out G6.out N6.out V6.out).mono ?_
    rintro e w' ⟨rfl, b⟩
    exact ⟨rfl, h.trans (b.mono h.size)⟩)
  have C17 : Hid (∀ W : World, Below M.heap.size M W → Calls Tryz.prog 17 #[.agg #[.slice ho g.length hc, .slice io n.length ic], .string gn, .string gu] W fun e w' => e = .returned (.bool (hasB g n gn gu)) ∧ Below M.heap.size M w') := Lib.hid (fun W h => by
    refine (SpecHasValue_any ho io g n hc ic gn gu W (h7.dn.below h) (h7.att.below h) F6.out G6.out N6.out V6.out).mono ?_
    rintro e w' ⟨rfl, b⟩
    exact ⟨rfl, h.trans (b.mono h.size)⟩)
  have C18 : Hid (∀ W : World, Below M.heap.size M W → Calls Tryz.prog 18 #[.agg #[.slice ho g.length hc, .slice io n.length ic]] W fun e w' => e = .returned (.bool (rightB g n)) ∧ Below M.heap.size M w') := Lib.hid (fun W h => by
    refine (EntryRight_any ho io g n hc ic W (h7.dn.below h) (h7.att.below h) F6.out G6.out).mono ?_
    rintro e w' ⟨rfl, b⟩
    exact ⟨rfl, h.trans (b.mono h.size)⟩)
  have C19 : Hid (∀ W : World, Below M.heap.size M W → Calls Tryz.prog 19 #[.agg #[.slice ho g.length hc, .slice io n.length ic]] W fun e w' => e = .returned (.bool (rightB g n)) ∧ Below M.heap.size M w') := Lib.hid (fun W h => by
    refine (SpecEntryRight_any ho io g n hc ic W (h7.dn.below h) (h7.att.below h) F6.out G6.out).mono ?_
    rintro e w' ⟨rfl, b⟩
    exact ⟨rfl, h.trans (b.mono h.size)⟩)
  have HP := Lib.hid (And.intro b7 (And.intro e7 (And.intro x7 (And.intro y7 z7))))
  clear b7 e7 x7 y7 z7 h7
  refine wp_region_held_drew (S := (fun Z' => (Z'.cell? ⟨E, 0, none⟩ = some (.slice vo d.length vc) ∧ Z'.cell? ⟨E, 1, none⟩ = some (.slice uo l.length uc)) ∧ (Z'.cell? ⟨X, 0, none⟩ = some (.slice xo D.length xc) ∧ Z'.cell? ⟨X, 1, none⟩ = some (.slice yo T.length yc) ∧ Z'.cell? ⟨X, 2, none⟩ = some (.int .i64 c)) ∧ (Z'.cell? ⟨Y, 0, none⟩ = some (.slice fo f.length fc) ∧ Z'.cell? ⟨Y, 1, none⟩ = some (.slice go' m.length gc)) ∧ (Z'.cell? ⟨Z, 0, none⟩ = some (.slice po L.length pc) ∧ Z'.cell? ⟨Z, 1, none⟩ = some (.slice qo U.length qc) ∧ Z'.cell? ⟨Z, 2, none⟩ = some (.int .i64 k)) ∧ (Z'.cell? ⟨I, 0, none⟩ = some (.slice ho g.length hc) ∧ Z'.cell? ⟨I, 1, none⟩ = some (.slice io n.length ic)))) (by kernel_rfl) ?_ (fun hHeld => ?_)
  · (try dsimp only)
    first | exact SK.out _ (by assumption) | exact SK.out _ BD
  refine wpAnyH_take (i := 0) (oi := ⟨some 50, .load 30 (.tmp 8), 30, "laws.go:190", #[], none⟩) (v := ?_) rfl (by kernel_rfl) (by kernel_rfl) (by kernel_rfl) (fun _ _ _ h => h) (Or.inl ⟨by rfl, ?_⟩) (by assumption) ?_
  rotate_left
  · intro w hSw; (try dsimp only at hSw); go_simp; (try with_reducible rfl)
  (try simp only [Act.put, List.setIfInBounds_toArray, List.set_cons_zero, List.set_cons_succ])
  refine wpAnyH_take (i := 1) (oi := ⟨some 51, .load 26 (.tmp 5), 26, "laws.go:190", #[], none⟩) (v := ?_) rfl (by kernel_rfl) (by kernel_rfl) (by kernel_rfl) (fun _ _ _ h => h) (Or.inl ⟨by rfl, ?_⟩) (by assumption) ?_
  rotate_left
  · intro w hSw; (try dsimp only at hSw); go_simp; (try with_reducible rfl)
  (try simp only [Act.put, List.setIfInBounds_toArray, List.set_cons_zero, List.set_cons_succ])
  refine wpAnyH_take (i := 2) (oi := ⟨some 52, .move (.tmp 6), 9, "laws.go:190", #[], none⟩) (v := ?_) rfl (by kernel_rfl) (by kernel_rfl) (by kernel_rfl) (fun _ _ _ h => h) (Or.inl ⟨by rfl, ?_⟩) (by assumption) ?_
  rotate_left
  · intro w hSw; (try dsimp only at hSw); go_simp; (try with_reducible rfl)
  (try simp only [Act.put, List.setIfInBounds_toArray, List.set_cons_zero, List.set_cons_succ])
  refine wpAnyH_take (i := 3) (oi := ⟨some 53, .move (.tmp 7), 9, "laws.go:190", #[], none⟩) (v := ?_) rfl (by kernel_rfl) (by kernel_rfl) (by kernel_rfl) (fun _ _ _ h => h) (Or.inl ⟨by rfl, ?_⟩) (by assumption) ?_
  rotate_left
  · intro w hSw; (try dsimp only at hSw); go_simp; (try with_reducible rfl)
  (try simp only [Act.put, List.setIfInBounds_toArray, List.set_cons_zero, List.set_cons_succ])
  refine wpAnyH_ready (rs := [4]) (by kernel_rfl) (by simp) ?_
  refine AllReadyH.cons (o := ⟨some 54, .call { callee := Callee.value (.func 14), args := #[.tmp 51, .tmp 52, .tmp 53], argTypes := #[26, 9, 9] }, 30, "laws.go:190", #[⟨1, .data⟩, ⟨2, .data⟩, ⟨3, .data⟩], none⟩) rfl (fun K hK => ?_) (AllReadyH.nil)
  go_simp
  refine (C14.out _ (by first | assumption | exact BD)).mono ?_
  rintro e m4 ⟨⟨ro, rc, so, sc, rfl, o4, a4⟩, b4⟩
  clear hHeld
  refine hK.out _ _ ?_ (fun hHeld => ?_)
  · (try dsimp only)
    first | exact SK.out _ (by assumption) | exact SK.out _ BD
  clear hK K
  (try simp only [Act.put, List.setIfInBounds_toArray, List.set_cons_zero, List.set_cons_succ])
  refine wpAnyH_ready (rs := [5]) (by kernel_rfl) (by simp) ?_
  refine AllReadyH.cons (o := ⟨some 55, .call { callee := Callee.value (.func 13), args := #[.tmp 50, .tmp 54], argTypes := #[30, 30] }, 4, "laws.go:190", #[⟨0, .data⟩, ⟨4, .data⟩, ⟨4, .chain⟩], none⟩) rfl (fun K hK => ?_) (AllReadyH.nil)
  go_simp
  refine (C13.out m4 ro so rc sc b4 o4 a4).mono ?_
  rintro e m5 ⟨rfl, b5⟩
  clear o4 a4 b4
  clear hHeld
  refine hK.out _ _ ?_ (fun hHeld => ?_)
  · (try dsimp only)
    first | exact SK.out _ (by assumption) | exact SK.out _ BD
  clear hK K
  (try simp only [Act.put, List.setIfInBounds_toArray, List.set_cons_zero, List.set_cons_succ])
  refine wpAnyH_take (i := 6) (oi := ⟨some 56, .unOp UnOp.not 4 (.tmp 55), 4, "laws.go:190", #[⟨5, .data⟩], none⟩) (v := ?_) rfl (by kernel_rfl) (by kernel_rfl) (by kernel_rfl) (fun _ _ _ h => h) (Or.inl ⟨by rfl, ?_⟩) (by assumption) ?_
  rotate_left
  · intro w hSw; (try dsimp only at hSw); go_simp; (try with_reducible rfl)
  (try simp only [Act.put, List.setIfInBounds_toArray, List.set_cons_zero, List.set_cons_succ])
  refine wpAnyH_take (i := 7) (oi := ⟨some 57, .move (.tmp 56), 4, "laws.go:190", #[⟨6, .data⟩, ⟨5, .chain⟩], none⟩) (v := ?_) rfl (by kernel_rfl) (by kernel_rfl) (by kernel_rfl) (fun _ _ _ h => h) (Or.inl ⟨by rfl, ?_⟩) (by assumption) ?_
  rotate_left
  · intro w hSw; (try dsimp only at hSw); go_simp; (try with_reducible rfl)
  (try simp only [Act.put, List.setIfInBounds_toArray, List.set_cons_zero, List.set_cons_succ])
  refine wpAnyH_take (i := 8) (oi := ⟨some 58, .load 30 (.tmp 12), 30, "laws.go:190", #[⟨7, .guard⟩], some (7, false)⟩) (v := ?_) rfl (by kernel_rfl) (by kernel_rfl) (by kernel_rfl) (fun _ _ _ h => h) (Or.inl ⟨by rfl, ?_⟩) (by assumption) ?_
  rotate_left
  · intro w hSw; (try dsimp only at hSw); go_simp; (try with_reducible rfl)
  (try simp only [Act.put, List.setIfInBounds_toArray, List.set_cons_zero, List.set_cons_succ])
  refine wpAnyH_take (i := 9) (oi := ⟨some 59, .load 26 (.tmp 9), 26, "laws.go:190", #[⟨7, .guard⟩], some (7, false)⟩) (v := ?_) rfl (by kernel_rfl) (by kernel_rfl) (by kernel_rfl) (fun _ _ _ h => h) (Or.inl ⟨by rfl, ?_⟩) (by assumption) ?_
  rotate_left
  · intro w hSw; (try dsimp only at hSw); go_simp; (try with_reducible rfl)
  (try simp only [Act.put, List.setIfInBounds_toArray, List.set_cons_zero, List.set_cons_succ])
  refine wpAnyH_take (i := 10) (oi := ⟨some 60, .move (.tmp 10), 9, "laws.go:190", #[⟨7, .guard⟩], some (7, false)⟩) (v := ?_) rfl (by kernel_rfl) (by kernel_rfl) (by kernel_rfl) (fun _ _ _ h => h) (Or.inl ⟨by rfl, ?_⟩) (by assumption) ?_
  rotate_left
  · intro w hSw; (try dsimp only at hSw); go_simp; (try with_reducible rfl)
  (try simp only [Act.put, List.setIfInBounds_toArray, List.set_cons_zero, List.set_cons_succ])
  refine wpAnyH_take (i := 11) (oi := ⟨some 61, .move (.tmp 11), 9, "laws.go:190", #[⟨7, .guard⟩], some (7, false)⟩) (v := ?_) rfl (by kernel_rfl) (by kernel_rfl) (by kernel_rfl) (fun _ _ _ h => h) (Or.inl ⟨by rfl, ?_⟩) (by assumption) ?_
  rotate_left
  · intro w hSw; (try dsimp only at hSw); go_simp; (try with_reducible rfl)
  (try simp only [Act.put, List.setIfInBounds_toArray, List.set_cons_zero, List.set_cons_succ])
  refine wpAnyH_ready (rs := [12]) (by kernel_rfl) (by simp) ?_
  refine AllReadyH.cons (o := ⟨some 62, .call { callee := Callee.value (.func 15), args := #[.tmp 59, .tmp 60, .tmp 61], argTypes := #[26, 9, 9] }, 30, "laws.go:190", #[⟨9, .data⟩, ⟨10, .data⟩, ⟨11, .data⟩, ⟨7, .chain⟩, ⟨7, .guard⟩], some (7, false)⟩) rfl (fun K hK => ?_) (AllReadyH.nil)
  go_simp
  refine (C15.out _ (by first | assumption | exact BD)).mono ?_
  rintro e m12 ⟨⟨ro, rc, so, sc, rfl, o4, a4⟩, b12⟩
  clear b5
  clear hHeld
  refine hK.out _ _ ?_ (fun hHeld => ?_)
  · (try dsimp only)
    first | exact SK.out _ (by assumption) | exact SK.out _ BD
  clear hK K
  (try simp only [Act.put, List.setIfInBounds_toArray, List.set_cons_zero, List.set_cons_succ])
  refine wpAnyH_ready (rs := [13]) (by kernel_rfl) (by simp) ?_
  refine AllReadyH.cons (o := ⟨some 63, .call { callee := Callee.value (.func 13), args := #[.tmp 58, .tmp 62], argTypes := #[30, 30] }, 4, "laws.go:190", #[⟨8, .data⟩, ⟨12, .data⟩, ⟨12, .chain⟩, ⟨7, .guard⟩], some (7, false)⟩) rfl (fun K hK => ?_) (AllReadyH.nil)
  go_simp
  refine (C13b.out m12 ro so rc sc b12 o4 a4).mono ?_
  rintro e m13 ⟨rfl, b13⟩
  clear o4 a4 b12
  clear hHeld
  refine hK.out _ _ ?_ (fun hHeld => ?_)
  · (try dsimp only)
    first | exact SK.out _ (by assumption) | exact SK.out _ BD
  clear hK K
  (try simp only [Act.put, List.setIfInBounds_toArray, List.set_cons_zero, List.set_cons_succ])
  refine wpAnyH_take (i := 14) (oi := ⟨some 64, .unOp UnOp.not 4 (.tmp 63), 4, "laws.go:190", #[⟨13, .data⟩, ⟨7, .guard⟩], some (7, false)⟩) (v := ?_) rfl (by kernel_rfl) (by kernel_rfl) (by kernel_rfl) (fun _ _ _ h => h) (Or.inl ⟨by rfl, ?_⟩) (by assumption) ?_
  rotate_left
  · intro w hSw; (try dsimp only at hSw); go_simp; (try with_reducible rfl)
  (try simp only [Act.put, List.setIfInBounds_toArray, List.set_cons_zero, List.set_cons_succ])
  refine wpAnyH_take (i := 15) (oi := ⟨some 65, .pick (.tmp 57) (.const (Value.bool true)) (.tmp 64), 4, "laws.go:190", #[⟨7, .data⟩, ⟨14, .data⟩], none⟩) (v := ?_) rfl (by kernel_rfl) (by kernel_rfl) (by kernel_rfl) (fun _ _ _ h => h) (Or.inl ⟨by rfl, ?_⟩) (by assumption) ?_
  rotate_left
  · intro w hSw; (try dsimp only at hSw); go_simp; (try with_reducible rfl)
  (try simp only [Act.put, List.setIfInBounds_toArray, List.set_cons_zero, List.set_cons_succ])
  refine wpAnyH_take (i := 16) (oi := ⟨some 66, .move (.tmp 65), 4, "laws.go:190", #[⟨15, .data⟩, ⟨13, .chain⟩], none⟩) (v := ?_) rfl (by kernel_rfl) (by kernel_rfl) (by kernel_rfl) (fun _ _ _ h => h) (Or.inl ⟨by rfl, ?_⟩) (by assumption) ?_
  rotate_left
  · intro w hSw; (try dsimp only at hSw); go_simp; (try with_reducible rfl)
  (try simp only [Act.put, List.setIfInBounds_toArray, List.set_cons_zero, List.set_cons_succ])
  refine wpAnyH_take (i := 17) (oi := ⟨some 67, .load 26 (.tmp 13), 26, "laws.go:190", #[⟨16, .guard⟩], some (16, false)⟩) (v := ?_) rfl (by kernel_rfl) (by kernel_rfl) (by kernel_rfl) (fun _ _ _ h => h) (Or.inl ⟨by rfl, ?_⟩) (by assumption) ?_
  rotate_left
  · intro w hSw; (try dsimp only at hSw); go_simp; (try with_reducible rfl)
  (try simp only [Act.put, List.setIfInBounds_toArray, List.set_cons_zero, List.set_cons_succ])
  refine wpAnyH_take (i := 18) (oi := ⟨some 68, .move (.tmp 14), 9, "laws.go:190", #[⟨16, .guard⟩], some (16, false)⟩) (v := ?_) rfl (by kernel_rfl) (by kernel_rfl) (by kernel_rfl) (fun _ _ _ h => h) (Or.inl ⟨by rfl, ?_⟩) (by assumption) ?_
  rotate_left
  · intro w hSw; (try dsimp only at hSw); go_simp; (try with_reducible rfl)
  (try simp only [Act.put, List.setIfInBounds_toArray, List.set_cons_zero, List.set_cons_succ])
  refine wpAnyH_take (i := 19) (oi := ⟨some 69, .move (.tmp 15), 9, "laws.go:190", #[⟨16, .guard⟩], some (16, false)⟩) (v := ?_) rfl (by kernel_rfl) (by kernel_rfl) (by kernel_rfl) (fun _ _ _ h => h) (Or.inl ⟨by rfl, ?_⟩) (by assumption) ?_
  rotate_left
  · intro w hSw; (try dsimp only at hSw); go_simp; (try with_reducible rfl)
  (try simp only [Act.put, List.setIfInBounds_toArray, List.set_cons_zero, List.set_cons_succ])
  refine wpAnyH_take (i := 21) (oi := ⟨some 71, .load 26 (.tmp 13), 26, "laws.go:190", #[⟨16, .guard⟩], some (16, false)⟩) (v := ?_) rfl (by kernel_rfl) (by kernel_rfl) (by kernel_rfl) (fun _ _ _ h => h) (Or.inl ⟨by rfl, ?_⟩) (by assumption) ?_
  rotate_left
  · intro w hSw; (try dsimp only at hSw); go_simp; (try with_reducible rfl)
  (try simp only [Act.put, List.setIfInBounds_toArray, List.set_cons_zero, List.set_cons_succ])
  refine wpAnyH_take (i := 22) (oi := ⟨some 72, .move (.tmp 14), 9, "laws.go:190", #[⟨16, .guard⟩], some (16, false)⟩) (v := ?_) rfl (by kernel_rfl) (by kernel_rfl) (by kernel_rfl) (fun _ _ _ h => h) (Or.inl ⟨by rfl, ?_⟩) (by assumption) ?_
  rotate_left
  · intro w hSw; (try dsimp only at hSw); go_simp; (try with_reducible rfl)
  (try simp only [Act.put, List.setIfInBounds_toArray, List.set_cons_zero, List.set_cons_succ])
  refine wpAnyH_take (i := 23) (oi := ⟨some 73, .move (.tmp 15), 9, "laws.go:190", #[⟨16, .guard⟩], some (16, false)⟩) (v := ?_) rfl (by kernel_rfl) (by kernel_rfl) (by kernel_rfl) (fun _ _ _ h => h) (Or.inl ⟨by rfl, ?_⟩) (by assumption) ?_
  rotate_left
  · intro w hSw; (try dsimp only at hSw); go_simp; (try with_reducible rfl)
  (try simp only [Act.put, List.setIfInBounds_toArray, List.set_cons_zero, List.set_cons_succ])
  refine wpAnyH_ready (rs := [20]) (by kernel_rfl) (by simp) ?_
  refine AllReadyH.cons (o := ⟨some 70, .call { callee := Callee.value (.func 16), args := #[.tmp 67, .tmp 68, .tmp 69], argTypes := #[26, 9, 9] }, 4, "laws.go:190", #[⟨17, .data⟩, ⟨18, .data⟩, ⟨19, .data⟩, ⟨16, .chain⟩, ⟨16, .guard⟩], some (16, false)⟩) rfl (fun K hK => ?_) (AllReadyH.nil)
  go_simp
  refine (C16.out _ (by first | assumption | exact BD)).mono ?_
  rintro e m20 ⟨rfl, b20⟩
  clear b13
  clear hHeld
  refine hK.out _ _ ?_ (fun hHeld => ?_)
  · (try dsimp only)
    first | exact SK.out _ (by assumption) | exact SK.out _ BD
  clear hK K
  (try simp only [Act.put, List.setIfInBounds_toArray, List.set_cons_zero, List.set_cons_succ])
  refine wpAnyH_ready (rs := [24]) (by kernel_rfl) (by simp) ?_
  refine AllReadyH.cons (o := ⟨some 74, .call { callee := Callee.value (.func 17), args := #[.tmp 71, .tmp 72, .tmp 73], argTypes := #[26, 9, 9] }, 4, "laws.go:190", #[⟨21, .data⟩, ⟨22, .data⟩, ⟨23, .data⟩, ⟨20, .chain⟩, ⟨16, .guard⟩], some (16, false)⟩) rfl (fun K hK => ?_) (AllReadyH.nil)
  go_simp
  refine (C17.out _ (by first | assumption | exact BD)).mono ?_
  rintro e m24 ⟨rfl, b24⟩
  clear b20
  clear hHeld
  refine hK.out _ _ ?_ (fun hHeld => ?_)
  · (try dsimp only)
    first | exact SK.out _ (by assumption) | exact SK.out _ BD
  clear hK K
  (try simp only [Act.put, List.setIfInBounds_toArray, List.set_cons_zero, List.set_cons_succ])
  refine wpAnyH_take (i := 25) (oi := ⟨some 75, .binOp BinOp.neq 4 (.tmp 70) (.tmp 74) 4, 4, "laws.go:190", #[⟨20, .data⟩, ⟨24, .data⟩, ⟨16, .guard⟩], some (16, false)⟩) (v := ?_) rfl (by kernel_rfl) (by kernel_rfl) (by kernel_rfl) (fun _ _ _ h => h) (Or.inl ⟨by rfl, ?_⟩) (by assumption) ?_
  rotate_left
  · intro w hSw; (try dsimp only at hSw); go_simp; (try with_reducible rfl)
  (try simp only [Act.put, List.setIfInBounds_toArray, List.set_cons_zero, List.set_cons_succ])
  refine wpAnyH_take (i := 26) (oi := ⟨some 76, .pick (.tmp 66) (.const (Value.bool true)) (.tmp 75), 4, "laws.go:190", #[⟨16, .data⟩, ⟨25, .data⟩], none⟩) (v := ?_) rfl (by kernel_rfl) (by kernel_rfl) (by kernel_rfl) (fun _ _ _ h => h) (Or.inl ⟨by rfl, ?_⟩) (by assumption) ?_
  rotate_left
  · intro w hSw; (try dsimp only at hSw); go_simp; (try with_reducible rfl)
  (try simp only [Act.put, List.setIfInBounds_toArray, List.set_cons_zero, List.set_cons_succ])
  refine wpAnyH_take (i := 27) (oi := ⟨some 77, .move (.tmp 76), 4, "laws.go:190", #[⟨26, .data⟩, ⟨24, .chain⟩], none⟩) (v := ?_) rfl (by kernel_rfl) (by kernel_rfl) (by kernel_rfl) (fun _ _ _ h => h) (Or.inl ⟨by rfl, ?_⟩) (by assumption) ?_
  rotate_left
  · intro w hSw; (try dsimp only at hSw); go_simp; (try with_reducible rfl)
  (try simp only [Act.put, List.setIfInBounds_toArray, List.set_cons_zero, List.set_cons_succ])
  refine wpAnyH_take (i := 28) (oi := ⟨some 78, .load 26 (.tmp 13), 26, "laws.go:190", #[⟨27, .guard⟩], some (27, false)⟩) (v := ?_) rfl (by kernel_rfl) (by kernel_rfl) (by kernel_rfl) (fun _ _ _ h => h) (Or.inl ⟨by rfl, ?_⟩) (by assumption) ?_
  rotate_left
  · intro w hSw; (try dsimp only at hSw); go_simp; (try with_reducible rfl)
  (try simp only [Act.put, List.setIfInBounds_toArray, List.set_cons_zero, List.set_cons_succ])
  refine wpAnyH_take (i := 30) (oi := ⟨some 80, .load 26 (.tmp 13), 26, "laws.go:190", #[⟨27, .guard⟩], some (27, false)⟩) (v := ?_) rfl (by kernel_rfl) (by kernel_rfl) (by kernel_rfl) (fun _ _ _ h => h) (Or.inl ⟨by rfl, ?_⟩) (by assumption) ?_
  rotate_left
  · intro w hSw; (try dsimp only at hSw); go_simp; (try with_reducible rfl)
  (try simp only [Act.put, List.setIfInBounds_toArray, List.set_cons_zero, List.set_cons_succ])
  refine wpAnyH_ready (rs := [29]) (by kernel_rfl) (by simp) ?_
  refine AllReadyH.cons (o := ⟨some 79, .call { callee := Callee.value (.func 18), args := #[.tmp 78], argTypes := #[26] }, 4, "laws.go:190", #[⟨28, .data⟩, ⟨27, .chain⟩, ⟨27, .guard⟩], some (27, false)⟩) rfl (fun K hK => ?_) (AllReadyH.nil)
  go_simp
  refine (C18.out _ (by first | assumption | exact BD)).mono ?_
  rintro e m29 ⟨rfl, b29⟩
  clear b24
  clear hHeld
  refine hK.out _ _ ?_ (fun hHeld => ?_)
  · (try dsimp only)
    first | exact SK.out _ (by assumption) | exact SK.out _ BD
  clear hK K
  (try simp only [Act.put, List.setIfInBounds_toArray, List.set_cons_zero, List.set_cons_succ])
  refine wpAnyH_ready (rs := [31]) (by kernel_rfl) (by simp) ?_
  refine AllReadyH.cons (o := ⟨some 81, .call { callee := Callee.value (.func 19), args := #[.tmp 80], argTypes := #[26] }, 4, "laws.go:190", #[⟨30, .data⟩, ⟨29, .chain⟩, ⟨27, .guard⟩], some (27, false)⟩) rfl (fun K hK => ?_) (AllReadyH.nil)
  go_simp
  refine (C19.out _ (by first | assumption | exact BD)).mono ?_
  rintro e m31 ⟨rfl, b31⟩
  clear b29
  clear hHeld
  refine hK.out _ _ ?_ (fun hHeld => ?_)
  · (try dsimp only)
    first | exact SK.out _ (by assumption) | exact SK.out _ BD
  clear hK K
  (try simp only [Act.put, List.setIfInBounds_toArray, List.set_cons_zero, List.set_cons_succ])
  refine wpAnyH_take (i := 32) (oi := ⟨some 82, .binOp BinOp.neq 4 (.tmp 79) (.tmp 81) 4, 4, "laws.go:190", #[⟨29, .data⟩, ⟨31, .data⟩, ⟨27, .guard⟩], some (27, false)⟩) (v := ?_) rfl (by kernel_rfl) (by kernel_rfl) (by kernel_rfl) (fun _ _ _ h => h) (Or.inl ⟨by rfl, ?_⟩) (by assumption) ?_
  rotate_left
  · intro w hSw; (try dsimp only at hSw); go_simp; (try with_reducible rfl)
  (try simp only [Act.put, List.setIfInBounds_toArray, List.set_cons_zero, List.set_cons_succ])
  refine wpAnyH_take (i := 33) (oi := ⟨some 83, .pick (.tmp 77) (.const (Value.bool true)) (.tmp 82), 4, "laws.go:190", #[⟨27, .data⟩, ⟨32, .data⟩], none⟩) (v := ?_) rfl (by kernel_rfl) (by kernel_rfl) (by kernel_rfl) (fun _ _ _ h => h) (Or.inl ⟨by rfl, ?_⟩) (by assumption) ?_
  rotate_left
  · intro w hSw; (try dsimp only at hSw); go_simp; (try with_reducible rfl)
  (try simp only [Act.put, List.setIfInBounds_toArray, List.set_cons_zero, List.set_cons_succ])
  refine wpAnyH_done (by kernel_rfl) ?_ _
  clear hHeld
  go_wp2_with fail
  obtain ⟨b7, e7, x7, y7, z7⟩ := HP.out
  have C11y : Hid (k = 0 → ∀ W : World, Below M.heap.size M W → Calls Tryz.prog 11 #[.agg #[.slice po L.length pc, .slice qo U.length qc], .string at', .string wv] W fun e w' => (∃ v u, e = .returned (.agg #[v, u, .int .i64 6])) ∧ Below M.heap.size M w') := Lib.hid (fun hk W h => by
    obtain ⟨hL, hh, hq⟩ := drop_twice (d := f) (D := L) (l := m) (T := U) (nm := at') (val := wv) (by rw [← HQ.out, hk])
    refine (ValueDrop_out po qo L U pc qc at' wv W (z7.dn.below h) (z7.att.below h) (by rw [hL]; exact F3.out) S11.out.2.2 N3.out V3.out).mono ?_
    rw [hL, hq]
    rintro e w' ⟨⟨ro, rc, so, sc, rfl, o, a⟩, b⟩
    exact ⟨⟨_, _, rfl⟩, h.trans (b.mono h.size)⟩)
  have C16y : Hid (k = 0 → ∀ W : World, Below M.heap.size M W → Calls Tryz.prog 16 #[.agg #[.slice po L.length pc, .slice qo U.length qc], .string at', .string wv] W fun e w' => e = .returned (.bool false) ∧ Below M.heap.size M w') := Lib.hid (fun hk W h => by
    obtain ⟨hL, hh, hq⟩ := drop_twice (d := f) (D := L) (l := m) (T := U) (nm := at') (val := wv) (by rw [← HQ.out, hk])
    refine (HasValue_any po qo L U pc qc at' wv W (z7.dn.below h) (z7.att.below h) (by rw [hL]; exact F3.out) S11.out.2.2 N3.out V3.out).mono ?_
    rw [hL, hh]
    rintro e w' ⟨rfl, b⟩
    exact ⟨rfl, h.trans (b.mono h.size)⟩)
  have HX : Hid (c = 0 → D = d ∧ rightB d l = true ∧ rightB d T = true ∧ hasB d T nm val = true ∧ hasB d l nm val = false ∧ dropR d T nm val = (0, d, l)) := Lib.hid (fun hk => add_back (by rw [← HR.out, hk]))
  have C19x : Hid (c = 0 → ∀ W : World, Below M.heap.size M W → Calls Tryz.prog 19 #[.agg #[.slice xo D.length xc, .slice yo T.length yc]] W fun e w' => e = .returned (.bool true) ∧ Below M.heap.size M w') := Lib.hid (fun hk W h => by
    obtain ⟨hD, h1, h2, h3, h4, h5⟩ := HX.out hk
    refine (SpecEntryRight_any xo yo D T xc yc W (x7.dn.below h) (x7.att.below h) (by rw [hD]; exact F1.out) S9.out.2.2).mono ?_
    rw [hD, h2]
    rintro e w' ⟨rfl, b⟩
    exact ⟨rfl, h.trans (b.mono h.size)⟩)
  have C16x : Hid (c = 0 → ∀ W : World, Below M.heap.size M W → Calls Tryz.prog 16 #[.agg #[.slice xo D.length xc, .slice yo T.length yc], .string nm, .string val] W fun e w' => e = .returned (.bool true) ∧ Below M.heap.size M w') := Lib.hid (fun hk W h => by
    obtain ⟨hD, h1, h2, h3, h4, h5⟩ := HX.out hk
    refine (HasValue_any xo yo D T xc yc nm val W (x7.dn.below h) (x7.att.below h) (by rw [hD]; exact F1.out) S9.out.2.2 N1.out V1.out).mono ?_
    rw [hD, h3]
    rintro e w' ⟨rfl, b⟩
    exact ⟨rfl, h.trans (b.mono h.size)⟩)
  have C16e : Hid (c = 0 → ∀ W : World, Below M.heap.size M W → Calls Tryz.prog 16 #[.agg #[.slice vo d.length vc, .slice uo l.length uc], .string nm, .string val] W fun e w' => e = .returned (.bool false) ∧ Below M.heap.size M w') := Lib.hid (fun hk W h => by
    obtain ⟨hD, h1, h2, h3, h4, h5⟩ := HX.out hk
    refine (HasValue_any vo uo d l vc uc nm val W (e7.dn.below h) (e7.att.below h) F1.out G1.out N1.out V1.out).mono ?_
    rw [h4]
    rintro e w' ⟨rfl, b⟩
    exact ⟨rfl, h.trans (b.mono h.size)⟩)
  have C11x : Hid (c = 0 → ∀ W : World, Below M.heap.size M W → Calls Tryz.prog 11 #[.agg #[.slice xo D.length xc, .slice yo T.length yc], .string nm, .string val] W fun e w' => (∃ ro rc so sc, e = .returned (.agg #[.slice ro d.length rc, .slice so l.length sc, .int .i64 0]) ∧ DnAt w' ro d ∧ AttrsAt w' so l) ∧ Below M.heap.size M w') := Lib.hid (fun hk W h => by
    obtain ⟨hD, h1, h2, h3, h4, h5⟩ := HX.out hk
    refine (ValueDrop_out xo yo D T xc yc nm val W (x7.dn.below h) (x7.att.below h) (by rw [hD]; exact F1.out) S9.out.2.2 N1.out V1.out).mono ?_
    rw [hD, h5]
    rintro e w' ⟨⟨ro, rc, so, sc, rfl, o, a⟩, b⟩
    exact ⟨⟨ro, rc, so, sc, rfl, own_dn o, (attrsMk_of a 1).attrs⟩, h.trans (b.mono h.size)⟩)
  have C13x : Hid (∀ (W : World) (ro so : Option Addr) (rc sc : Nat), Below M.heap.size M W → DnAt W ro d → AttrsAt W so l → Calls Tryz.prog 13 #[.agg #[.slice ro d.length rc, .slice so l.length sc, .int .i64 0], .agg #[.slice vo d.length vc, .slice uo l.length uc, .int .i64 0]] W fun e w' => e = .returned (.bool true) ∧ Below M.heap.size M w') := Lib.hid (fun W ro so rc sc h o a => by
    refine (lwEntryOut_same ro so vo uo rc sc vc uc 0 d l W o a (e7.dn.below h) (e7.att.below h) F1.out.1 G1.out).mono ?_
    rintro e w' ⟨rfl, b⟩
    exact ⟨rfl, h.trans (b.mono h.size)⟩)
  have BW := Lib.hid b7
  clear HP b7 e7 x7 y7 z7 C14 C15 C13 C13b C16 C17 C18 C19
  have BE := b31.drew
  by_cases hc0 : c = 0
  · subst hc0
    refine wp_region_held_drew (S := (fun Z' => (Z'.cell? ⟨E, 0, none⟩ = some (.slice vo d.length vc) ∧ Z'.cell? ⟨E, 1, none⟩ = some (.slice uo l.length uc)) ∧ (Z'.cell? ⟨X, 0, none⟩ = some (.slice xo D.length xc) ∧ Z'.cell? ⟨X, 1, none⟩ = some (.slice yo T.length yc) ∧ Z'.cell? ⟨X, 2, none⟩ = some (.int .i64 0)) ∧ (Z'.cell? ⟨Y, 0, none⟩ = some (.slice fo f.length fc) ∧ Z'.cell? ⟨Y, 1, none⟩ = some (.slice go' m.length gc)) ∧ (Z'.cell? ⟨Z, 0, none⟩ = some (.slice po L.length pc) ∧ Z'.cell? ⟨Z, 1, none⟩ = some (.slice qo U.length qc) ∧ Z'.cell? ⟨Z, 2, none⟩ = some (.int .i64 k)) ∧ (Z'.cell? ⟨I, 0, none⟩ = some (.slice ho g.length hc) ∧ Z'.cell? ⟨I, 1, none⟩ = some (.slice io n.length ic)))) (by kernel_rfl) ?_ (fun hHeld => ?_)
    · (try dsimp only)
      first | exact SK.out _ (by assumption) | exact SK.out _ BE
    refine wpAnyH_take (i := 0) (oi := ⟨some 84, .fieldAddr 30 (.tmp 8) 1, 0, "laws.go:193", #[], none⟩) (v := ?_) rfl (by kernel_rfl) (by kernel_rfl) (by kernel_rfl) (fun _ _ _ h => h) (Or.inl ⟨by rfl, ?_⟩) (by assumption) ?_
    rotate_left
    · intro w hSw; (try dsimp only at hSw); go_simp; (try with_reducible rfl)
    (try simp only [Act.put, List.setIfInBounds_toArray, List.set_cons_zero, List.set_cons_succ])
    refine wpAnyH_take (i := 1) (oi := ⟨some 85, .load 2 (.tmp 84), 2, "laws.go:193", #[⟨0, .data⟩], none⟩) (v := ?_) rfl (by kernel_rfl) (by kernel_rfl) (by kernel_rfl) (fun _ _ _ h => h) (Or.inl ⟨by rfl, ?_⟩) (by assumption) ?_
    rotate_left
    · intro w hSw; (try dsimp only at hSw); go_simp; (try with_reducible rfl)
    (try simp only [Act.put, List.setIfInBounds_toArray, List.set_cons_zero, List.set_cons_succ])
    refine wpAnyH_take (i := 2) (oi := ⟨some 86, .binOp BinOp.eql 2 (.tmp 85) (.const (Value.int IntKind.i64 0)) 2, 4, "laws.go:193", #[⟨1, .data⟩], none⟩) (v := ?_) rfl (by kernel_rfl) (by kernel_rfl) (by kernel_rfl) (fun _ _ _ h => h) (Or.inl ⟨by rfl, ?_⟩) (by assumption) ?_
    rotate_left
    · intro w hSw; (try dsimp only at hSw); go_simp; (try with_reducible rfl)
    (try simp only [Act.put, List.setIfInBounds_toArray, List.set_cons_zero, List.set_cons_succ])
    refine wpAnyH_take (i := 3) (oi := ⟨some 87, .move (.tmp 86), 4, "laws.go:193", #[⟨2, .data⟩], none⟩) (v := ?_) rfl (by kernel_rfl) (by kernel_rfl) (by kernel_rfl) (fun _ _ _ h => h) (Or.inl ⟨by rfl, ?_⟩) (by assumption) ?_
    rotate_left
    · intro w hSw; (try dsimp only at hSw); go_simp; (try with_reducible rfl)
    (try simp only [Act.put, List.setIfInBounds_toArray, List.set_cons_zero, List.set_cons_succ])
    refine wpAnyH_take (i := 4) (oi := ⟨some 88, .fieldAddr 30 (.tmp 8) 0, 0, "laws.go:193", #[⟨3, .guard⟩], some (3, true)⟩) (v := ?_) rfl (by kernel_rfl) (by kernel_rfl) (by kernel_rfl) (fun _ _ _ h => h) (Or.inl ⟨by rfl, ?_⟩) (by assumption) ?_
    rotate_left
    · intro w hSw; (try dsimp only at hSw); go_simp; (try with_reducible rfl)
    (try simp only [Act.put, List.setIfInBounds_toArray, List.set_cons_zero, List.set_cons_succ])
    refine wpAnyH_take (i := 5) (oi := ⟨some 89, .load 26 (.tmp 88), 26, "laws.go:193", #[⟨4, .data⟩, ⟨3, .guard⟩], some (3, true)⟩) (v := ?_) rfl (by kernel_rfl) (by kernel_rfl) (by kernel_rfl) (fun _ _ _ h => h) (Or.inl ⟨by rfl, ?_⟩) (by assumption) ?_
    rotate_left
    · intro w hSw; (try dsimp only at hSw); go_simp; (try with_reducible rfl)
    (try simp only [Act.put, List.setIfInBounds_toArray, List.set_cons_zero, List.set_cons_succ])
    refine wpAnyH_ready (rs := [6]) (by kernel_rfl) (by simp) ?_
    refine AllReadyH.cons (o := ⟨some 90, .call { callee := Callee.value (.func 19), args := #[.tmp 89], argTypes := #[26] }, 4, "laws.go:193", #[⟨5, .data⟩, ⟨3, .chain⟩, ⟨3, .guard⟩], some (3, true)⟩) rfl (fun K hK => ?_) (AllReadyH.nil)
    go_simp
    refine (C19x.out rfl _ (by first | assumption | exact BE)).mono ?_
    rintro e n6 ⟨rfl, d6⟩
    clear hHeld
    refine hK.out _ _ ?_ (fun hHeld => ?_)
    · (try dsimp only)
      first | exact SK.out _ (by assumption) | exact SK.out _ BE
    clear hK K
    (try simp only [Act.put, List.setIfInBounds_toArray, List.set_cons_zero, List.set_cons_succ])
    refine wpAnyH_take (i := 7) (oi := ⟨some 91, .unOp UnOp.not 4 (.tmp 90), 4, "laws.go:193", #[⟨6, .data⟩, ⟨3, .guard⟩], some (3, true)⟩) (v := ?_) rfl (by kernel_rfl) (by kernel_rfl) (by kernel_rfl) (fun _ _ _ h => h) (Or.inl ⟨by rfl, ?_⟩) (by assumption) ?_
    rotate_left
    · intro w hSw; (try dsimp only at hSw); go_simp; (try with_reducible rfl)
    (try simp only [Act.put, List.setIfInBounds_toArray, List.set_cons_zero, List.set_cons_succ])
    refine wpAnyH_take (i := 8) (oi := ⟨some 92, .move (.tmp 91), 4, "laws.go:193", #[⟨7, .data⟩, ⟨6, .chain⟩, ⟨3, .guard⟩], some (3, true)⟩) (v := ?_) rfl (by kernel_rfl) (by kernel_rfl) (by kernel_rfl) (fun _ _ _ h => h) (Or.inl ⟨by rfl, ?_⟩) (by assumption) ?_
    rotate_left
    · intro w hSw; (try dsimp only at hSw); go_simp; (try with_reducible rfl)
    (try simp only [Act.put, List.setIfInBounds_toArray, List.set_cons_zero, List.set_cons_succ])
    refine wpAnyH_take (i := 9) (oi := ⟨some 93, .fieldAddr 30 (.tmp 8) 0, 0, "laws.go:193", #[⟨8, .guard⟩], some (8, false)⟩) (v := ?_) rfl (by kernel_rfl) (by kernel_rfl) (by kernel_rfl) (fun _ _ _ h => h) (Or.inl ⟨by rfl, ?_⟩) (by assumption) ?_
    rotate_left
    · intro w hSw; (try dsimp only at hSw); go_simp; (try with_reducible rfl)
    (try simp only [Act.put, List.setIfInBounds_toArray, List.set_cons_zero, List.set_cons_succ])
    refine wpAnyH_take (i := 10) (oi := ⟨some 94, .load 26 (.tmp 93), 26, "laws.go:193", #[⟨9, .data⟩, ⟨8, .guard⟩], some (8, false)⟩) (v := ?_) rfl (by kernel_rfl) (by kernel_rfl) (by kernel_rfl) (fun _ _ _ h => h) (Or.inl ⟨by rfl, ?_⟩) (by assumption) ?_
    rotate_left
    · intro w hSw; (try dsimp only at hSw); go_simp; (try with_reducible rfl)
    (try simp only [Act.put, List.setIfInBounds_toArray, List.set_cons_zero, List.set_cons_succ])
    refine wpAnyH_take (i := 11) (oi := ⟨some 95, .move (.tmp 6), 9, "laws.go:193", #[⟨8, .guard⟩], some (8, false)⟩) (v := ?_) rfl (by kernel_rfl) (by kernel_rfl) (by kernel_rfl) (fun _ _ _ h => h) (Or.inl ⟨by rfl, ?_⟩) (by assumption) ?_
    rotate_left
    · intro w hSw; (try dsimp only at hSw); go_simp; (try with_reducible rfl)
    (try simp only [Act.put, List.setIfInBounds_toArray, List.set_cons_zero, List.set_cons_succ])
    refine wpAnyH_take (i := 12) (oi := ⟨some 96, .move (.tmp 7), 9, "laws.go:193", #[⟨8, .guard⟩], some (8, false)⟩) (v := ?_) rfl (by kernel_rfl) (by kernel_rfl) (by kernel_rfl) (fun _ _ _ h => h) (Or.inl ⟨by rfl, ?_⟩) (by assumption) ?_
    rotate_left
    · intro w hSw; (try dsimp only at hSw); go_simp; (try with_reducible rfl)
    (try simp only [Act.put, List.setIfInBounds_toArray, List.set_cons_zero, List.set_cons_succ])
    refine wpAnyH_ready (rs := [13]) (by kernel_rfl) (by simp) ?_
    refine AllReadyH.cons (o := ⟨some 97, .call { callee := Callee.value (.func 16), args := #[.tmp 94, .tmp 95, .tmp 96], argTypes := #[26, 9, 9] }, 4, "laws.go:193", #[⟨10, .data⟩, ⟨11, .data⟩, ⟨12, .data⟩, ⟨8, .chain⟩, ⟨8, .guard⟩], some (8, false)⟩) rfl (fun K hK => ?_) (AllReadyH.nil)
    go_simp
    refine (C16x.out rfl _ (by first | assumption | exact BE)).mono ?_
    rintro e n13 ⟨rfl, d13⟩
    clear d6
    clear hHeld
    refine hK.out _ _ ?_ (fun hHeld => ?_)
    · (try dsimp only)
      first | exact SK.out _ (by assumption) | exact SK.out _ BE
    clear hK K
    (try simp only [Act.put, List.setIfInBounds_toArray, List.set_cons_zero, List.set_cons_succ])
    refine wpAnyH_take (i := 14) (oi := ⟨some 98, .unOp UnOp.not 4 (.tmp 97), 4, "laws.go:193", #[⟨13, .data⟩, ⟨8, .guard⟩], some (8, false)⟩) (v := ?_) rfl (by kernel_rfl) (by kernel_rfl) (by kernel_rfl) (fun _ _ _ h => h) (Or.inl ⟨by rfl, ?_⟩) (by assumption) ?_
    rotate_left
    · intro w hSw; (try dsimp only at hSw); go_simp; (try with_reducible rfl)
    (try simp only [Act.put, List.setIfInBounds_toArray, List.set_cons_zero, List.set_cons_succ])
    refine wpAnyH_take (i := 15) (oi := ⟨some 99, .pick (.tmp 92) (.const (Value.bool true)) (.tmp 98), 4, "laws.go:193", #[⟨8, .data⟩, ⟨14, .data⟩, ⟨3, .guard⟩], some (3, true)⟩) (v := ?_) rfl (by kernel_rfl) (by kernel_rfl) (by kernel_rfl) (fun _ _ _ h => h) (Or.inl ⟨by rfl, ?_⟩) (by assumption) ?_
    rotate_left
    · intro w hSw; (try dsimp only at hSw); go_simp; (try with_reducible rfl)
    (try simp only [Act.put, List.setIfInBounds_toArray, List.set_cons_zero, List.set_cons_succ])
    refine wpAnyH_take (i := 16) (oi := ⟨some 100, .move (.tmp 99), 4, "laws.go:193", #[⟨15, .data⟩, ⟨13, .chain⟩, ⟨3, .guard⟩], some (3, true)⟩) (v := ?_) rfl (by kernel_rfl) (by kernel_rfl) (by kernel_rfl) (fun _ _ _ h => h) (Or.inl ⟨by rfl, ?_⟩) (by assumption) ?_
    rotate_left
    · intro w hSw; (try dsimp only at hSw); go_simp; (try with_reducible rfl)
    (try simp only [Act.put, List.setIfInBounds_toArray, List.set_cons_zero, List.set_cons_succ])
    refine wpAnyH_take (i := 17) (oi := ⟨some 101, .load 26 (.tmp 5), 26, "laws.go:193", #[⟨16, .guard⟩], some (16, false)⟩) (v := ?_) rfl (by kernel_rfl) (by kernel_rfl) (by kernel_rfl) (fun _ _ _ h => h) (Or.inl ⟨by rfl, ?_⟩) (by assumption) ?_
    rotate_left
    · intro w hSw; (try dsimp only at hSw); go_simp; (try with_reducible rfl)
    (try simp only [Act.put, List.setIfInBounds_toArray, List.set_cons_zero, List.set_cons_succ])
    refine wpAnyH_take (i := 18) (oi := ⟨some 102, .move (.tmp 6), 9, "laws.go:193", #[⟨16, .guard⟩], some (16, false)⟩) (v := ?_) rfl (by kernel_rfl) (by kernel_rfl) (by kernel_rfl) (fun _ _ _ h => h) (Or.inl ⟨by rfl, ?_⟩) (by assumption) ?_
    rotate_left
    · intro w hSw; (try dsimp only at hSw); go_simp; (try with_reducible rfl)
    (try simp only [Act.put, List.setIfInBounds_toArray, List.set_cons_zero, List.set_cons_succ])
    refine wpAnyH_take (i := 19) (oi := ⟨some 103, .move (.tmp 7), 9, "laws.go:193", #[⟨16, .guard⟩], some (16, false)⟩) (v := ?_) rfl (by kernel_rfl) (by kernel_rfl) (by kernel_rfl) (fun _ _ _ h => h) (Or.inl ⟨by rfl, ?_⟩) (by assumption) ?_
    rotate_left
    · intro w hSw; (try dsimp only at hSw); go_simp; (try with_reducible rfl)
    (try simp only [Act.put, List.setIfInBounds_toArray, List.set_cons_zero, List.set_cons_succ])
    refine wpAnyH_ready (rs := [20]) (by kernel_rfl) (by simp) ?_
    refine AllReadyH.cons (o := ⟨some 104, .call { callee := Callee.value (.func 16), args := #[.tmp 101, .tmp 102, .tmp 103], argTypes := #[26, 9, 9] }, 4, "laws.go:193", #[⟨17, .data⟩, ⟨18, .data⟩, ⟨19, .data⟩, ⟨16, .chain⟩, ⟨16, .guard⟩], some (16, false)⟩) rfl (fun K hK => ?_) (AllReadyH.nil)
    go_simp
    refine (C16e.out rfl _ (by first | assumption | exact BE)).mono ?_
    rintro e n20 ⟨rfl, d20⟩
    clear d13
    clear hHeld
    refine hK.out _ _ ?_ (fun hHeld => ?_)
    · (try dsimp only)
      first | exact SK.out _ (by assumption) | exact SK.out _ BE
    clear hK K
    (try simp only [Act.put, List.setIfInBounds_toArray, List.set_cons_zero, List.set_cons_succ])
    refine wpAnyH_take (i := 21) (oi := ⟨some 105, .pick (.tmp 100) (.const (Value.bool true)) (.tmp 104), 4, "laws.go:193", #[⟨16, .data⟩, ⟨20, .data⟩, ⟨3, .guard⟩], some (3, true)⟩) (v := ?_) rfl (by kernel_rfl) (by kernel_rfl) (by kernel_rfl) (fun _ _ _ h => h) (Or.inl ⟨by rfl, ?_⟩) (by assumption) ?_
    rotate_left
    · intro w hSw; (try dsimp only at hSw); go_simp; (try with_reducible rfl)
    (try simp only [Act.put, List.setIfInBounds_toArray, List.set_cons_zero, List.set_cons_succ])
    refine wpAnyH_take (i := 22) (oi := ⟨some 106, .move (.tmp 105), 4, "laws.go:193", #[⟨21, .data⟩, ⟨20, .chain⟩, ⟨3, .guard⟩], some (3, true)⟩) (v := ?_) rfl (by kernel_rfl) (by kernel_rfl) (by kernel_rfl) (fun _ _ _ h => h) (Or.inl ⟨by rfl, ?_⟩) (by assumption) ?_
    rotate_left
    · intro w hSw; (try dsimp only at hSw); go_simp; (try with_reducible rfl)
    (try simp only [Act.put, List.setIfInBounds_toArray, List.set_cons_zero, List.set_cons_succ])
    refine wpAnyH_take (i := 23) (oi := ⟨some 107, .fieldAddr 30 (.tmp 8) 0, 0, "laws.go:193", #[⟨22, .guard⟩], some (22, false)⟩) (v := ?_) rfl (by kernel_rfl) (by kernel_rfl) (by kernel_rfl) (fun _ _ _ h => h) (Or.inl ⟨by rfl, ?_⟩) (by assumption) ?_
    rotate_left
    · intro w hSw; (try dsimp only at hSw); go_simp; (try with_reducible rfl)
    (try simp only [Act.put, List.setIfInBounds_toArray, List.set_cons_zero, List.set_cons_succ])
    refine wpAnyH_take (i := 24) (oi := ⟨some 108, .load 26 (.tmp 107), 26, "laws.go:193", #[⟨23, .data⟩, ⟨22, .guard⟩], some (22, false)⟩) (v := ?_) rfl (by kernel_rfl) (by kernel_rfl) (by kernel_rfl) (fun _ _ _ h => h) (Or.inl ⟨by rfl, ?_⟩) (by assumption) ?_
    rotate_left
    · intro w hSw; (try dsimp only at hSw); go_simp; (try with_reducible rfl)
    (try simp only [Act.put, List.setIfInBounds_toArray, List.set_cons_zero, List.set_cons_succ])
    refine wpAnyH_take (i := 25) (oi := ⟨some 109, .move (.tmp 6), 9, "laws.go:193", #[⟨22, .guard⟩], some (22, false)⟩) (v := ?_) rfl (by kernel_rfl) (by kernel_rfl) (by kernel_rfl) (fun _ _ _ h => h) (Or.inl ⟨by rfl, ?_⟩) (by assumption) ?_
    rotate_left
    · intro w hSw; (try dsimp only at hSw); go_simp; (try with_reducible rfl)
    (try simp only [Act.put, List.setIfInBounds_toArray, List.set_cons_zero, List.set_cons_succ])
    refine wpAnyH_take (i := 26) (oi := ⟨some 110, .move (.tmp 7), 9, "laws.go:193", #[⟨22, .guard⟩], some (22, false)⟩) (v := ?_) rfl (by kernel_rfl) (by kernel_rfl) (by kernel_rfl) (fun _ _ _ h => h) (Or.inl ⟨by rfl, ?_⟩) (by assumption) ?_
    rotate_left
    · intro w hSw; (try dsimp only at hSw); go_simp; (try with_reducible rfl)
    (try simp only [Act.put, List.setIfInBounds_toArray, List.set_cons_zero, List.set_cons_succ])
    refine wpAnyH_take (i := 28) (oi := ⟨some 112, .load 26 (.tmp 5), 26, "laws.go:193", #[⟨22, .guard⟩], some (22, false)⟩) (v := ?_) rfl (by kernel_rfl) (by kernel_rfl) (by kernel_rfl) (fun _ _ _ h => h) (Or.inl ⟨by rfl, ?_⟩) (by assumption) ?_
    rotate_left
    · intro w hSw; (try dsimp only at hSw); go_simp; (try with_reducible rfl)
    (try simp only [Act.put, List.setIfInBounds_toArray, List.set_cons_zero, List.set_cons_succ])
    refine wpAnyH_take (i := 29) (oi := ⟨some 113, .build 30 #[(0, .tmp 112)], 30, "laws.go:193", #[⟨28, .data⟩, ⟨22, .guard⟩], some (22, false)⟩) (v := ?_) rfl (by kernel_rfl) (by kernel_rfl) (by kernel_rfl) (fun _ _ _ h => h) (Or.inl ⟨by rfl, ?_⟩) (by assumption) ?_
    rotate_left
    · intro w hSw; (try dsimp only at hSw); go_simp; (try with_reducible rfl)
    (try simp only [Act.put, List.setIfInBounds_toArray, List.set_cons_zero, List.set_cons_succ])
    refine wpAnyH_ready (rs := [27]) (by kernel_rfl) (by simp) ?_
    refine AllReadyH.cons (o := ⟨some 111, .call { callee := Callee.value (.func 11), args := #[.tmp 108, .tmp 109, .tmp 110], argTypes := #[26, 9, 9] }, 30, "laws.go:193", #[⟨24, .data⟩, ⟨25, .data⟩, ⟨26, .data⟩, ⟨22, .chain⟩, ⟨22, .guard⟩], some (22, false)⟩) rfl (fun K hK => ?_) (AllReadyH.nil)
    go_simp
    refine (C11x.out rfl _ (by first | assumption | exact BE)).mono ?_
    rintro e n27 ⟨⟨ro, rc, so, sc, rfl, o4, a4⟩, d27⟩
    clear d20
    clear hHeld
    refine hK.out _ _ ?_ (fun hHeld => ?_)
    · (try dsimp only)
      first | exact SK.out _ (by assumption) | exact SK.out _ BE
    clear hK K
    (try simp only [Act.put, List.setIfInBounds_toArray, List.set_cons_zero, List.set_cons_succ])
    refine wpAnyH_ready (rs := [30]) (by kernel_rfl) (by simp) ?_
    refine AllReadyH.cons (o := ⟨some 114, .call { callee := Callee.value (.func 13), args := #[.tmp 111, .tmp 113], argTypes := #[30, 30] }, 4, "laws.go:193", #[⟨27, .data⟩, ⟨29, .data⟩, ⟨27, .chain⟩, ⟨22, .guard⟩], some (22, false)⟩) rfl (fun K hK => ?_) (AllReadyH.nil)
    go_simp
    refine (C13x.out n27 ro so rc sc d27 o4 a4).mono ?_
    rintro e n30 ⟨rfl, d30⟩
    clear o4 a4 d27
    clear hHeld
    refine hK.out _ _ ?_ (fun hHeld => ?_)
    · (try dsimp only)
      first | exact SK.out _ (by assumption) | exact SK.out _ BE
    clear hK K
    (try simp only [Act.put, List.setIfInBounds_toArray, List.set_cons_zero, List.set_cons_succ])
    refine wpAnyH_take (i := 31) (oi := ⟨some 115, .unOp UnOp.not 4 (.tmp 114), 4, "laws.go:193", #[⟨30, .data⟩, ⟨22, .guard⟩], some (22, false)⟩) (v := ?_) rfl (by kernel_rfl) (by kernel_rfl) (by kernel_rfl) (fun _ _ _ h => h) (Or.inl ⟨by rfl, ?_⟩) (by assumption) ?_
    rotate_left
    · intro w hSw; (try dsimp only at hSw); go_simp; (try with_reducible rfl)
    (try simp only [Act.put, List.setIfInBounds_toArray, List.set_cons_zero, List.set_cons_succ])
    refine wpAnyH_take (i := 32) (oi := ⟨some 116, .pick (.tmp 106) (.const (Value.bool true)) (.tmp 115), 4, "laws.go:193", #[⟨22, .data⟩, ⟨31, .data⟩, ⟨3, .guard⟩], some (3, true)⟩) (v := ?_) rfl (by kernel_rfl) (by kernel_rfl) (by kernel_rfl) (fun _ _ _ h => h) (Or.inl ⟨by rfl, ?_⟩) (by assumption) ?_
    rotate_left
    · intro w hSw; (try dsimp only at hSw); go_simp; (try with_reducible rfl)
    (try simp only [Act.put, List.setIfInBounds_toArray, List.set_cons_zero, List.set_cons_succ])
    refine wpAnyH_take (i := 33) (oi := ⟨some 117, .pick (.tmp 87) (.tmp 116) (.const (Value.bool false)), 4, "laws.go:193", #[⟨3, .data⟩, ⟨32, .data⟩], none⟩) (v := ?_) rfl (by kernel_rfl) (by kernel_rfl) (by kernel_rfl) (fun _ _ _ h => h) (Or.inl ⟨by rfl, ?_⟩) (by assumption) ?_
    rotate_left
    · intro w hSw; (try dsimp only at hSw); go_simp; (try with_reducible rfl)
    (try simp only [Act.put, List.setIfInBounds_toArray, List.set_cons_zero, List.set_cons_succ])
    refine wpAnyH_done (by kernel_rfl) ?_ _
    clear hHeld
    obtain ⟨_, _, _, ⟨z0, z1, z2⟩, _⟩ := SK.out _ d30
    have BZ := Lib.hid (d30)
    by_cases hk : k = 0
    · subst hk
      go_wp2_with fail
      refine (C11y.out (by first | rfl | trivial) _ BZ.out).mono ?_
      rintro e y1 ⟨⟨v, u, rfl⟩, bz1⟩
      obtain ⟨_, _, _, ⟨z0', z1', z2'⟩, _⟩ := SK.out _ bz1
      have BZ1 := Lib.hid bz1
      have hfc := field30c
      clear bz1
      go_wp2_with fail
      refine (C16y.out (by first | rfl | trivial) _ BZ1.out).mono ?_
      rintro e y2 ⟨rfl, bz2⟩
      have BZ2 := Lib.hid (BW.out.trans (bz2.mono BW.out.size))
      clear bz2
      go_wp2
      go_ret
      exact ⟨rfl, BZ2.out⟩
    · have hk' : (k == 0) = false := by simpa using hk
      have BZ2 := Lib.hid (BW.out.trans (BZ.out.mono BW.out.size))
      go_wp2
      go_ret
      exact ⟨rfl, BZ2.out⟩
  · have hc1 : (c == 0) = false := by simpa using hc0
    refine wp_region_held_drew (S := (fun Z' => (Z'.cell? ⟨E, 0, none⟩ = some (.slice vo d.length vc) ∧ Z'.cell? ⟨E, 1, none⟩ = some (.slice uo l.length uc)) ∧ (Z'.cell? ⟨X, 0, none⟩ = some (.slice xo D.length xc) ∧ Z'.cell? ⟨X, 1, none⟩ = some (.slice yo T.length yc) ∧ Z'.cell? ⟨X, 2, none⟩ = some (.int .i64 c)) ∧ (Z'.cell? ⟨Y, 0, none⟩ = some (.slice fo f.length fc) ∧ Z'.cell? ⟨Y, 1, none⟩ = some (.slice go' m.length gc)) ∧ (Z'.cell? ⟨Z, 0, none⟩ = some (.slice po L.length pc) ∧ Z'.cell? ⟨Z, 1, none⟩ = some (.slice qo U.length qc) ∧ Z'.cell? ⟨Z, 2, none⟩ = some (.int .i64 k)) ∧ (Z'.cell? ⟨I, 0, none⟩ = some (.slice ho g.length hc) ∧ Z'.cell? ⟨I, 1, none⟩ = some (.slice io n.length ic)))) (by kernel_rfl) ?_ (fun hHeld => ?_)
    · (try dsimp only)
      first | exact SK.out _ (by assumption) | exact SK.out _ BE
    refine wpAnyH_take (i := 0) (oi := ⟨some 84, .fieldAddr 30 (.tmp 8) 1, 0, "laws.go:193", #[], none⟩) (v := ?_) rfl (by kernel_rfl) (by kernel_rfl) (by kernel_rfl) (fun _ _ _ h => h) (Or.inl ⟨by rfl, ?_⟩) (by assumption) ?_
    rotate_left
    · intro w hSw; (try dsimp only at hSw); go_simp; (try with_reducible rfl)
    (try simp only [Act.put, List.setIfInBounds_toArray, List.set_cons_zero, List.set_cons_succ])
    refine wpAnyH_take (i := 1) (oi := ⟨some 85, .load 2 (.tmp 84), 2, "laws.go:193", #[⟨0, .data⟩], none⟩) (v := ?_) rfl (by kernel_rfl) (by kernel_rfl) (by kernel_rfl) (fun _ _ _ h => h) (Or.inl ⟨by rfl, ?_⟩) (by assumption) ?_
    rotate_left
    · intro w hSw; (try dsimp only at hSw); go_simp; (try with_reducible rfl)
    (try simp only [Act.put, List.setIfInBounds_toArray, List.set_cons_zero, List.set_cons_succ])
    refine wpAnyH_take (i := 2) (oi := ⟨some 86, .binOp BinOp.eql 2 (.tmp 85) (.const (Value.int IntKind.i64 0)) 2, 4, "laws.go:193", #[⟨1, .data⟩], none⟩) (v := ?_) rfl (by kernel_rfl) (by kernel_rfl) (by kernel_rfl) (fun _ _ _ h => h) (Or.inl ⟨by rfl, ?_⟩) (by assumption) ?_
    rotate_left
    · intro w hSw; (try dsimp only at hSw); go_simp; (try with_reducible rfl)
    (try simp only [Act.put, List.setIfInBounds_toArray, List.set_cons_zero, List.set_cons_succ])
    refine wpAnyH_take (i := 3) (oi := ⟨some 87, .move (.tmp 86), 4, "laws.go:193", #[⟨2, .data⟩], none⟩) (v := ?_) rfl (by kernel_rfl) (by kernel_rfl) (by kernel_rfl) (fun _ _ _ h => h) (Or.inl ⟨by rfl, ?_⟩) (by assumption) ?_
    rotate_left
    · intro w hSw; (try dsimp only at hSw); go_simp; (try with_reducible rfl)
    (try simp only [Act.put, List.setIfInBounds_toArray, List.set_cons_zero, List.set_cons_succ])
    refine wpAnyH_take (i := 4) (oi := ⟨some 88, .fieldAddr 30 (.tmp 8) 0, 0, "laws.go:193", #[⟨3, .guard⟩], some (3, true)⟩) (v := undef) rfl (by kernel_rfl) (by kernel_rfl) (by kernel_rfl) (fun _ _ _ h => h) (Or.inr ⟨by rfl, rfl⟩) (by assumption) ?_
    (try simp only [Act.put, List.setIfInBounds_toArray, List.set_cons_zero, List.set_cons_succ])
    refine wpAnyH_take (i := 5) (oi := ⟨some 89, .load 26 (.tmp 88), 26, "laws.go:193", #[⟨4, .data⟩, ⟨3, .guard⟩], some (3, true)⟩) (v := undef) rfl (by kernel_rfl) (by kernel_rfl) (by kernel_rfl) (fun _ _ _ h => h) (Or.inr ⟨by rfl, rfl⟩) (by assumption) ?_
    (try simp only [Act.put, List.setIfInBounds_toArray, List.set_cons_zero, List.set_cons_succ])
    refine wpAnyH_take (i := 6) (oi := ⟨some 90, .call { callee := Callee.value (.func 19), args := #[.tmp 89], argTypes := #[26] }, 4, "laws.go:193", #[⟨5, .data⟩, ⟨3, .chain⟩, ⟨3, .guard⟩], some (3, true)⟩) (v := undef) rfl (by kernel_rfl) (by kernel_rfl) (by kernel_rfl) (fun _ _ _ h => h) (Or.inr ⟨by rfl, rfl⟩) (by assumption) ?_
    (try simp only [Act.put, List.setIfInBounds_toArray, List.set_cons_zero, List.set_cons_succ])
    refine wpAnyH_take (i := 7) (oi := ⟨some 91, .unOp UnOp.not 4 (.tmp 90), 4, "laws.go:193", #[⟨6, .data⟩, ⟨3, .guard⟩], some (3, true)⟩) (v := undef) rfl (by kernel_rfl) (by kernel_rfl) (by kernel_rfl) (fun _ _ _ h => h) (Or.inr ⟨by rfl, rfl⟩) (by assumption) ?_
    (try simp only [Act.put, List.setIfInBounds_toArray, List.set_cons_zero, List.set_cons_succ])
    refine wpAnyH_take (i := 8) (oi := ⟨some 92, .move (.tmp 91), 4, "laws.go:193", #[⟨7, .data⟩, ⟨6, .chain⟩, ⟨3, .guard⟩], some (3, true)⟩) (v := undef) rfl (by kernel_rfl) (by kernel_rfl) (by kernel_rfl) (fun _ _ _ h => h) (Or.inr ⟨by rfl, rfl⟩) (by assumption) ?_
    (try simp only [Act.put, List.setIfInBounds_toArray, List.set_cons_zero, List.set_cons_succ])
    refine wpAnyH_take (i := 9) (oi := ⟨some 93, .fieldAddr 30 (.tmp 8) 0, 0, "laws.go:193", #[⟨8, .guard⟩], some (8, false)⟩) (v := undef) rfl (by kernel_rfl) (by kernel_rfl) (by kernel_rfl) (fun _ _ _ h => h) (Or.inr ⟨by rfl, rfl⟩) (by assumption) ?_
    (try simp only [Act.put, List.setIfInBounds_toArray, List.set_cons_zero, List.set_cons_succ])
    refine wpAnyH_take (i := 10) (oi := ⟨some 94, .load 26 (.tmp 93), 26, "laws.go:193", #[⟨9, .data⟩, ⟨8, .guard⟩], some (8, false)⟩) (v := undef) rfl (by kernel_rfl) (by kernel_rfl) (by kernel_rfl) (fun _ _ _ h => h) (Or.inr ⟨by rfl, rfl⟩) (by assumption) ?_
    (try simp only [Act.put, List.setIfInBounds_toArray, List.set_cons_zero, List.set_cons_succ])
    refine wpAnyH_take (i := 11) (oi := ⟨some 95, .move (.tmp 6), 9, "laws.go:193", #[⟨8, .guard⟩], some (8, false)⟩) (v := undef) rfl (by kernel_rfl) (by kernel_rfl) (by kernel_rfl) (fun _ _ _ h => h) (Or.inr ⟨by rfl, rfl⟩) (by assumption) ?_
    (try simp only [Act.put, List.setIfInBounds_toArray, List.set_cons_zero, List.set_cons_succ])
    refine wpAnyH_take (i := 12) (oi := ⟨some 96, .move (.tmp 7), 9, "laws.go:193", #[⟨8, .guard⟩], some (8, false)⟩) (v := undef) rfl (by kernel_rfl) (by kernel_rfl) (by kernel_rfl) (fun _ _ _ h => h) (Or.inr ⟨by rfl, rfl⟩) (by assumption) ?_
    (try simp only [Act.put, List.setIfInBounds_toArray, List.set_cons_zero, List.set_cons_succ])
    refine wpAnyH_take (i := 13) (oi := ⟨some 97, .call { callee := Callee.value (.func 16), args := #[.tmp 94, .tmp 95, .tmp 96], argTypes := #[26, 9, 9] }, 4, "laws.go:193", #[⟨10, .data⟩, ⟨11, .data⟩, ⟨12, .data⟩, ⟨8, .chain⟩, ⟨8, .guard⟩], some (8, false)⟩) (v := undef) rfl (by kernel_rfl) (by kernel_rfl) (by kernel_rfl) (fun _ _ _ h => h) (Or.inr ⟨by rfl, rfl⟩) (by assumption) ?_
    (try simp only [Act.put, List.setIfInBounds_toArray, List.set_cons_zero, List.set_cons_succ])
    refine wpAnyH_take (i := 14) (oi := ⟨some 98, .unOp UnOp.not 4 (.tmp 97), 4, "laws.go:193", #[⟨13, .data⟩, ⟨8, .guard⟩], some (8, false)⟩) (v := undef) rfl (by kernel_rfl) (by kernel_rfl) (by kernel_rfl) (fun _ _ _ h => h) (Or.inr ⟨by rfl, rfl⟩) (by assumption) ?_
    (try simp only [Act.put, List.setIfInBounds_toArray, List.set_cons_zero, List.set_cons_succ])
    refine wpAnyH_take (i := 15) (oi := ⟨some 99, .pick (.tmp 92) (.const (Value.bool true)) (.tmp 98), 4, "laws.go:193", #[⟨8, .data⟩, ⟨14, .data⟩, ⟨3, .guard⟩], some (3, true)⟩) (v := undef) rfl (by kernel_rfl) (by kernel_rfl) (by kernel_rfl) (fun _ _ _ h => h) (Or.inr ⟨by rfl, rfl⟩) (by assumption) ?_
    (try simp only [Act.put, List.setIfInBounds_toArray, List.set_cons_zero, List.set_cons_succ])
    refine wpAnyH_take (i := 16) (oi := ⟨some 100, .move (.tmp 99), 4, "laws.go:193", #[⟨15, .data⟩, ⟨13, .chain⟩, ⟨3, .guard⟩], some (3, true)⟩) (v := undef) rfl (by kernel_rfl) (by kernel_rfl) (by kernel_rfl) (fun _ _ _ h => h) (Or.inr ⟨by rfl, rfl⟩) (by assumption) ?_
    (try simp only [Act.put, List.setIfInBounds_toArray, List.set_cons_zero, List.set_cons_succ])
    refine wpAnyH_take (i := 17) (oi := ⟨some 101, .load 26 (.tmp 5), 26, "laws.go:193", #[⟨16, .guard⟩], some (16, false)⟩) (v := undef) rfl (by kernel_rfl) (by kernel_rfl) (by kernel_rfl) (fun _ _ _ h => h) (Or.inr ⟨by rfl, rfl⟩) (by assumption) ?_
    (try simp only [Act.put, List.setIfInBounds_toArray, List.set_cons_zero, List.set_cons_succ])
    refine wpAnyH_take (i := 18) (oi := ⟨some 102, .move (.tmp 6), 9, "laws.go:193", #[⟨16, .guard⟩], some (16, false)⟩) (v := undef) rfl (by kernel_rfl) (by kernel_rfl) (by kernel_rfl) (fun _ _ _ h => h) (Or.inr ⟨by rfl, rfl⟩) (by assumption) ?_
    (try simp only [Act.put, List.setIfInBounds_toArray, List.set_cons_zero, List.set_cons_succ])
    refine wpAnyH_take (i := 19) (oi := ⟨some 103, .move (.tmp 7), 9, "laws.go:193", #[⟨16, .guard⟩], some (16, false)⟩) (v := undef) rfl (by kernel_rfl) (by kernel_rfl) (by kernel_rfl) (fun _ _ _ h => h) (Or.inr ⟨by rfl, rfl⟩) (by assumption) ?_
    (try simp only [Act.put, List.setIfInBounds_toArray, List.set_cons_zero, List.set_cons_succ])
    refine wpAnyH_take (i := 20) (oi := ⟨some 104, .call { callee := Callee.value (.func 16), args := #[.tmp 101, .tmp 102, .tmp 103], argTypes := #[26, 9, 9] }, 4, "laws.go:193", #[⟨17, .data⟩, ⟨18, .data⟩, ⟨19, .data⟩, ⟨16, .chain⟩, ⟨16, .guard⟩], some (16, false)⟩) (v := undef) rfl (by kernel_rfl) (by kernel_rfl) (by kernel_rfl) (fun _ _ _ h => h) (Or.inr ⟨by rfl, rfl⟩) (by assumption) ?_
    (try simp only [Act.put, List.setIfInBounds_toArray, List.set_cons_zero, List.set_cons_succ])
    refine wpAnyH_take (i := 21) (oi := ⟨some 105, .pick (.tmp 100) (.const (Value.bool true)) (.tmp 104), 4, "laws.go:193", #[⟨16, .data⟩, ⟨20, .data⟩, ⟨3, .guard⟩], some (3, true)⟩) (v := undef) rfl (by kernel_rfl) (by kernel_rfl) (by kernel_rfl) (fun _ _ _ h => h) (Or.inr ⟨by rfl, rfl⟩) (by assumption) ?_
    (try simp only [Act.put, List.setIfInBounds_toArray, List.set_cons_zero, List.set_cons_succ])
    refine wpAnyH_take (i := 22) (oi := ⟨some 106, .move (.tmp 105), 4, "laws.go:193", #[⟨21, .data⟩, ⟨20, .chain⟩, ⟨3, .guard⟩], some (3, true)⟩) (v := undef) rfl (by kernel_rfl) (by kernel_rfl) (by kernel_rfl) (fun _ _ _ h => h) (Or.inr ⟨by rfl, rfl⟩) (by assumption) ?_
    (try simp only [Act.put, List.setIfInBounds_toArray, List.set_cons_zero, List.set_cons_succ])
    refine wpAnyH_take (i := 23) (oi := ⟨some 107, .fieldAddr 30 (.tmp 8) 0, 0, "laws.go:193", #[⟨22, .guard⟩], some (22, false)⟩) (v := undef) rfl (by kernel_rfl) (by kernel_rfl) (by kernel_rfl) (fun _ _ _ h => h) (Or.inr ⟨by rfl, rfl⟩) (by assumption) ?_
    (try simp only [Act.put, List.setIfInBounds_toArray, List.set_cons_zero, List.set_cons_succ])
    refine wpAnyH_take (i := 24) (oi := ⟨some 108, .load 26 (.tmp 107), 26, "laws.go:193", #[⟨23, .data⟩, ⟨22, .guard⟩], some (22, false)⟩) (v := undef) rfl (by kernel_rfl) (by kernel_rfl) (by kernel_rfl) (fun _ _ _ h => h) (Or.inr ⟨by rfl, rfl⟩) (by assumption) ?_
    (try simp only [Act.put, List.setIfInBounds_toArray, List.set_cons_zero, List.set_cons_succ])
    refine wpAnyH_take (i := 25) (oi := ⟨some 109, .move (.tmp 6), 9, "laws.go:193", #[⟨22, .guard⟩], some (22, false)⟩) (v := undef) rfl (by kernel_rfl) (by kernel_rfl) (by kernel_rfl) (fun _ _ _ h => h) (Or.inr ⟨by rfl, rfl⟩) (by assumption) ?_
    (try simp only [Act.put, List.setIfInBounds_toArray, List.set_cons_zero, List.set_cons_succ])
    refine wpAnyH_take (i := 26) (oi := ⟨some 110, .move (.tmp 7), 9, "laws.go:193", #[⟨22, .guard⟩], some (22, false)⟩) (v := undef) rfl (by kernel_rfl) (by kernel_rfl) (by kernel_rfl) (fun _ _ _ h => h) (Or.inr ⟨by rfl, rfl⟩) (by assumption) ?_
    (try simp only [Act.put, List.setIfInBounds_toArray, List.set_cons_zero, List.set_cons_succ])
    refine wpAnyH_take (i := 27) (oi := ⟨some 111, .call { callee := Callee.value (.func 11), args := #[.tmp 108, .tmp 109, .tmp 110], argTypes := #[26, 9, 9] }, 30, "laws.go:193", #[⟨24, .data⟩, ⟨25, .data⟩, ⟨26, .data⟩, ⟨22, .chain⟩, ⟨22, .guard⟩], some (22, false)⟩) (v := undef) rfl (by kernel_rfl) (by kernel_rfl) (by kernel_rfl) (fun _ _ _ h => h) (Or.inr ⟨by rfl, rfl⟩) (by assumption) ?_
    (try simp only [Act.put, List.setIfInBounds_toArray, List.set_cons_zero, List.set_cons_succ])
    refine wpAnyH_take (i := 28) (oi := ⟨some 112, .load 26 (.tmp 5), 26, "laws.go:193", #[⟨22, .guard⟩], some (22, false)⟩) (v := undef) rfl (by kernel_rfl) (by kernel_rfl) (by kernel_rfl) (fun _ _ _ h => h) (Or.inr ⟨by rfl, rfl⟩) (by assumption) ?_
    (try simp only [Act.put, List.setIfInBounds_toArray, List.set_cons_zero, List.set_cons_succ])
    refine wpAnyH_take (i := 29) (oi := ⟨some 113, .build 30 #[(0, .tmp 112)], 30, "laws.go:193", #[⟨28, .data⟩, ⟨22, .guard⟩], some (22, false)⟩) (v := undef) rfl (by kernel_rfl) (by kernel_rfl) (by kernel_rfl) (fun _ _ _ h => h) (Or.inr ⟨by rfl, rfl⟩) (by assumption) ?_
    (try simp only [Act.put, List.setIfInBounds_toArray, List.set_cons_zero, List.set_cons_succ])
    refine wpAnyH_take (i := 30) (oi := ⟨some 114, .call { callee := Callee.value (.func 13), args := #[.tmp 111, .tmp 113], argTypes := #[30, 30] }, 4, "laws.go:193", #[⟨27, .data⟩, ⟨29, .data⟩, ⟨27, .chain⟩, ⟨22, .guard⟩], some (22, false)⟩) (v := undef) rfl (by kernel_rfl) (by kernel_rfl) (by kernel_rfl) (fun _ _ _ h => h) (Or.inr ⟨by rfl, rfl⟩) (by assumption) ?_
    (try simp only [Act.put, List.setIfInBounds_toArray, List.set_cons_zero, List.set_cons_succ])
    refine wpAnyH_take (i := 31) (oi := ⟨some 115, .unOp UnOp.not 4 (.tmp 114), 4, "laws.go:193", #[⟨30, .data⟩, ⟨22, .guard⟩], some (22, false)⟩) (v := undef) rfl (by kernel_rfl) (by kernel_rfl) (by kernel_rfl) (fun _ _ _ h => h) (Or.inr ⟨by rfl, rfl⟩) (by assumption) ?_
    (try simp only [Act.put, List.setIfInBounds_toArray, List.set_cons_zero, List.set_cons_succ])
    refine wpAnyH_take (i := 32) (oi := ⟨some 116, .pick (.tmp 106) (.const (Value.bool true)) (.tmp 115), 4, "laws.go:193", #[⟨22, .data⟩, ⟨31, .data⟩, ⟨3, .guard⟩], some (3, true)⟩) (v := undef) rfl (by kernel_rfl) (by kernel_rfl) (by kernel_rfl) (fun _ _ _ h => h) (Or.inr ⟨by rfl, rfl⟩) (by assumption) ?_
    (try simp only [Act.put, List.setIfInBounds_toArray, List.set_cons_zero, List.set_cons_succ])
    refine wpAnyH_take (i := 33) (oi := ⟨some 117, .pick (.tmp 87) (.tmp 116) (.const (Value.bool false)), 4, "laws.go:193", #[⟨3, .data⟩, ⟨32, .data⟩], none⟩) (v := ?_) rfl (by kernel_rfl) (by kernel_rfl) (by kernel_rfl) (fun _ _ _ h => h) (Or.inl ⟨by rfl, ?_⟩) (by assumption) ?_
    rotate_left
    · intro w hSw; (try dsimp only at hSw); go_simp; (try with_reducible rfl)
    (try simp only [Act.put, List.setIfInBounds_toArray, List.set_cons_zero, List.set_cons_succ])
    refine wpAnyH_done (by kernel_rfl) ?_ _
    clear hHeld
    obtain ⟨_, _, _, ⟨z0, z1, z2⟩, _⟩ := SK.out _ BE
    have BZ := Lib.hid (BE)
    by_cases hk : k = 0
    · subst hk
      go_wp2_with fail
      refine (C11y.out (by first | rfl | trivial) _ BZ.out).mono ?_
      rintro e y1 ⟨⟨v, u, rfl⟩, bz1⟩
      obtain ⟨_, _, _, ⟨z0', z1', z2'⟩, _⟩ := SK.out _ bz1
      have BZ1 := Lib.hid bz1
      have hfc := field30c
      clear bz1
      go_wp2_with fail
      refine (C16y.out (by first | rfl | trivial) _ BZ1.out).mono ?_
      rintro e y2 ⟨rfl, bz2⟩
      have BZ2 := Lib.hid (BW.out.trans (bz2.mono BW.out.size))
      clear bz2
      go_wp2
      go_ret
      exact ⟨rfl, BZ2.out⟩
    · have hk' : (k == 0) = false := by simpa using hk
      have BZ2 := Lib.hid (BW.out.trans (BZ.out.mono BW.out.size))
      go_wp2
      go_ret
      exact ⟨rfl, BZ2.out⟩
end Go.Proofs.YtjajpdghamecoaaGreat
