/- Merged texts: MsC, MsA, MsB, MsM, EntAs. -/
import Derived.Test.YtohcdpoffpnfhaaGreatDoorM3
import Derived.Test.YtohcdpoffpnfhaaGreatDoorM7
import Derived.Test.YtohcdpoffpnfhaaGreatDoorM1
import Derived.Test.YtohcdpoffpnfhaaGreatDoorM5
/- The class that an entry names: what the program finds. -/
namespace Go.Proofs.YtohcdpoffpnfhaaGreatDoor
open Go.RowKit
attribute [local go_sem ↓] Go.wp_at_zero Go.wp_at_succ

theorem Blk.new1 (w : World) (o : Obj) (T : TypeId) (cs : List Value) : Blk ((w.alloc o).alloc (.cells cs.toArray T)) (w.heap.size + 1) cs := by
  have h := Blk.new (w.alloc o) T cs
  simpa using h
/-- the variable errInvalid holds an error -/
def Sent (w : World) : Prop := ∃ a, w.cell? ⟨0, 0, none⟩ = some (.iface 270 (.pointer (some a)))
theorem Sent.below {w w' : World} (h : Sent w) (hb : Below w.heap.size w w') : Sent w' := by
  obtain ⟨a, h⟩ := h
  exact ⟨a, (hb.cell (p := ⟨0, 0, none⟩) (World.block_lt_of_cell? _ _ h)).trans h⟩
/-- what is found: nothing, for one is not right (none); no class (some none); a class -/
noncomputable def mineR (s : List ClassV) (d : RdnL) (l : List AttrV) : Option (Option ClassV) :=
  if schemaB s = true ∧ rightB d l = true then
    match valsOf l clsT with
    | [v] => some ((atC s (normS v)).map fun _ => clsAt s (normS v))
    | _ => some none
  else none
theorem mine_no {s : List ClassV} {d : RdnL} {l : List AttrV} (h : schemaB s = false ∨ rightB d l = false) : mineR s d l = none := by
  unfold mineR
  rw [if_neg]
  rintro ⟨h1, h2⟩
  rcases h with h | h
  · rw [h] at h1; cases h1
  · rw [h] at h2; cases h2
theorem mine_many {s : List ClassV} {d : RdnL} {l : List AttrV} (h1 : schemaB s = true) (h2 : rightB d l = true) (h : (valsOf l clsT).length ≠ 1) : mineR s d l = some none := by
  unfold mineR
  rw [if_pos ⟨h1, h2⟩]
  split
  · rename_i e; rw [e] at h; simp at h
  · rfl
theorem mine_one {s : List ClassV} {d : RdnL} {l : List AttrV} {v : ByteArray} (h1 : schemaB s = true) (h2 : rightB d l = true) (h : valsOf l clsT = [v]) : mineR s d l = some ((atC s (normS v)).map fun _ => clsAt s (normS v)) := by
  unfold mineR
  rw [if_pos ⟨h1, h2⟩, h]
theorem clsMap_has {w : World} {l : List ClassV} {ps : List (ByteArray × Value)} (h : ClsVals w l ps) (hr : schemaB l = true) (nm : ByteArray) : Maps.has (mapOf ps) (.string nm.data.toList) = (atC l nm).isSome := by
  have hl := h.1
  cases ha : atC l nm with
  | none =>
    obtain ⟨h1, _⟩ := atC_none ha
    exact Maps.has_false_of_atKey fun z => mapOf_miss ps nm z fun p hp => by
      obtain ⟨i, hi, rfl⟩ := List.getElem_of_mem hp
      rw [(h.2 i (by omega) hi).1]
      exact h1 _ (List.getElem_mem _)
  | some i =>
    obtain ⟨hi, h1, _, _⟩ := atC_some ha
    obtain ⟨q1, q2⟩ := h.2 i hi (by omega)
    exact Maps.has_true_of_atKey fun z => mapOf_hit ps nm z i (by omega) (q1.trans h1) (fun j hj hij => by
      rw [(h.2 j (by omega) hj).1, ← h1]
      exact (cls_apart hr i j hi (by omega) hij).symm)
theorem norm_max {x : ByteArray} (h : x.size ≤ maxLen) : (normS x).size ≤ maxLen := by
  have := normL_len x.data.toList
  have e : (normS x).size = (normL x.data.toList).length := rfl
  have : (100 : Nat) ≤ maxLen := by decide
  omega
theorem ownsMap_below {H : Type} {w w' : World} {P : Program} {k : TypeId} {R : Value → Option (DataW H × List MemPlace)} {b n : Nat} {D : DataW H} (h : w.ownsMap P k R b n D) (hb : Below w.heap.size w w') : w'.ownsMap P k R b n D := h.kept (grown_of hb none) (by simp)
set_option maxRecDepth 100000 in
set_option maxHeartbeats 1000000 in
theorem classesByName_from (w0 : World) (bo : Option Addr) (l : List ClassV) (cb : Nat) (w : World) (hB0 : Below w0.heap.size w0 w) (hd : ClassesAt w0 bo l) (hf : FitsC l) :
    Calls Tryz.prog 155 #[.slice bo l.length cb] w fun e w' => e = .returned (.map (some w.heap.size)) ∧ (∃ ps, ClsVals w0 l ps ∧ w'.ownsMap Tryz.prog 9 valR w.heap.size l.length (mapOf ps)) ∧ Below w.heap.size w w' := by
  have hl := hf.1
  have HD := Lib.hid hd; have HF := Lib.hid hf; clear hd hf
  have hmm := @run_makeMap Tryz.prog
  go_enter Tryz.func155, Tryz.ntmps155
  go_wp2_with fail
  go_loopw [9] (fun i wr => ∃ k : Nat, k ≤ l.length ∧ i = .int .i64 k ∧ (∃ ps, ClsVals w0 (l.take k) ps ∧ wr.ownsMap Tryz.prog 9 valR w.heap.size k (mapOf ps)) ∧ Below w.heap.size w wr) (fun i _ => l.length - (intOf i).toNat)
  case atStart => exact ⟨0, Nat.zero_le _, rfl, ⟨[], ⟨rfl, fun i h => by simp at h⟩, World.ownsMap_made _ _ _ _⟩, more (Below.refl _ _) _⟩
  case round =>
    obtain ⟨k, hk, rfl, ⟨ps, hps, hown⟩, hbel⟩ := hrel
    have HP := Lib.hid hps; clear hps
    have hsz := hbel.size
    have hb00 := hB0.trans (hbel.mono hB0.size)
    by_cases hlt : k < l.length
    · obtain ⟨p, off, v1, v2, v3, rfl, hp0, hc⟩ := HD.out.at hlt
      obtain ⟨d0, d1, d2, d3, s1, s2, s3⟩ := hc
      have c0 := (hb00.cell (p := ⟨p, off + k * 4, none⟩) hp0).trans d0
      have c1 := (hb00.cell (p := ⟨p, off + k * 4 + 1, none⟩) hp0).trans d1
      have c2 := (hb00.cell (p := ⟨p, off + k * 4 + 2, none⟩) hp0).trans d2
      have c3 := (hb00.cell (p := ⟨p, off + k * 4 + 3, none⟩) hp0).trans d3
      have hp1 : p < wr.heap.size := Nat.lt_of_lt_of_le hp0 hb00.size
      have hz : l[k].nm.size ≤ maxLen := by have := (HF.out.at hlt).nm; unfold maxLen; omega
      have HN := Lib.hid (HP.out.snoc l[k] _ ⟨v1, v2, v3, rfl, s1, s2, s3⟩)
      rw [← take_snoc' l k hlt] at HN
      have g1 : (0 : Int) ≤ (k : Int) := by omega
      have g2 : (k : Int) < (l.length : Int) := by omega
      have i1 := s1.sl; have i2 := s2.sl; have i3 := s3.sl
      obtain ⟨o1, n1, k1, rfl⟩ := i1
      obtain ⟨o2, n2, k2, rfl⟩ := i2
      obtain ⟨o3, n3, k3, rfl⟩ := i3
      clear d0 d1 d2 d3 s1 s2 s3
      generalize l[k] = A at *
      have hkey := Go.WideMaps.keyOf_string_mk Tryz.underlying9 (s := A.nm) hz
      have HO := Lib.hid (hown.alloc (.cells #[.string A.nm, .slice o1 n1 k1, .slice o2 n2 k2, .slice o3 n3 k3] 85))
      have HB := Lib.hid (more hbel (.cells #[.string A.nm, .slice o1 n1 k1, .slice o2 n2 k2, .slice o3 n3 k3] 85))
      clear hown hbel
      go_wp2_with (first
        | (at_mapUpdate; refine wpList_mapUpdate_own _ rfl _ _ _ 184 rfl 9 85 Tryz.keyed9 Tryz.underlying184 valR w.heap.size k (mapOf ps) rfl HO.out (by unfold maxLen; omega) _ _ _ rfl rfl hkey (.held (.agg #[.string A.nm, .slice o1 n1 k1, .slice o2 n2 k2, .slice o3 n3 k3])) [] rfl ?_; intro w4 hown4 hgrow4)
        | (fail "none"))
      go_roundw
      case rel => exact ⟨k + 1, by omega, by go_num, ⟨_, HN.out, by rw [mapOf_snoc]; exact hown4⟩, HB.out.grown hgrow4 HB.out.size (fun j hj => by cases hj; exact Nat.le_refl _)⟩
      case measure => simp [intOf]; omega
    · obtain rfl : k = l.length := by omega
      rw [List.take_length] at HP
      go_wp2
      go_ret
      exact ⟨rfl, ⟨ps, HP.out, hown⟩, hbel⟩
/-- what classOfEntry returns -/
def GivesM (w : World) (m : Option (Option ClassV)) (e : Ending) (w' : World) : Prop := Below w.heap.size w w' ∧ match m with
  | some (some c) => ∃ v1 v2 v3, e = .returned (.tuple #[.agg #[.string c.nm, v1, v2, v3], .nilIface]) ∧ SlV w' v1 c.must ∧ SlV w' v2 c.may ∧ SlV w' v3 c.one
  | some none => ∃ t1 t2, e = .returned (.tuple #[.agg #[.string ⟨#[]⟩, .slice none 0 0, .slice none 0 0, .slice none 0 0], .iface 183 (.agg #[.string t1, .string t2])])
  | none => ∃ a, e = .returned (.tuple #[.agg #[.string ⟨#[]⟩, .slice none 0 0, .slice none 0 0, .slice none 0 0], .iface 270 (.pointer (some a))]) ∧ w.cell? ⟨0, 0, none⟩ = some (.iface 270 (.pointer (some a)))
set_option maxRecDepth 100000 in
set_option maxHeartbeats 4000000 in
theorem classOfEntry_any {S1 S2 S3 : Bs} (so : Option Addr) (s : List ClassT) (cs : Nat) (ao bo : Option Addr) (d : RdnL) (l : List AttrV) (ca cb : Nat) (w : World) (hs : SlAt classE S1 w s (.slice so s.length cs)) (hd : SlAt rdnE S2 w d (.slice ao d.length ca)) (hl : SlAt attrE S3 w l (.slice bo l.length cb)) (hzs : s.length + szL classE s ≤ 1048576) (hzd : d.length + szL rdnE d ≤ 1048576) (hzl : l.length + szL attrE l ≤ 1048576) (hS : Sent w) :
    Calls Tryz.prog 111 #[.slice so s.length cs, .agg #[.slice ao d.length ca, .slice bo l.length cb]] w (GivesM w (mineR (s.map toCV) d l)) := by
  have CS : Hid (∀ W : World, Below w.heap.size w W → Calls Tryz.prog 61 #[.slice so s.length cs] W fun e w' => e = .returned (.bool (schemaB (s.map toCV))) ∧ Below W.heap.size W w') := Lib.hid (fun W b => by
    have h1 := SchemaRight_any so (s.map toCV) cs W ((classes_of hs).below b) (fits_classes hzs)
    rw [List.length_map] at h1
    exact h1)
  have CN : Hid (∀ W : World, Below w.heap.size w W → Calls Tryz.prog 155 #[.slice so s.length cs] W fun e w' => e = .returned (.map (some W.heap.size)) ∧ (∃ ps, ClsVals w (s.map toCV) ps ∧ w'.ownsMap Tryz.prog 9 valR W.heap.size (s.map toCV).length (mapOf ps)) ∧ Below W.heap.size W w') := Lib.hid (fun W b => by
    have h1 := classesByName_from w so (s.map toCV) cs W b (classes_of hs) (fits_classes hzs)
    rw [List.length_map] at h1 ⊢
    exact h1)
  have CE : Hid (∀ W : World, Below w.heap.size w W → Calls Tryz.prog 82 #[.agg #[.slice ao d.length ca, .slice bo l.length cb]] W fun e w' => e = .returned (.bool (rightB d l)) ∧ Below W.heap.size W w') := Lib.hid (fun W b => EntryRight_any ao bo d l ca cb W ((dn_of hd).below b) ((attrs_of hl).below b) (fits_dn hzd) (fits_attrs hzl))
  have CA : Hid (∀ W : World, Below w.heap.size w W → Calls Tryz.prog 154 #[.agg #[.slice ao d.length ca, .slice bo l.length cb], .string clsT] W (GivesV W (attrOfL d l clsT))) := Lib.hid (fun W b => AttrOf_any ao bo d l ca cb clsT W ((dn_of hd).below b) ((attrs_of hl).below b) (fits_dn hzd) (fits_attrs hzl) (by decide))
  have HFA := Lib.hid (valsOf_fits (fits_attrs hzl) clsT)
  obtain ⟨a, hga⟩ := hS
  have G : Hid (∀ Z' : World, Below w.heap.size w Z' → Z'.cell? ⟨0, 0, none⟩ = some (.iface 270 (.pointer (some a)))) := Lib.hid (fun Z' h => (h.cell (p := ⟨0, 0, none⟩) (World.block_lt_of_cell? _ _ hga)).trans hga)
  have HGA := Lib.hid hga
  have HM1 : Hid (schemaB (s.map toCV) = false → mineR (s.map toCV) d l = none) := Lib.hid (fun h => mine_no (.inl h))
  have HM2 : Hid (rightB d l = false → mineR (s.map toCV) d l = none) := Lib.hid (fun h => mine_no (.inr h))
  clear hs hd hl hzs hzd hzl hga
  generalize hX : s.map toCV = X at *
  clear hX
  go_enter Tryz.func111, Tryz.ntmps111
  go_wp2_with fail
  refine calls_by (fun W => Below w.heap.size w W ∧ Blk W w.heap.size [.slice ao d.length ca, .slice bo l.length cb] ∧ Blk W (w.heap.size + 1) [.string ⟨#[]⟩, .slice none 0 0, .slice none 0 0, .slice none 0 0]) ⟨more' (more' (Below.refl _ _) _) _, (Blk.new _ _ _).below (more' (Below.refl _ _) _), Blk.new1 _ _ _ _⟩ ?_
  rintro W1 ⟨b1, e1, q1⟩
  refine (CS.out W1 b1).mono ?_
  rintro e w2 ⟨rfl, hb⟩
  have B2 := Lib.hid (b1.trans (hb.mono b1.size)); have E2 := Lib.hid (e1.below hb); have Q2 := Lib.hid (q1.below hb)
  clear b1 e1 q1 hb
  obtain ⟨r, hr⟩ : ∃ r, r = schemaB X := ⟨_, rfl⟩
  rw [← hr]
  have HR := Lib.hid hr
  clear hr
  cases r
  · have HE := Lib.hid (HM1.out HR.out.symm)
    have rf0 := Q2.out.soft 0; have rf1 := Q2.out.soft 1; have rf2 := Q2.out.soft 2; have rf3 := Q2.out.soft 3
    have rz0 := Q2.out.cell 0 rfl; have rz1 := Q2.out.cell 1 rfl; have rz2 := Q2.out.cell 2 rfl; have rz3 := Q2.out.cell 3 rfl
    have TE := (((Q2.out.set 0 (.string ⟨#[]⟩)).set 1 (.slice none 0 0)).set 2 (.slice none 0 0)).set 3 (.slice none 0 0)
    have rj0 := TE.cell 0 rfl; have rj1 := TE.cell 1 rfl; have rj2 := TE.cell 2 rfl; have rj3 := TE.cell 3 rfl
    clear TE
    have b2 := B2.out
    have BE := Lib.hid ((((B2.out.drew.setCell (p := ⟨w.heap.size + 1, 0, none⟩) (Nat.le_succ _) (.string ⟨#[]⟩)).setCell (p := ⟨w.heap.size + 1, 1, none⟩) (Nat.le_succ _) (.slice none 0 0)).setCell (p := ⟨w.heap.size + 1, 2, none⟩) (Nat.le_succ _) (.slice none 0 0)).setCell (p := ⟨w.heap.size + 1, 3, none⟩) (Nat.le_succ _) (.slice none 0 0))
    go_wp2_with fail
    have SK : Hid (∀ Z' : World, Below w2.heap.size w2 Z' → Z'.cell? ⟨0, 0, none⟩ = some (.iface 270 (.pointer (some a)))) := Lib.hid (fun Z' h => G.out _ (b2.trans (h.mono b2.size)))
    have BD : Below w2.heap.size w2 w2.drew := (Below.refl _ _).drew
    refine wp_region_held_drew (S := (fun Z' => Z'.cell? ⟨0, 0, none⟩ = some (.iface 270 (.pointer (some a))))) (by kernel_rfl) ?_ (fun hHeld => ?_)
    · (try dsimp only)
      first | exact SK.out _ (by assumption) | exact SK.out _ BD | exact SK.out _ (more' (by assumption) _) | exact SK.out _ (more' BD _) | exact G.out _ BE.out
    refine wpAnyH_take (i := 0) (oi := { dst := some 17, op := Op.build 85 #[], type := 85, pos := "l05_schema.go:128", after := #[], guard := none }) (v := ?_) rfl (by kernel_rfl) (by kernel_rfl) (by kernel_rfl) (fun _ _ _ h => h) (Or.inl ⟨by rfl, ?_⟩) (by assumption) ?_
    rotate_left
    · intro w hSw; (try dsimp only at hSw); go_simp; (try with_reducible rfl)
    (try simp only [Act.put, List.setIfInBounds_toArray, List.set_cons_zero, List.set_cons_succ])
    refine wpAnyH_take (i := 1) (oi := { dst := some 18, op := Op.load 89 (Operand.global 0), type := 89, pos := "l05_schema.go:128", after := #[{ on := 2, ground := Ground.gcOnly Departure.lateStores }], guard := none }) (v := ?_) rfl (by kernel_rfl) (by kernel_rfl) (by kernel_rfl) (fun _ _ _ h => h) (Or.inl ⟨by rfl, ?_⟩) (by assumption) ?_
    rotate_left
    · intro w hSw; (try dsimp only at hSw); go_simp; (try with_reducible rfl)
    (try simp only [Act.put, List.setIfInBounds_toArray, List.set_cons_zero, List.set_cons_succ])
    refine wpAnyH_ready (rs := [2]) (by kernel_rfl) (by simp) ?_
    refine AllReadyH.cons (o := { dst := none, op := Op.store 85 (Operand.tmp 4) (Operand.tmp 17), type := 0, pos := "l05_schema.go:128", after := #[{ on := 0, ground := Ground.data }, { on := 0, ground := Ground.phase }, { on := 1, ground := Ground.textOnly Departure.lateStores }], guard := none }) rfl (fun K hK => ?_) (AllReadyH.nil)
    go_simp
    clear hHeld
    refine hK.out _ _ ?_ (fun hHeld => ?_)
    · (try dsimp only)
      first | exact SK.out _ (by assumption) | exact SK.out _ BD | exact SK.out _ (more' (by assumption) _) | exact SK.out _ (more' BD _) | exact G.out _ BE.out
    clear hK K
    (try simp only [Act.put, List.setIfInBounds_toArray, List.set_cons_zero, List.set_cons_succ])
    refine wpAnyH_take (i := 3) (oi := { dst := some 5, op := Op.assign (Operand.tmp 18), type := 89, pos := "l05_schema.go:128", after := #[{ on := 1, ground := Ground.data }, { on := 2, ground := Ground.chain }, { on := 0, ground := Ground.phase }, { on := 1, ground := Ground.phase }, { on := 2, ground := Ground.phase }], guard := none }) (v := ?_) rfl (by kernel_rfl) (by kernel_rfl) (by kernel_rfl) (fun _ _ _ h => h) (Or.inl ⟨by rfl, ?_⟩) (by assumption) ?_
    rotate_left
    · intro w hSw; (try dsimp only at hSw); go_simp; (try with_reducible rfl)
    (try simp only [Act.put, List.setIfInBounds_toArray, List.set_cons_zero, List.set_cons_succ])
    refine wpAnyH_done (by kernel_rfl) ?_ _
    clear SK
    go_wp2_with fail
    refine bodyPost_ret (v := .tuple #[.agg #[.string ⟨#[]⟩, .slice none 0 0, .slice none 0 0, .slice none 0 0], .iface 270 (.pointer (some a))]) (by simp [results, Tryz.results111, go_sem, rj0, rj1, rj2, rj3]) rfl ?_
    rw [HE.out]
    exact ⟨BE.out, a, rfl, HGA.out⟩
  have c0 := E2.out.cell 0 rfl; have c1 := E2.out.cell 1 rfl
  go_wp2_with fail
  refine (CE.out w2 B2.out).mono ?_
  rintro e w3 ⟨rfl, hb⟩
  have B3 := Lib.hid (B2.out.trans (hb.mono B2.out.size)); have E3 := Lib.hid (E2.out.below hb); have Q3 := Lib.hid (Q2.out.below hb)
  clear hb B2 E2 Q2 c0 c1
  obtain ⟨r, hr⟩ : ∃ r, r = rightB d l := ⟨_, rfl⟩
  rw [← hr]
  have HRE := Lib.hid hr
  clear hr
  cases r
  · have HE := Lib.hid (HM2.out HRE.out.symm)
    have rf0 := Q3.out.soft 0; have rf1 := Q3.out.soft 1; have rf2 := Q3.out.soft 2; have rf3 := Q3.out.soft 3
    have rz0 := Q3.out.cell 0 rfl; have rz1 := Q3.out.cell 1 rfl; have rz2 := Q3.out.cell 2 rfl; have rz3 := Q3.out.cell 3 rfl
    have TE := (((Q3.out.set 0 (.string ⟨#[]⟩)).set 1 (.slice none 0 0)).set 2 (.slice none 0 0)).set 3 (.slice none 0 0)
    have rj0 := TE.cell 0 rfl; have rj1 := TE.cell 1 rfl; have rj2 := TE.cell 2 rfl; have rj3 := TE.cell 3 rfl
    clear TE
    have b3 := B3.out
    have BE := Lib.hid ((((B3.out.drew.setCell (p := ⟨w.heap.size + 1, 0, none⟩) (Nat.le_succ _) (.string ⟨#[]⟩)).setCell (p := ⟨w.heap.size + 1, 1, none⟩) (Nat.le_succ _) (.slice none 0 0)).setCell (p := ⟨w.heap.size + 1, 2, none⟩) (Nat.le_succ _) (.slice none 0 0)).setCell (p := ⟨w.heap.size + 1, 3, none⟩) (Nat.le_succ _) (.slice none 0 0))
    go_wp2_with fail
    have SK : Hid (∀ Z' : World, Below w3.heap.size w3 Z' → Z'.cell? ⟨0, 0, none⟩ = some (.iface 270 (.pointer (some a)))) := Lib.hid (fun Z' h => G.out _ (b3.trans (h.mono b3.size)))
    have BD : Below w3.heap.size w3 w3.drew := (Below.refl _ _).drew
    refine wp_region_held_drew (S := (fun Z' => Z'.cell? ⟨0, 0, none⟩ = some (.iface 270 (.pointer (some a))))) (by kernel_rfl) ?_ (fun hHeld => ?_)
    · (try dsimp only)
      first | exact SK.out _ (by assumption) | exact SK.out _ BD | exact SK.out _ (more' (by assumption) _) | exact SK.out _ (more' BD _) | exact G.out _ BE.out
    refine wpAnyH_take (i := 0) (oi := { dst := some 17, op := Op.build 85 #[], type := 85, pos := "l05_schema.go:128", after := #[], guard := none }) (v := ?_) rfl (by kernel_rfl) (by kernel_rfl) (by kernel_rfl) (fun _ _ _ h => h) (Or.inl ⟨by rfl, ?_⟩) (by assumption) ?_
    rotate_left
    · intro w hSw; (try dsimp only at hSw); go_simp; (try with_reducible rfl)
    (try simp only [Act.put, List.setIfInBounds_toArray, List.set_cons_zero, List.set_cons_succ])
    refine wpAnyH_take (i := 1) (oi := { dst := some 18, op := Op.load 89 (Operand.global 0), type := 89, pos := "l05_schema.go:128", after := #[{ on := 2, ground := Ground.gcOnly Departure.lateStores }], guard := none }) (v := ?_) rfl (by kernel_rfl) (by kernel_rfl) (by kernel_rfl) (fun _ _ _ h => h) (Or.inl ⟨by rfl, ?_⟩) (by assumption) ?_
    rotate_left
    · intro w hSw; (try dsimp only at hSw); go_simp; (try with_reducible rfl)
    (try simp only [Act.put, List.setIfInBounds_toArray, List.set_cons_zero, List.set_cons_succ])
    refine wpAnyH_ready (rs := [2]) (by kernel_rfl) (by simp) ?_
    refine AllReadyH.cons (o := { dst := none, op := Op.store 85 (Operand.tmp 4) (Operand.tmp 17), type := 0, pos := "l05_schema.go:128", after := #[{ on := 0, ground := Ground.data }, { on := 0, ground := Ground.phase }, { on := 1, ground := Ground.textOnly Departure.lateStores }], guard := none }) rfl (fun K hK => ?_) (AllReadyH.nil)
    go_simp
    clear hHeld
    refine hK.out _ _ ?_ (fun hHeld => ?_)
    · (try dsimp only)
      first | exact SK.out _ (by assumption) | exact SK.out _ BD | exact SK.out _ (more' (by assumption) _) | exact SK.out _ (more' BD _) | exact G.out _ BE.out
    clear hK K
    (try simp only [Act.put, List.setIfInBounds_toArray, List.set_cons_zero, List.set_cons_succ])
    refine wpAnyH_take (i := 3) (oi := { dst := some 5, op := Op.assign (Operand.tmp 18), type := 89, pos := "l05_schema.go:128", after := #[{ on := 1, ground := Ground.data }, { on := 2, ground := Ground.chain }, { on := 0, ground := Ground.phase }, { on := 1, ground := Ground.phase }, { on := 2, ground := Ground.phase }], guard := none }) (v := ?_) rfl (by kernel_rfl) (by kernel_rfl) (by kernel_rfl) (fun _ _ _ h => h) (Or.inl ⟨by rfl, ?_⟩) (by assumption) ?_
    rotate_left
    · intro w hSw; (try dsimp only at hSw); go_simp; (try with_reducible rfl)
    (try simp only [Act.put, List.setIfInBounds_toArray, List.set_cons_zero, List.set_cons_succ])
    refine wpAnyH_done (by kernel_rfl) ?_ _
    clear SK
    go_wp2_with fail
    refine bodyPost_ret (v := .tuple #[.agg #[.string ⟨#[]⟩, .slice none 0 0, .slice none 0 0, .slice none 0 0], .iface 270 (.pointer (some a))]) (by simp [results, Tryz.results111, go_sem, rj0, rj1, rj2, rj3]) rfl ?_
    rw [HE.out]
    exact ⟨BE.out, a, rfl, HGA.out⟩
  have HV : Hid (attrOfL d l clsT = valsOf l clsT) := Lib.hid (attrOf_yes HRE.out.symm clsT)
  have c0 := E3.out.cell 0 rfl; have c1 := E3.out.cell 1 rfl
  go_wp2_with fail
  refine (CA.out w3 B3.out).mono ?_
  rintro e w4 ⟨⟨v4, rfl, hown⟩, hb⟩
  have B4 := Lib.hid (B3.out.trans (hb.mono B3.out.size)); have Q4 := Lib.hid (Q3.out.below hb)
  rw [HV.out] at hown
  obtain ⟨vo, vc, rfl⟩ := own_slice hown
  have HS4 := Lib.hid (own_strs hown)
  clear hown hb c0 c1 B3 E3 Q3
  by_cases h1 : (valsOf l clsT).length = 1
  rotate_left
  · have HE := Lib.hid (mine_many HR.out.symm HRE.out.symm h1)
    have h1' : ¬ ((valsOf l clsT).length : Int) = 1 := by omega
    have rf0 := Q4.out.soft 0; have rf1 := Q4.out.soft 1; have rf2 := Q4.out.soft 2; have rf3 := Q4.out.soft 3
    have rz0 := Q4.out.cell 0 rfl; have rz1 := Q4.out.cell 1 rfl; have rz2 := Q4.out.cell 2 rfl; have rz3 := Q4.out.cell 3 rfl
    have TE := (((Q4.out.set 0 (.string ⟨#[]⟩)).set 1 (.slice none 0 0)).set 2 (.slice none 0 0)).set 3 (.slice none 0 0)
    have rj0 := TE.cell 0 rfl; have rj1 := TE.cell 1 rfl; have rj2 := TE.cell 2 rfl; have rj3 := TE.cell 3 rfl
    clear TE
    have BE := Lib.hid ((((B4.out.setCell (p := ⟨w.heap.size + 1, 0, none⟩) (Nat.le_succ _) (.string ⟨#[]⟩)).setCell (p := ⟨w.heap.size + 1, 1, none⟩) (Nat.le_succ _) (.slice none 0 0)).setCell (p := ⟨w.heap.size + 1, 2, none⟩) (Nat.le_succ _) (.slice none 0 0)).setCell (p := ⟨w.heap.size + 1, 3, none⟩) (Nat.le_succ _) (.slice none 0 0))
    go_wp2_with fail
    refine bodyPost_ret (v := .tuple #[.agg #[.string ⟨#[]⟩, .slice none 0 0, .slice none 0 0, .slice none 0 0], .iface 183 _]) (by simp [results, Tryz.results111, go_sem, rj0, rj1, rj2, rj3]; rfl) rfl ?_
    rw [HE.out]
    exact ⟨BE.out, _, _, rfl⟩
  · obtain ⟨x, hx⟩ := List.length_eq_one_iff.1 h1
    have HEx := Lib.hid (mine_one HR.out.symm HRE.out.symm hx)
    rw [hx] at HS4 HFA ⊢
    have hxz : x.size ≤ maxLen := by have := HFA.out.2 x (by simp); unfold maxLen; omega
    obtain ⟨p, off, rfl, hp4, hcx⟩ : ∃ p off, vo = some ⟨p, off, none⟩ ∧ p < w4.heap.size ∧ w4.cell? ⟨p, off, none⟩ = some (.string x) := by
      rcases HS4.out with h | ⟨b, o, e, hb, hc⟩
      · cases h
      · exact ⟨b, o, e, hb, by simpa using hc 0 (by simp)⟩
    have HCX := Lib.hid hcx
    clear h1 hx HM1 HM2 HV HFA hcx
    rw [show ([x] : List ByteArray).length = 1 from rfl]
    have hzn := norm_max hxz
    have HLk : Hid (∀ (Y : World) (m : Nat) (ps : List (ByteArray × Value)), ClsVals w X ps → Y.ownsMap Tryz.prog 9 valR m X.length (mapOf ps) → ∃ o1 n1 k1 o2 n2 k2 o3 n3 k3, (Instr.lookup 184 (.map (some m)) (.string (normS x)) true).run Tryz.prog Y = .ok (.tuple #[.agg #[.string (clsAt X (normS x)).nm, .slice o1 n1 k1, .slice o2 n2 k2, .slice o3 n3 k3], .bool (atC X (normS x)).isSome]) Y ∧ SlV w (.slice o1 n1 k1) (clsAt X (normS x)).must ∧ SlV w (.slice o2 n2 k2) (clsAt X (normS x)).may ∧ SlV w (.slice o3 n3 k3) (clsAt X (normS x)).one) := Lib.hid (fun Y m ps hv hm => by
      obtain ⟨v, hat, hcv⟩ := clsMap_at hv HR.out.symm (normS x)
      obtain ⟨v', pl, hrun, hv'⟩ := hm.look_ok Tryz.keyed9 Tryz.underlying184 (zeroV_runT Y) (zd := .held zeroV) (zp := []) rfl (Go.WideMaps.keyOf_string_mk Tryz.underlying9 (s := normS x) hzn)
      rw [hat] at hv'
      have e : v' = v := by unfold valR at hv'; injection hv' with hv'; injection hv' with hv' _; injection hv'
      subst e
      rw [clsMap_has hv HR.out.symm] at hrun
      obtain ⟨v1, v2, v3, rfl, s1, s2, s3⟩ := hcv
      obtain ⟨o1, n1, k1, rfl⟩ := s1.sl
      obtain ⟨o2, n2, k2, rfl⟩ := s2.sl
      obtain ⟨o3, n3, k3, rfl⟩ := s3.sl
      exact ⟨o1, n1, k1, o2, n2, k2, o3, n3, k3, hrun, s1, s2, s3⟩)
    have hq4 := Q4.out.lt
    obtain ⟨b, hbd⟩ : ∃ b, b = (atC X (normS x)).isSome := ⟨_, rfl⟩
    rw [← hbd] at HLk
    have HBD := Lib.hid hbd
    clear hbd hzn
    generalize clsAt X (normS x) = C at *
    go_wp2_with fail
    have SK : Hid (∀ Z' : World, Below w4.heap.size w4 Z' → (fun Z' => Z'.cell? ⟨p, off, none⟩ = some (.string x)) Z') := Lib.hid (fun Z' h => (h.cell (p := ⟨p, off, none⟩) hp4).trans HCX.out)
    refine region_join (fun A0 a2 w2 => ∃ (t27 t28 t29 t30 t31 t32 t33 t34 t35 : Value) (g : Nat) (o1 : Option Addr) (n1 k1 : Nat) (o2 : Option Addr) (n2 k2 : Nat) (o3 : Option Addr) (n3 k3 : Nat), a2 = ((((((((((((A0.put (some 28) t28).put (some 29) t29).put (some 30) t30).put (some 31) t31).put (some 32) t32).put (some 33) t33).put (some 34) t34).put (some 27) t27).put (some 35) t35).put (some 36) (.bool b)).put (some 7) (.pointer (some ⟨g, 0, none⟩))).put (some 8) (.bool b)) ∧ Below w4.heap.size w4 w2 ∧ w4.heap.size ≤ g ∧ Blk w2 g [.string C.nm, .slice o1 n1 k1, .slice o2 n2 k2, .slice o3 n3 k3] ∧ SlV w (.slice o1 n1 k1) C.must ∧ SlV w (.slice o2 n2 k2) C.may ∧ SlV w (.slice o3 n3 k3) C.one) ?_ ?_
    · have D0 : Below w4.heap.size w4 w4.drew := (Below.refl _ _).drew
      refine wp_region_held_drew (S := (fun Z' => Z'.cell? ⟨p, off, none⟩ = some (.string x))) (by kernel_rfl) ?_ (fun hHeld => ?_)
      · (try dsimp only)
        first | exact SK.out _ D0 | exact SK.out _ D1 | exact SK.out _ D2 | exact SK.out _ D3 | exact SK.out _ DS | exact SK.out _ (by assumption)
      obtain ⟨y0, hy0⟩ : ∃ Y, Y = w4.drew := ⟨_, rfl⟩
      rw [← hy0] at D0
      rw [← hy0]
      clear hy0
      have hHeld' := SK.out y0 D0
      clear hHeld
      have hHeld := hHeld'
      clear hHeld'
      refine wpAnyH_take (i := 0) (oi := { dst := some 28, op := Op.move (Operand.tmp 0), type := 30, pos := "l05_schema.go:134", after := #[], guard := none }) (v := ?_) rfl (by kernel_rfl) (by kernel_rfl) (by kernel_rfl) (fun _ _ _ h => h) (Or.inl ⟨by rfl, ?_⟩) (by assumption) ?_
      rotate_left
      · intro w hSw; (try dsimp only at hSw); go_simp; (try with_reducible rfl)
      (try simp only [Act.put, List.setIfInBounds_toArray, List.set_cons_zero, List.set_cons_succ])
      refine wpAnyH_take (i := 2) (oi := { dst := some 30, op := Op.move (Operand.tmp 6), type := 79, pos := "l05_schema.go:134", after := #[], guard := none }) (v := ?_) rfl (by kernel_rfl) (by kernel_rfl) (by kernel_rfl) (fun _ _ _ h => h) (Or.inl ⟨by rfl, ?_⟩) (by assumption) ?_
      rotate_left
      · intro w hSw; (try dsimp only at hSw); go_simp; (try with_reducible rfl)
      (try simp only [Act.put, List.setIfInBounds_toArray, List.set_cons_zero, List.set_cons_succ])
      refine wpAnyH_take (i := 3) (oi := { dst := some 31, op := Op.indexAddr 79 (Operand.tmp 30) (Operand.const (Value.int IntKind.i64 0)), type := 0, pos := "l05_schema.go:134", after := #[{ on := 2, ground := Ground.data }], guard := none }) (v := ?_) rfl (by kernel_rfl) (by kernel_rfl) (by kernel_rfl) (fun _ _ _ h => h) (Or.inl ⟨by rfl, ?_⟩) (by assumption) ?_
      rotate_left
      · intro w hSw; (try dsimp only at hSw); go_simp; (try with_reducible rfl)
      (try simp only [Act.put, List.setIfInBounds_toArray, List.set_cons_zero, List.set_cons_succ])
      refine wpAnyH_take (i := 4) (oi := { dst := some 32, op := Op.load 9 (Operand.tmp 31), type := 9, pos := "l05_schema.go:134", after := #[{ on := 3, ground := Ground.data }], guard := none }) (v := ?_) rfl (by kernel_rfl) (by kernel_rfl) (by kernel_rfl) (fun _ _ _ h => h) (Or.inl ⟨by rfl, ?_⟩) (by assumption) ?_
      rotate_left
      · intro w hSw; (try dsimp only at hSw); go_simp; (try with_reducible rfl)
      (try simp only [Act.put, List.setIfInBounds_toArray, List.set_cons_zero, List.set_cons_succ])
      refine wpAnyH_ready (rs := [1, 10]) (by kernel_rfl) (by simp) ?_
      refine AllReadyH.cons (o := { dst := some 29, op := Op.call { callee := Callee.value (Operand.func 155), args := #[Operand.tmp 28], argTypes := #[30] }, type := 184, pos := "l05_schema.go:134", after := #[{ on := 0, ground := Ground.data }], guard := none }) rfl (fun K hK => ?_) (AllReadyH.cons (o := { dst := some 7, op := Op.alloc 85, type := 0, pos := "l05_schema.go:134", after := #[], guard := none }) rfl (fun K hK => ?_) (AllReadyH.nil))
      · go_simp
        refine (CN.out y0 (B4.out.trans (D0.mono B4.out.size))).mono ?_
        rintro e y1 ⟨rfl, ⟨ps, hps, hown⟩, hb⟩
        have D1 : Below w4.heap.size w4 y1 := D0.trans (hb.mono D0.size)
        have HV := Lib.hid hps; have HM := Lib.hid hown
        clear hps hown hb D0
        clear hHeld
        refine hK.out _ _ ?_ (fun hHeld => ?_)
        · (try dsimp only)
          first | exact SK.out _ D0 | exact SK.out _ D1 | exact SK.out _ D2 | exact SK.out _ D3 | exact SK.out _ DS | exact SK.out _ (by assumption)
        clear hK K
        (try simp only [Act.put, List.setIfInBounds_toArray, List.set_cons_zero, List.set_cons_succ])
        refine wpAnyH_ready (rs := [5, 10]) (by kernel_rfl) (by simp) ?_
        refine AllReadyH.cons (o := { dst := some 33, op := Op.call { callee := Callee.value (Operand.func 156), args := #[Operand.tmp 32], argTypes := #[9] }, type := 9, pos := "l05_schema.go:134", after := #[{ on := 4, ground := Ground.data }, { on := 1, ground := Ground.chain }], guard := none }) rfl (fun K hK => ?_) (AllReadyH.cons (o := { dst := some 7, op := Op.alloc 85, type := 0, pos := "l05_schema.go:134", after := #[], guard := none }) rfl (fun K hK => ?_) (AllReadyH.nil))
        · go_simp
          refine (Norm_any x y1 hxz).mono ?_
          rintro e y2 ⟨rfl, hb⟩
          have D2 : Below w4.heap.size w4 y2 := D1.trans (hb.mono D1.size)
          replace HM := Lib.hid (ownsMap_below HM.out hb)
          clear hb D1
          clear hHeld
          refine hK.out _ _ ?_ (fun hHeld => ?_)
          · (try dsimp only)
            first | exact SK.out _ D0 | exact SK.out _ D1 | exact SK.out _ D2 | exact SK.out _ D3 | exact SK.out _ DS | exact SK.out _ (by assumption)
          clear hK K
          (try simp only [Act.put, List.setIfInBounds_toArray, List.set_cons_zero, List.set_cons_succ])
          refine wpAnyH_ready (rs := [6, 10]) (by kernel_rfl) (by simp) ?_
          refine AllReadyH.cons (o := { dst := some 34, op := Op.lookup 184 (Operand.tmp 29) (Operand.tmp 33) true, type := 137, pos := "l05_schema.go:134", after := #[{ on := 1, ground := Ground.data }, { on := 5, ground := Ground.data }], guard := none }) rfl (fun K hK => ?_) (AllReadyH.cons (o := { dst := some 7, op := Op.alloc 85, type := 0, pos := "l05_schema.go:134", after := #[], guard := none }) rfl (fun K hK => ?_) (AllReadyH.nil))
          · obtain ⟨o1, n1, k1, o2, n2, k2, o3, n3, k3, hrun, t1, t2, t3⟩ := HLk.out _ _ _ HV.out HM.out
            have HS3 := Lib.hid (And.intro t1 (And.intro t2 t3))
            go_simp
            clear t1 t2 t3 hrun
            clear hHeld
            refine hK.out _ _ ?_ (fun hHeld => ?_)
            · (try dsimp only)
              first | exact SK.out _ D0 | exact SK.out _ D1 | exact SK.out _ D2 | exact SK.out _ D3 | exact SK.out _ DS | exact SK.out _ (by assumption)
            clear hK K
            (try simp only [Act.put, List.setIfInBounds_toArray, List.set_cons_zero, List.set_cons_succ])
            refine wpAnyH_take (i := 7) (oi := { dst := some 27, op := Op.move (Operand.tmp 34), type := 137, pos := "l05_schema.go:134", after := #[{ on := 6, ground := Ground.data }], guard := none }) (v := ?_) rfl (by kernel_rfl) (by kernel_rfl) (by kernel_rfl) (fun _ _ _ h => h) (Or.inl ⟨by rfl, ?_⟩) (by assumption) ?_
            rotate_left
            · intro w hSw; (try dsimp only at hSw); go_simp; (try with_reducible rfl)
            (try simp only [Act.put, List.setIfInBounds_toArray, List.set_cons_zero, List.set_cons_succ])
            refine wpAnyH_take (i := 8) (oi := { dst := some 35, op := Op.extract (Operand.tmp 27) 0, type := 85, pos := "l05_schema.go:134", after := #[{ on := 7, ground := Ground.data }], guard := none }) (v := ?_) rfl (by kernel_rfl) (by kernel_rfl) (by kernel_rfl) (fun _ _ _ h => h) (Or.inl ⟨by rfl, ?_⟩) (by assumption) ?_
            rotate_left
            · intro w hSw; (try dsimp only at hSw); go_simp; (try with_reducible rfl)
            (try simp only [Act.put, List.setIfInBounds_toArray, List.set_cons_zero, List.set_cons_succ])
            refine wpAnyH_take (i := 9) (oi := { dst := some 36, op := Op.extract (Operand.tmp 27) 1, type := 4, pos := "l05_schema.go:134", after := #[{ on := 7, ground := Ground.data }, { on := 11, ground := Ground.gcOnly Departure.lateStores }], guard := none }) (v := ?_) rfl (by kernel_rfl) (by kernel_rfl) (by kernel_rfl) (fun _ _ _ h => h) (Or.inl ⟨by rfl, ?_⟩) (by assumption) ?_
            rotate_left
            · intro w hSw; (try dsimp only at hSw); go_simp; (try with_reducible rfl)
            (try simp only [Act.put, List.setIfInBounds_toArray, List.set_cons_zero, List.set_cons_succ])
            refine wpAnyH_ready (rs := [10]) (by kernel_rfl) (by simp) ?_
            refine AllReadyH.cons (o := { dst := some 7, op := Op.alloc 85, type := 0, pos := "l05_schema.go:134", after := #[], guard := none }) rfl (fun K hK => ?_) (AllReadyH.nil)
            go_simp
            obtain ⟨y3, hz1⟩ : ∃ Y, Y = y2.alloc (.cells #[.string ⟨#[]⟩, .slice none 0 0, .slice none 0 0, .slice none 0 0] 85) := ⟨_, rfl⟩
            have QZ : Below y2.heap.size y2 y3 := by rw [hz1]; exact more' (Below.refl _ _) _
            have D3 : Below w4.heap.size w4 y3 := D2.trans (QZ.mono D2.size)
            have HA : Hid (Blk y3 y2.heap.size [.string ⟨#[]⟩, .slice none 0 0, .slice none 0 0, .slice none 0 0]) := Lib.hid (by rw [hz1]; exact Blk.new _ _ _)
            have HG : w4.heap.size ≤ y2.heap.size := D2.size
            replace HM := Lib.hid (ownsMap_below HM.out QZ)
            rw [← hz1]
            clear hz1 QZ D2
            clear hHeld
            refine hK.out _ _ ?_ (fun hHeld => ?_)
            · (try dsimp only)
              first | exact SK.out _ D0 | exact SK.out _ D1 | exact SK.out _ D2 | exact SK.out _ D3 | exact SK.out _ DS | exact SK.out _ (by assumption)
            clear hK K
            (try simp only [Act.put, List.setIfInBounds_toArray, List.set_cons_zero, List.set_cons_succ])
            refine wpAnyH_ready (rs := [11]) (by kernel_rfl) (by simp) ?_
            refine AllReadyH.cons (o := { dst := none, op := Op.store 85 (Operand.tmp 7) (Operand.tmp 35), type := 0, pos := "l05_schema.go:134", after := #[{ on := 10, ground := Ground.data }, { on := 8, ground := Ground.data }, { on := 5, ground := Ground.chain }, { on := 0, ground := Ground.phase }, { on := 1, ground := Ground.phase }, { on := 2, ground := Ground.phase }, { on := 3, ground := Ground.phase }, { on := 4, ground := Ground.phase }, { on := 5, ground := Ground.phase }, { on := 6, ground := Ground.phase }, { on := 7, ground := Ground.phase }, { on := 8, ground := Ground.phase }, { on := 9, ground := Ground.textOnly Departure.lateStores }, { on := 10, ground := Ground.phase }], guard := none }) rfl (fun K hK => ?_) (AllReadyH.nil)
            have bx0 := HA.out.cell 0 rfl; have bx1 := HA.out.cell 1 rfl; have bx2 := HA.out.cell 2 rfl; have bx3 := HA.out.cell 3 rfl
            have bf0 := HA.out.soft 0; have bf1 := HA.out.soft 1; have bf2 := HA.out.soft 2; have bf3 := HA.out.soft 3
            go_simp
            clear bx0 bx1 bx2 bx3 bf0 bf1 bf2 bf3
            have DS : Below w4.heap.size w4 ((((y3.setCell ⟨y2.heap.size, 0, none⟩ (.string C.nm)).setCell ⟨y2.heap.size, 1, none⟩ (.slice o1 n1 k1)).setCell ⟨y2.heap.size, 2, none⟩ (.slice o2 n2 k2)).setCell ⟨y2.heap.size, 3, none⟩ (.slice o3 n3 k3)) := (((D3.setCell (p := ⟨y2.heap.size, 0, none⟩) HG _).setCell (p := ⟨y2.heap.size, 1, none⟩) HG _).setCell (p := ⟨y2.heap.size, 2, none⟩) HG _).setCell (p := ⟨y2.heap.size, 3, none⟩) HG _
            have BL := (((HA.out.set 0 (.string C.nm)).set 1 (.slice o1 n1 k1)).set 2 (.slice o2 n2 k2)).set 3 (.slice o3 n3 k3)
            clear hHeld
            refine hK.out _ _ ?_ (fun hHeld => ?_)
            · (try dsimp only)
              first | exact SK.out _ D0 | exact SK.out _ D1 | exact SK.out _ D2 | exact SK.out _ D3 | exact SK.out _ DS | exact SK.out _ (by assumption)
            clear hK K
            (try simp only [Act.put, List.setIfInBounds_toArray, List.set_cons_zero, List.set_cons_succ])
            refine wpAnyH_take (i := 12) (oi := { dst := some 8, op := Op.assign (Operand.tmp 36), type := 4, pos := "l05_schema.go:134", after := #[{ on := 9, ground := Ground.data }, { on := 11, ground := Ground.chain }, { on := 0, ground := Ground.phase }, { on := 1, ground := Ground.phase }, { on := 2, ground := Ground.phase }, { on := 3, ground := Ground.phase }, { on := 4, ground := Ground.phase }, { on := 5, ground := Ground.phase }, { on := 6, ground := Ground.phase }, { on := 7, ground := Ground.phase }, { on := 8, ground := Ground.phase }, { on := 9, ground := Ground.phase }, { on := 10, ground := Ground.phase }, { on := 11, ground := Ground.phase }], guard := none }) (v := ?_) rfl (by kernel_rfl) (by kernel_rfl) (by kernel_rfl) (fun _ _ _ h => h) (Or.inl ⟨by rfl, ?_⟩) (by assumption) ?_
            rotate_left
            · intro w hSw; (try dsimp only at hSw); go_simp; (try with_reducible rfl)
            (try simp only [Act.put, List.setIfInBounds_toArray, List.set_cons_zero, List.set_cons_succ])
            refine wpAnyH_done (by kernel_rfl) ?_ _
            refine ⟨.tuple #[.agg #[.string C.nm, .slice o1 n1 k1, .slice o2 n2 k2, .slice o3 n3 k3], .bool b], .slice so s.length cs, .map (some y0.heap.size), .slice (some ⟨p, off, none⟩) 1 vc, .pointer (some ⟨p, off, none⟩), .string x, .string (normS x), .tuple #[.agg #[.string C.nm, .slice o1 n1 k1, .slice o2 n2 k2, .slice o3 n3 k3], .bool b], .agg #[.string C.nm, .slice o1 n1 k1, .slice o2 n2 k2, .slice o3 n3 k3], y2.heap.size, o1, n1, k1, o2, n2, k2, o3, n3, k3, ?_, DS, HG, BL, HS3.out.1, HS3.out.2.1, HS3.out.2.2⟩
            first | rfl | (simp only [Act.put, List.setIfInBounds_toArray, List.set_cons_zero, List.set_cons_succ]; done) | (simp only [Act.put, List.setIfInBounds_toArray, List.set_cons_zero, List.set_cons_succ]; rfl)
          · go_simp
            obtain ⟨y3, hz1⟩ : ∃ Y, Y = y2.alloc (.cells #[.string ⟨#[]⟩, .slice none 0 0, .slice none 0 0, .slice none 0 0] 85) := ⟨_, rfl⟩
            have QZ : Below y2.heap.size y2 y3 := by rw [hz1]; exact more' (Below.refl _ _) _
            have D3 : Below w4.heap.size w4 y3 := D2.trans (QZ.mono D2.size)
            have HA : Hid (Blk y3 y2.heap.size [.string ⟨#[]⟩, .slice none 0 0, .slice none 0 0, .slice none 0 0]) := Lib.hid (by rw [hz1]; exact Blk.new _ _ _)
            have HG : w4.heap.size ≤ y2.heap.size := D2.size
            replace HM := Lib.hid (ownsMap_below HM.out QZ)
            rw [← hz1]
            clear hz1 QZ D2
            clear hHeld
            refine hK.out _ _ ?_ (fun hHeld => ?_)
            · (try dsimp only)
              first | exact SK.out _ D0 | exact SK.out _ D1 | exact SK.out _ D2 | exact SK.out _ D3 | exact SK.out _ DS | exact SK.out _ (by assumption)
            clear hK K
            (try simp only [Act.put, List.setIfInBounds_toArray, List.set_cons_zero, List.set_cons_succ])
            refine wpAnyH_ready (rs := [6]) (by kernel_rfl) (by simp) ?_
            refine AllReadyH.cons (o := { dst := some 34, op := Op.lookup 184 (Operand.tmp 29) (Operand.tmp 33) true, type := 137, pos := "l05_schema.go:134", after := #[{ on := 1, ground := Ground.data }, { on := 5, ground := Ground.data }], guard := none }) rfl (fun K hK => ?_) (AllReadyH.nil)
            obtain ⟨o1, n1, k1, o2, n2, k2, o3, n3, k3, hrun, t1, t2, t3⟩ := HLk.out _ _ _ HV.out HM.out
            have HS3 := Lib.hid (And.intro t1 (And.intro t2 t3))
            go_simp
            clear t1 t2 t3 hrun
            clear hHeld
            refine hK.out _ _ ?_ (fun hHeld => ?_)
            · (try dsimp only)
              first | exact SK.out _ D0 | exact SK.out _ D1 | exact SK.out _ D2 | exact SK.out _ D3 | exact SK.out _ DS | exact SK.out _ (by assumption)
            clear hK K
            (try simp only [Act.put, List.setIfInBounds_toArray, List.set_cons_zero, List.set_cons_succ])
            refine wpAnyH_take (i := 7) (oi := { dst := some 27, op := Op.move (Operand.tmp 34), type := 137, pos := "l05_schema.go:134", after := #[{ on := 6, ground := Ground.data }], guard := none }) (v := ?_) rfl (by kernel_rfl) (by kernel_rfl) (by kernel_rfl) (fun _ _ _ h => h) (Or.inl ⟨by rfl, ?_⟩) (by assumption) ?_
            rotate_left
            · intro w hSw; (try dsimp only at hSw); go_simp; (try with_reducible rfl)
            (try simp only [Act.put, List.setIfInBounds_toArray, List.set_cons_zero, List.set_cons_succ])
            refine wpAnyH_take (i := 8) (oi := { dst := some 35, op := Op.extract (Operand.tmp 27) 0, type := 85, pos := "l05_schema.go:134", after := #[{ on := 7, ground := Ground.data }], guard := none }) (v := ?_) rfl (by kernel_rfl) (by kernel_rfl) (by kernel_rfl) (fun _ _ _ h => h) (Or.inl ⟨by rfl, ?_⟩) (by assumption) ?_
            rotate_left
            · intro w hSw; (try dsimp only at hSw); go_simp; (try with_reducible rfl)
            (try simp only [Act.put, List.setIfInBounds_toArray, List.set_cons_zero, List.set_cons_succ])
            refine wpAnyH_take (i := 9) (oi := { dst := some 36, op := Op.extract (Operand.tmp 27) 1, type := 4, pos := "l05_schema.go:134", after := #[{ on := 7, ground := Ground.data }, { on := 11, ground := Ground.gcOnly Departure.lateStores }], guard := none }) (v := ?_) rfl (by kernel_rfl) (by kernel_rfl) (by kernel_rfl) (fun _ _ _ h => h) (Or.inl ⟨by rfl, ?_⟩) (by assumption) ?_
            rotate_left
            · intro w hSw; (try dsimp only at hSw); go_simp; (try with_reducible rfl)
            (try simp only [Act.put, List.setIfInBounds_toArray, List.set_cons_zero, List.set_cons_succ])
            refine wpAnyH_ready (rs := [11]) (by kernel_rfl) (by simp) ?_
            refine AllReadyH.cons (o := { dst := none, op := Op.store 85 (Operand.tmp 7) (Operand.tmp 35), type := 0, pos := "l05_schema.go:134", after := #[{ on := 10, ground := Ground.data }, { on := 8, ground := Ground.data }, { on := 5, ground := Ground.chain }, { on := 0, ground := Ground.phase }, { on := 1, ground := Ground.phase }, { on := 2, ground := Ground.phase }, { on := 3, ground := Ground.phase }, { on := 4, ground := Ground.phase }, { on := 5, ground := Ground.phase }, { on := 6, ground := Ground.phase }, { on := 7, ground := Ground.phase }, { on := 8, ground := Ground.phase }, { on := 9, ground := Ground.textOnly Departure.lateStores }, { on := 10, ground := Ground.phase }], guard := none }) rfl (fun K hK => ?_) (AllReadyH.nil)
            have bx0 := HA.out.cell 0 rfl; have bx1 := HA.out.cell 1 rfl; have bx2 := HA.out.cell 2 rfl; have bx3 := HA.out.cell 3 rfl
            have bf0 := HA.out.soft 0; have bf1 := HA.out.soft 1; have bf2 := HA.out.soft 2; have bf3 := HA.out.soft 3
            go_simp
            clear bx0 bx1 bx2 bx3 bf0 bf1 bf2 bf3
            have DS : Below w4.heap.size w4 ((((y3.setCell ⟨y2.heap.size, 0, none⟩ (.string C.nm)).setCell ⟨y2.heap.size, 1, none⟩ (.slice o1 n1 k1)).setCell ⟨y2.heap.size, 2, none⟩ (.slice o2 n2 k2)).setCell ⟨y2.heap.size, 3, none⟩ (.slice o3 n3 k3)) := (((D3.setCell (p := ⟨y2.heap.size, 0, none⟩) HG _).setCell (p := ⟨y2.heap.size, 1, none⟩) HG _).setCell (p := ⟨y2.heap.size, 2, none⟩) HG _).setCell (p := ⟨y2.heap.size, 3, none⟩) HG _
            have BL := (((HA.out.set 0 (.string C.nm)).set 1 (.slice o1 n1 k1)).set 2 (.slice o2 n2 k2)).set 3 (.slice o3 n3 k3)
            clear hHeld
            refine hK.out _ _ ?_ (fun hHeld => ?_)
            · (try dsimp only)
              first | exact SK.out _ D0 | exact SK.out _ D1 | exact SK.out _ D2 | exact SK.out _ D3 | exact SK.out _ DS | exact SK.out _ (by assumption)
            clear hK K
            (try simp only [Act.put, List.setIfInBounds_toArray, List.set_cons_zero, List.set_cons_succ])
            refine wpAnyH_take (i := 12) (oi := { dst := some 8, op := Op.assign (Operand.tmp 36), type := 4, pos := "l05_schema.go:134", after := #[{ on := 9, ground := Ground.data }, { on := 11, ground := Ground.chain }, { on := 0, ground := Ground.phase }, { on := 1, ground := Ground.phase }, { on := 2, ground := Ground.phase }, { on := 3, ground := Ground.phase }, { on := 4, ground := Ground.phase }, { on := 5, ground := Ground.phase }, { on := 6, ground := Ground.phase }, { on := 7, ground := Ground.phase }, { on := 8, ground := Ground.phase }, { on := 9, ground := Ground.phase }, { on := 10, ground := Ground.phase }, { on := 11, ground := Ground.phase }], guard := none }) (v := ?_) rfl (by kernel_rfl) (by kernel_rfl) (by kernel_rfl) (fun _ _ _ h => h) (Or.inl ⟨by rfl, ?_⟩) (by assumption) ?_
            rotate_left
            · intro w hSw; (try dsimp only at hSw); go_simp; (try with_reducible rfl)
            (try simp only [Act.put, List.setIfInBounds_toArray, List.set_cons_zero, List.set_cons_succ])
            refine wpAnyH_done (by kernel_rfl) ?_ _
            refine ⟨.tuple #[.agg #[.string C.nm, .slice o1 n1 k1, .slice o2 n2 k2, .slice o3 n3 k3], .bool b], .slice so s.length cs, .map (some y0.heap.size), .slice (some ⟨p, off, none⟩) 1 vc, .pointer (some ⟨p, off, none⟩), .string x, .string (normS x), .tuple #[.agg #[.string C.nm, .slice o1 n1 k1, .slice o2 n2 k2, .slice o3 n3 k3], .bool b], .agg #[.string C.nm, .slice o1 n1 k1, .slice o2 n2 k2, .slice o3 n3 k3], y2.heap.size, o1, n1, k1, o2, n2, k2, o3, n3, k3, ?_, DS, HG, BL, HS3.out.1, HS3.out.2.1, HS3.out.2.2⟩
            first | rfl | (simp only [Act.put, List.setIfInBounds_toArray, List.set_cons_zero, List.set_cons_succ]; done) | (simp only [Act.put, List.setIfInBounds_toArray, List.set_cons_zero, List.set_cons_succ]; rfl)
        · go_simp
          obtain ⟨y2, hz1⟩ : ∃ Y, Y = y1.alloc (.cells #[.string ⟨#[]⟩, .slice none 0 0, .slice none 0 0, .slice none 0 0] 85) := ⟨_, rfl⟩
          have QZ : Below y1.heap.size y1 y2 := by rw [hz1]; exact more' (Below.refl _ _) _
          have D2 : Below w4.heap.size w4 y2 := D1.trans (QZ.mono D1.size)
          have HA : Hid (Blk y2 y1.heap.size [.string ⟨#[]⟩, .slice none 0 0, .slice none 0 0, .slice none 0 0]) := Lib.hid (by rw [hz1]; exact Blk.new _ _ _)
          have HG : w4.heap.size ≤ y1.heap.size := D1.size
          replace HM := Lib.hid (ownsMap_below HM.out QZ)
          rw [← hz1]
          clear hz1 QZ D1
          clear hHeld
          refine hK.out _ _ ?_ (fun hHeld => ?_)
          · (try dsimp only)
            first | exact SK.out _ D0 | exact SK.out _ D1 | exact SK.out _ D2 | exact SK.out _ D3 | exact SK.out _ DS | exact SK.out _ (by assumption)
          clear hK K
          (try simp only [Act.put, List.setIfInBounds_toArray, List.set_cons_zero, List.set_cons_succ])
          refine wpAnyH_ready (rs := [5]) (by kernel_rfl) (by simp) ?_
          refine AllReadyH.cons (o := { dst := some 33, op := Op.call { callee := Callee.value (Operand.func 156), args := #[Operand.tmp 32], argTypes := #[9] }, type := 9, pos := "l05_schema.go:134", after := #[{ on := 4, ground := Ground.data }, { on := 1, ground := Ground.chain }], guard := none }) rfl (fun K hK => ?_) (AllReadyH.nil)
          go_simp
          refine (Norm_any x y2 hxz).mono ?_
          rintro e y3 ⟨rfl, hb⟩
          have D3 : Below w4.heap.size w4 y3 := D2.trans (hb.mono D2.size)
          replace HM := Lib.hid (ownsMap_below HM.out hb)
          replace HA := Lib.hid (HA.out.below hb)
          clear hb D2
          clear hHeld
          refine hK.out _ _ ?_ (fun hHeld => ?_)
          · (try dsimp only)
            first | exact SK.out _ D0 | exact SK.out _ D1 | exact SK.out _ D2 | exact SK.out _ D3 | exact SK.out _ DS | exact SK.out _ (by assumption)
          clear hK K
          (try simp only [Act.put, List.setIfInBounds_toArray, List.set_cons_zero, List.set_cons_succ])
          refine wpAnyH_ready (rs := [6]) (by kernel_rfl) (by simp) ?_
          refine AllReadyH.cons (o := { dst := some 34, op := Op.lookup 184 (Operand.tmp 29) (Operand.tmp 33) true, type := 137, pos := "l05_schema.go:134", after := #[{ on := 1, ground := Ground.data }, { on := 5, ground := Ground.data }], guard := none }) rfl (fun K hK => ?_) (AllReadyH.nil)
          obtain ⟨o1, n1, k1, o2, n2, k2, o3, n3, k3, hrun, t1, t2, t3⟩ := HLk.out _ _ _ HV.out HM.out
          have HS3 := Lib.hid (And.intro t1 (And.intro t2 t3))
          go_simp
          clear t1 t2 t3 hrun
          clear hHeld
          refine hK.out _ _ ?_ (fun hHeld => ?_)
          · (try dsimp only)
            first | exact SK.out _ D0 | exact SK.out _ D1 | exact SK.out _ D2 | exact SK.out _ D3 | exact SK.out _ DS | exact SK.out _ (by assumption)
          clear hK K
          (try simp only [Act.put, List.setIfInBounds_toArray, List.set_cons_zero, List.set_cons_succ])
          refine wpAnyH_take (i := 7) (oi := { dst := some 27, op := Op.move (Operand.tmp 34), type := 137, pos := "l05_schema.go:134", after := #[{ on := 6, ground := Ground.data }], guard := none }) (v := ?_) rfl (by kernel_rfl) (by kernel_rfl) (by kernel_rfl) (fun _ _ _ h => h) (Or.inl ⟨by rfl, ?_⟩) (by assumption) ?_
          rotate_left
          · intro w hSw; (try dsimp only at hSw); go_simp; (try with_reducible rfl)
          (try simp only [Act.put, List.setIfInBounds_toArray, List.set_cons_zero, List.set_cons_succ])
          refine wpAnyH_take (i := 8) (oi := { dst := some 35, op := Op.extract (Operand.tmp 27) 0, type := 85, pos := "l05_schema.go:134", after := #[{ on := 7, ground := Ground.data }], guard := none }) (v := ?_) rfl (by kernel_rfl) (by kernel_rfl) (by kernel_rfl) (fun _ _ _ h => h) (Or.inl ⟨by rfl, ?_⟩) (by assumption) ?_
          rotate_left
          · intro w hSw; (try dsimp only at hSw); go_simp; (try with_reducible rfl)
          (try simp only [Act.put, List.setIfInBounds_toArray, List.set_cons_zero, List.set_cons_succ])
          refine wpAnyH_take (i := 9) (oi := { dst := some 36, op := Op.extract (Operand.tmp 27) 1, type := 4, pos := "l05_schema.go:134", after := #[{ on := 7, ground := Ground.data }, { on := 11, ground := Ground.gcOnly Departure.lateStores }], guard := none }) (v := ?_) rfl (by kernel_rfl) (by kernel_rfl) (by kernel_rfl) (fun _ _ _ h => h) (Or.inl ⟨by rfl, ?_⟩) (by assumption) ?_
          rotate_left
          · intro w hSw; (try dsimp only at hSw); go_simp; (try with_reducible rfl)
          (try simp only [Act.put, List.setIfInBounds_toArray, List.set_cons_zero, List.set_cons_succ])
          refine wpAnyH_ready (rs := [11]) (by kernel_rfl) (by simp) ?_
          refine AllReadyH.cons (o := { dst := none, op := Op.store 85 (Operand.tmp 7) (Operand.tmp 35), type := 0, pos := "l05_schema.go:134", after := #[{ on := 10, ground := Ground.data }, { on := 8, ground := Ground.data }, { on := 5, ground := Ground.chain }, { on := 0, ground := Ground.phase }, { on := 1, ground := Ground.phase }, { on := 2, ground := Ground.phase }, { on := 3, ground := Ground.phase }, { on := 4, ground := Ground.phase }, { on := 5, ground := Ground.phase }, { on := 6, ground := Ground.phase }, { on := 7, ground := Ground.phase }, { on := 8, ground := Ground.phase }, { on := 9, ground := Ground.textOnly Departure.lateStores }, { on := 10, ground := Ground.phase }], guard := none }) rfl (fun K hK => ?_) (AllReadyH.nil)
          have bx0 := HA.out.cell 0 rfl; have bx1 := HA.out.cell 1 rfl; have bx2 := HA.out.cell 2 rfl; have bx3 := HA.out.cell 3 rfl
          have bf0 := HA.out.soft 0; have bf1 := HA.out.soft 1; have bf2 := HA.out.soft 2; have bf3 := HA.out.soft 3
          go_simp
          clear bx0 bx1 bx2 bx3 bf0 bf1 bf2 bf3
          have DS : Below w4.heap.size w4 ((((y3.setCell ⟨y1.heap.size, 0, none⟩ (.string C.nm)).setCell ⟨y1.heap.size, 1, none⟩ (.slice o1 n1 k1)).setCell ⟨y1.heap.size, 2, none⟩ (.slice o2 n2 k2)).setCell ⟨y1.heap.size, 3, none⟩ (.slice o3 n3 k3)) := (((D3.setCell (p := ⟨y1.heap.size, 0, none⟩) HG _).setCell (p := ⟨y1.heap.size, 1, none⟩) HG _).setCell (p := ⟨y1.heap.size, 2, none⟩) HG _).setCell (p := ⟨y1.heap.size, 3, none⟩) HG _
          have BL := (((HA.out.set 0 (.string C.nm)).set 1 (.slice o1 n1 k1)).set 2 (.slice o2 n2 k2)).set 3 (.slice o3 n3 k3)
          clear hHeld
          refine hK.out _ _ ?_ (fun hHeld => ?_)
          · (try dsimp only)
            first | exact SK.out _ D0 | exact SK.out _ D1 | exact SK.out _ D2 | exact SK.out _ D3 | exact SK.out _ DS | exact SK.out _ (by assumption)
          clear hK K
          (try simp only [Act.put, List.setIfInBounds_toArray, List.set_cons_zero, List.set_cons_succ])
          refine wpAnyH_take (i := 12) (oi := { dst := some 8, op := Op.assign (Operand.tmp 36), type := 4, pos := "l05_schema.go:134", after := #[{ on := 9, ground := Ground.data }, { on := 11, ground := Ground.chain }, { on := 0, ground := Ground.phase }, { on := 1, ground := Ground.phase }, { on := 2, ground := Ground.phase }, { on := 3, ground := Ground.phase }, { on := 4, ground := Ground.phase }, { on := 5, ground := Ground.phase }, { on := 6, ground := Ground.phase }, { on := 7, ground := Ground.phase }, { on := 8, ground := Ground.phase }, { on := 9, ground := Ground.phase }, { on := 10, ground := Ground.phase }, { on := 11, ground := Ground.phase }], guard := none }) (v := ?_) rfl (by kernel_rfl) (by kernel_rfl) (by kernel_rfl) (fun _ _ _ h => h) (Or.inl ⟨by rfl, ?_⟩) (by assumption) ?_
          rotate_left
          · intro w hSw; (try dsimp only at hSw); go_simp; (try with_reducible rfl)
          (try simp only [Act.put, List.setIfInBounds_toArray, List.set_cons_zero, List.set_cons_succ])
          refine wpAnyH_done (by kernel_rfl) ?_ _
          refine ⟨.tuple #[.agg #[.string C.nm, .slice o1 n1 k1, .slice o2 n2 k2, .slice o3 n3 k3], .bool b], .slice so s.length cs, .map (some y0.heap.size), .slice (some ⟨p, off, none⟩) 1 vc, .pointer (some ⟨p, off, none⟩), .string x, .string (normS x), .tuple #[.agg #[.string C.nm, .slice o1 n1 k1, .slice o2 n2 k2, .slice o3 n3 k3], .bool b], .agg #[.string C.nm, .slice o1 n1 k1, .slice o2 n2 k2, .slice o3 n3 k3], y1.heap.size, o1, n1, k1, o2, n2, k2, o3, n3, k3, ?_, DS, HG, BL, HS3.out.1, HS3.out.2.1, HS3.out.2.2⟩
          first | rfl | (simp only [Act.put, List.setIfInBounds_toArray, List.set_cons_zero, List.set_cons_succ]; done) | (simp only [Act.put, List.setIfInBounds_toArray, List.set_cons_zero, List.set_cons_succ]; rfl)
      · go_simp
        obtain ⟨y1, hz1⟩ : ∃ Y, Y = y0.alloc (.cells #[.string ⟨#[]⟩, .slice none 0 0, .slice none 0 0, .slice none 0 0] 85) := ⟨_, rfl⟩
        have QZ : Below y0.heap.size y0 y1 := by rw [hz1]; exact more' (Below.refl _ _) _
        have D1 : Below w4.heap.size w4 y1 := D0.trans (QZ.mono D0.size)
        have HA : Hid (Blk y1 y0.heap.size [.string ⟨#[]⟩, .slice none 0 0, .slice none 0 0, .slice none 0 0]) := Lib.hid (by rw [hz1]; exact Blk.new _ _ _)
        have HG : w4.heap.size ≤ y0.heap.size := D0.size
        rw [← hz1]
        clear hz1 QZ D0
        clear hHeld
        refine hK.out _ _ ?_ (fun hHeld => ?_)
        · (try dsimp only)
          first | exact SK.out _ D0 | exact SK.out _ D1 | exact SK.out _ D2 | exact SK.out _ D3 | exact SK.out _ DS | exact SK.out _ (by assumption)
        clear hK K
        (try simp only [Act.put, List.setIfInBounds_toArray, List.set_cons_zero, List.set_cons_succ])
        refine wpAnyH_ready (rs := [1]) (by kernel_rfl) (by simp) ?_
        refine AllReadyH.cons (o := { dst := some 29, op := Op.call { callee := Callee.value (Operand.func 155), args := #[Operand.tmp 28], argTypes := #[30] }, type := 184, pos := "l05_schema.go:134", after := #[{ on := 0, ground := Ground.data }], guard := none }) rfl (fun K hK => ?_) (AllReadyH.nil)
        go_simp
        refine (CN.out y1 (B4.out.trans (D1.mono B4.out.size))).mono ?_
        rintro e y2 ⟨rfl, ⟨ps, hps, hown⟩, hb⟩
        have D2 : Below w4.heap.size w4 y2 := D1.trans (hb.mono D1.size)
        have HV := Lib.hid hps; have HM := Lib.hid hown
        replace HA := Lib.hid (HA.out.below hb)
        clear hps hown hb D1
        clear hHeld
        refine hK.out _ _ ?_ (fun hHeld => ?_)
        · (try dsimp only)
          first | exact SK.out _ D0 | exact SK.out _ D1 | exact SK.out _ D2 | exact SK.out _ D3 | exact SK.out _ DS | exact SK.out _ (by assumption)
        clear hK K
        (try simp only [Act.put, List.setIfInBounds_toArray, List.set_cons_zero, List.set_cons_succ])
        refine wpAnyH_ready (rs := [5]) (by kernel_rfl) (by simp) ?_
        refine AllReadyH.cons (o := { dst := some 33, op := Op.call { callee := Callee.value (Operand.func 156), args := #[Operand.tmp 32], argTypes := #[9] }, type := 9, pos := "l05_schema.go:134", after := #[{ on := 4, ground := Ground.data }, { on := 1, ground := Ground.chain }], guard := none }) rfl (fun K hK => ?_) (AllReadyH.nil)
        go_simp
        refine (Norm_any x y2 hxz).mono ?_
        rintro e y3 ⟨rfl, hb⟩
        have D3 : Below w4.heap.size w4 y3 := D2.trans (hb.mono D2.size)
        replace HM := Lib.hid (ownsMap_below HM.out hb)
        replace HA := Lib.hid (HA.out.below hb)
        clear hb D2
        clear hHeld
        refine hK.out _ _ ?_ (fun hHeld => ?_)
        · (try dsimp only)
          first | exact SK.out _ D0 | exact SK.out _ D1 | exact SK.out _ D2 | exact SK.out _ D3 | exact SK.out _ DS | exact SK.out _ (by assumption)
        clear hK K
        (try simp only [Act.put, List.setIfInBounds_toArray, List.set_cons_zero, List.set_cons_succ])
        refine wpAnyH_ready (rs := [6]) (by kernel_rfl) (by simp) ?_
        refine AllReadyH.cons (o := { dst := some 34, op := Op.lookup 184 (Operand.tmp 29) (Operand.tmp 33) true, type := 137, pos := "l05_schema.go:134", after := #[{ on := 1, ground := Ground.data }, { on := 5, ground := Ground.data }], guard := none }) rfl (fun K hK => ?_) (AllReadyH.nil)
        obtain ⟨o1, n1, k1, o2, n2, k2, o3, n3, k3, hrun, t1, t2, t3⟩ := HLk.out _ _ _ HV.out HM.out
        have HS3 := Lib.hid (And.intro t1 (And.intro t2 t3))
        go_simp
        clear t1 t2 t3 hrun
        clear hHeld
        refine hK.out _ _ ?_ (fun hHeld => ?_)
        · (try dsimp only)
          first | exact SK.out _ D0 | exact SK.out _ D1 | exact SK.out _ D2 | exact SK.out _ D3 | exact SK.out _ DS | exact SK.out _ (by assumption)
        clear hK K
        (try simp only [Act.put, List.setIfInBounds_toArray, List.set_cons_zero, List.set_cons_succ])
        refine wpAnyH_take (i := 7) (oi := { dst := some 27, op := Op.move (Operand.tmp 34), type := 137, pos := "l05_schema.go:134", after := #[{ on := 6, ground := Ground.data }], guard := none }) (v := ?_) rfl (by kernel_rfl) (by kernel_rfl) (by kernel_rfl) (fun _ _ _ h => h) (Or.inl ⟨by rfl, ?_⟩) (by assumption) ?_
        rotate_left
        · intro w hSw; (try dsimp only at hSw); go_simp; (try with_reducible rfl)
        (try simp only [Act.put, List.setIfInBounds_toArray, List.set_cons_zero, List.set_cons_succ])
        refine wpAnyH_take (i := 8) (oi := { dst := some 35, op := Op.extract (Operand.tmp 27) 0, type := 85, pos := "l05_schema.go:134", after := #[{ on := 7, ground := Ground.data }], guard := none }) (v := ?_) rfl (by kernel_rfl) (by kernel_rfl) (by kernel_rfl) (fun _ _ _ h => h) (Or.inl ⟨by rfl, ?_⟩) (by assumption) ?_
        rotate_left
        · intro w hSw; (try dsimp only at hSw); go_simp; (try with_reducible rfl)
        (try simp only [Act.put, List.setIfInBounds_toArray, List.set_cons_zero, List.set_cons_succ])
        refine wpAnyH_take (i := 9) (oi := { dst := some 36, op := Op.extract (Operand.tmp 27) 1, type := 4, pos := "l05_schema.go:134", after := #[{ on := 7, ground := Ground.data }, { on := 11, ground := Ground.gcOnly Departure.lateStores }], guard := none }) (v := ?_) rfl (by kernel_rfl) (by kernel_rfl) (by kernel_rfl) (fun _ _ _ h => h) (Or.inl ⟨by rfl, ?_⟩) (by assumption) ?_
        rotate_left
        · intro w hSw; (try dsimp only at hSw); go_simp; (try with_reducible rfl)
        (try simp only [Act.put, List.setIfInBounds_toArray, List.set_cons_zero, List.set_cons_succ])
        refine wpAnyH_ready (rs := [11]) (by kernel_rfl) (by simp) ?_
        refine AllReadyH.cons (o := { dst := none, op := Op.store 85 (Operand.tmp 7) (Operand.tmp 35), type := 0, pos := "l05_schema.go:134", after := #[{ on := 10, ground := Ground.data }, { on := 8, ground := Ground.data }, { on := 5, ground := Ground.chain }, { on := 0, ground := Ground.phase }, { on := 1, ground := Ground.phase }, { on := 2, ground := Ground.phase }, { on := 3, ground := Ground.phase }, { on := 4, ground := Ground.phase }, { on := 5, ground := Ground.phase }, { on := 6, ground := Ground.phase }, { on := 7, ground := Ground.phase }, { on := 8, ground := Ground.phase }, { on := 9, ground := Ground.textOnly Departure.lateStores }, { on := 10, ground := Ground.phase }], guard := none }) rfl (fun K hK => ?_) (AllReadyH.nil)
        have bx0 := HA.out.cell 0 rfl; have bx1 := HA.out.cell 1 rfl; have bx2 := HA.out.cell 2 rfl; have bx3 := HA.out.cell 3 rfl
        have bf0 := HA.out.soft 0; have bf1 := HA.out.soft 1; have bf2 := HA.out.soft 2; have bf3 := HA.out.soft 3
        go_simp
        clear bx0 bx1 bx2 bx3 bf0 bf1 bf2 bf3
        have DS : Below w4.heap.size w4 ((((y3.setCell ⟨y0.heap.size, 0, none⟩ (.string C.nm)).setCell ⟨y0.heap.size, 1, none⟩ (.slice o1 n1 k1)).setCell ⟨y0.heap.size, 2, none⟩ (.slice o2 n2 k2)).setCell ⟨y0.heap.size, 3, none⟩ (.slice o3 n3 k3)) := (((D3.setCell (p := ⟨y0.heap.size, 0, none⟩) HG _).setCell (p := ⟨y0.heap.size, 1, none⟩) HG _).setCell (p := ⟨y0.heap.size, 2, none⟩) HG _).setCell (p := ⟨y0.heap.size, 3, none⟩) HG _
        have BL := (((HA.out.set 0 (.string C.nm)).set 1 (.slice o1 n1 k1)).set 2 (.slice o2 n2 k2)).set 3 (.slice o3 n3 k3)
        clear hHeld
        refine hK.out _ _ ?_ (fun hHeld => ?_)
        · (try dsimp only)
          first | exact SK.out _ D0 | exact SK.out _ D1 | exact SK.out _ D2 | exact SK.out _ D3 | exact SK.out _ DS | exact SK.out _ (by assumption)
        clear hK K
        (try simp only [Act.put, List.setIfInBounds_toArray, List.set_cons_zero, List.set_cons_succ])
        refine wpAnyH_take (i := 12) (oi := { dst := some 8, op := Op.assign (Operand.tmp 36), type := 4, pos := "l05_schema.go:134", after := #[{ on := 9, ground := Ground.data }, { on := 11, ground := Ground.chain }, { on := 0, ground := Ground.phase }, { on := 1, ground := Ground.phase }, { on := 2, ground := Ground.phase }, { on := 3, ground := Ground.phase }, { on := 4, ground := Ground.phase }, { on := 5, ground := Ground.phase }, { on := 6, ground := Ground.phase }, { on := 7, ground := Ground.phase }, { on := 8, ground := Ground.phase }, { on := 9, ground := Ground.phase }, { on := 10, ground := Ground.phase }, { on := 11, ground := Ground.phase }], guard := none }) (v := ?_) rfl (by kernel_rfl) (by kernel_rfl) (by kernel_rfl) (fun _ _ _ h => h) (Or.inl ⟨by rfl, ?_⟩) (by assumption) ?_
        rotate_left
        · intro w hSw; (try dsimp only at hSw); go_simp; (try with_reducible rfl)
        (try simp only [Act.put, List.setIfInBounds_toArray, List.set_cons_zero, List.set_cons_succ])
        refine wpAnyH_done (by kernel_rfl) ?_ _
        refine ⟨.tuple #[.agg #[.string C.nm, .slice o1 n1 k1, .slice o2 n2 k2, .slice o3 n3 k3], .bool b], .slice so s.length cs, .map (some y1.heap.size), .slice (some ⟨p, off, none⟩) 1 vc, .pointer (some ⟨p, off, none⟩), .string x, .string (normS x), .tuple #[.agg #[.string C.nm, .slice o1 n1 k1, .slice o2 n2 k2, .slice o3 n3 k3], .bool b], .agg #[.string C.nm, .slice o1 n1 k1, .slice o2 n2 k2, .slice o3 n3 k3], y0.heap.size, o1, n1, k1, o2, n2, k2, o3, n3, k3, ?_, DS, HG, BL, HS3.out.1, HS3.out.2.1, HS3.out.2.2⟩
        first | rfl | (simp only [Act.put, List.setIfInBounds_toArray, List.set_cons_zero, List.set_cons_succ]; done) | (simp only [Act.put, List.setIfInBounds_toArray, List.set_cons_zero, List.set_cons_succ]; rfl)
    clear SK
    rintro a2 w5 ⟨t27, t28, t29, t30, t31, t32, t33, t34, t35, g, o1, n1, k1, o2, n2, k2, o3, n3, k3, rfl, hb, hg, hbl, hs1, hs2, hs3⟩
    try simp only [Act.put, List.setIfInBounds_toArray, List.set_cons_zero, List.set_cons_succ]
    have B5 := Lib.hid (B4.out.trans (hb.mono B4.out.size)); have Q5 := Lib.hid (Q4.out.below hb); have C5 := Lib.hid hbl
    have HS1 := Lib.hid hs1; have HS2 := Lib.hid hs2; have HS3 := Lib.hid hs3
    clear hb hbl hs1 hs2 hs3 B4 Q4
    have rf0 := Q5.out.soft 0; have rf1 := Q5.out.soft 1; have rf2 := Q5.out.soft 2; have rf3 := Q5.out.soft 3
    have rz0 := Q5.out.cell 0 rfl; have rz1 := Q5.out.cell 1 rfl; have rz2 := Q5.out.cell 2 rfl; have rz3 := Q5.out.cell 3 rfl
    cases hat : atC X (normS x) with
    | none =>
      rw [hat] at HBD HEx
      obtain rfl : b = false := HBD.out
      have HE : Hid (mineR X d l = some none) := HEx
      have TE := (((Q5.out.set 0 (.string ⟨#[]⟩)).set 1 (.slice none 0 0)).set 2 (.slice none 0 0)).set 3 (.slice none 0 0)
      have rj0 := TE.cell 0 rfl; have rj1 := TE.cell 1 rfl; have rj2 := TE.cell 2 rfl; have rj3 := TE.cell 3 rfl
      clear TE hat
      have BE := Lib.hid ((((B5.out.setCell (p := ⟨w.heap.size + 1, 0, none⟩) (Nat.le_succ _) (.string ⟨#[]⟩)).setCell (p := ⟨w.heap.size + 1, 1, none⟩) (Nat.le_succ _) (.slice none 0 0)).setCell (p := ⟨w.heap.size + 1, 2, none⟩) (Nat.le_succ _) (.slice none 0 0)).setCell (p := ⟨w.heap.size + 1, 3, none⟩) (Nat.le_succ _) (.slice none 0 0))
      go_wp2_with fail
      refine bodyPost_ret (v := .tuple #[.agg #[.string ⟨#[]⟩, .slice none 0 0, .slice none 0 0, .slice none 0 0], .iface 183 _]) (by simp [results, Tryz.results111, go_sem, rj0, rj1, rj2, rj3]; rfl) rfl ?_
      rw [HE.out]
      exact ⟨BE.out, _, _, rfl⟩
    | some ix =>
      rw [hat] at HBD HEx
      obtain rfl : b = true := HBD.out
      have HE : Hid (mineR X d l = some (some C)) := HEx
      have cx0 := C5.out.cell 0 rfl; have cx1 := C5.out.cell 1 rfl; have cx2 := C5.out.cell 2 rfl; have cx3 := C5.out.cell 3 rfl
      have TE := (((Q5.out.set 0 (.string C.nm)).set 1 (.slice o1 n1 k1)).set 2 (.slice o2 n2 k2)).set 3 (.slice o3 n3 k3)
      have rj0 := TE.cell 0 rfl; have rj1 := TE.cell 1 rfl; have rj2 := TE.cell 2 rfl; have rj3 := TE.cell 3 rfl
      clear TE hat
      have BE := Lib.hid ((((B5.out.setCell (p := ⟨w.heap.size + 1, 0, none⟩) (Nat.le_succ _) (.string C.nm)).setCell (p := ⟨w.heap.size + 1, 1, none⟩) (Nat.le_succ _) (.slice o1 n1 k1)).setCell (p := ⟨w.heap.size + 1, 2, none⟩) (Nat.le_succ _) (.slice o2 n2 k2)).setCell (p := ⟨w.heap.size + 1, 3, none⟩) (Nat.le_succ _) (.slice o3 n3 k3))
      go_wp2_with fail
      refine bodyPost_ret (v := .tuple #[.agg #[.string C.nm, .slice o1 n1 k1, .slice o2 n2 k2, .slice o3 n3 k3], .nilIface]) (by simp [results, Tryz.results111, go_sem, rj0, rj1, rj2, rj3]) rfl ?_
      rw [HE.out]
      exact ⟨BE.out, _, _, _, rfl, HS1.out.below BE.out, HS2.out.below BE.out, HS3.out.below BE.out⟩
end Go.Proofs.YtohcdpoffpnfhaaGreatDoor
/- Missing: the names of an entry. -/
namespace Go.Proofs.YtohcdpoffpnfhaaGreatDoor
open Go.RowKit
attribute [local go_sem ↓] Go.wp_at_zero Go.wp_at_succ

/-- the names of the attributes -/
def namesA (l : List AttrV) : List ByteArray := l.map (·.1)
theorem namesA_succ (l : List AttrV) (k : Nat) (h : k < l.length) : namesA (l.take (k + 1)) = namesA (l.take k) ++ [l[k].1] := by
  unfold namesA; rw [List.take_succ_eq_append_getElem h, List.map_append]; rfl
theorem namesA_len (l : List AttrV) (k : Nat) : (namesA (l.take k)).length ≤ l.length := by
  unfold namesA; rw [List.length_map, List.length_take]; omega
set_option maxRecDepth 100000 in
set_option maxHeartbeats 1000000 in
theorem attrNames_any (d : RdnL) (ao bo : Option Addr) (l : List AttrV) (ca cb : Nat) (w : World) (hd : AttrsAt w bo l) (hf : FitsA l) :
    Calls Tryz.prog 159 #[.agg #[.slice ao d.length ca, .slice bo l.length cb]] w (GivesV w (namesA l)) := by
  have hl := hf.1
  have HD := Lib.hid hd; clear hd
  go_enter Tryz.func159, Tryz.ntmps159
  go_wp2_with fail
  go_loopw [3, 9] (fun v i wr => ∃ k : Nat, k ≤ l.length ∧ i = .int .i64 k ∧ wr.ownsRow w.heap.size 9 1 v (namesA (l.take k)).length (ss (namesA (l.take k))) ∧ Below w.heap.size w wr) (fun _ i _ => l.length - (intOf i).toNat)
  case atStart => exact ⟨0, Nat.zero_le _, rfl, ⟨rfl, .inl ⟨rfl, rfl⟩⟩, more' (Below.refl _ _) _⟩
  case round =>
    obtain ⟨k, hk, rfl, hown, hbel⟩ := hrel
    have hsz := hbel.size
    by_cases hlt : k < l.length
    · obtain ⟨p, off, vo, vc, rfl, hp0, hd1, hd2, hv⟩ := HD.out.at hlt
      have c1 := (hbel.cell (p := ⟨p, off + k * 2, none⟩) hp0).trans hd1
      have c2 := (hbel.cell (p := ⟨p, off + k * 2 + 1, none⟩) hp0).trans hd2
      have hp1 : p < wr.heap.size := Nat.lt_of_lt_of_le hp0 hsz
      have HN := Lib.hid (namesA_succ l k hlt)
      have HL : Hid ((namesA (l.take k)).length ≤ 1000000000) := Lib.hid (by have := namesA_len l k; omega)
      have g1 : (0 : Int) ≤ (k : Int) := by omega
      have g2 : (k : Int) < (l.length : Int) := by omega
      clear hd1 hd2 hv
      generalize l[k].1 = A at *
      generalize l[k].2 = V at *
      generalize namesA (l.take k) = pre at *
      have HO := Lib.hid (hown.alloc (.cells #[.string A, .slice vo V.length vc] 141))
      have HB := Lib.hid (more' hbel (.cells #[.string A, .slice vo V.length vc] 141))
      clear hown hbel
      go_wp2_with (first
        | (at_builtin; refine append_str w.heap.size rfl _ _ rfl _ pre rfl HO.out _ (by show Value.slice (some ⟨wr.heap.size + 1, 0, none⟩) 1 1 = _; simp) HL.out HB.out.size HB.out ?_; intro v4 w4 hown4 hbel4 hsz4 _ _)
        | (fail "none"))
      go_roundw
      case rel => exact ⟨k + 1, by omega, by go_num, by rw [HN.out]; exact hown4, hbel4⟩
      case measure => simp [intOf]; omega
    · obtain rfl : k = l.length := by omega
      have HO : Hid (wr.ownsRow w.heap.size 9 1 u3 (namesA l).length (ss (namesA l))) := Lib.hid (by have h := hown; rw [List.take_length] at h; exact h)
      clear hown
      go_wp2
      go_ret
      exact ⟨⟨_, rfl, HO.out⟩, hbel⟩
end Go.Proofs.YtohcdpoffpnfhaaGreatDoor
/- Missing: the names that an entry misses. -/
namespace Go.Proofs.YtohcdpoffpnfhaaGreatDoor
open Go.RowKit
attribute [local go_sem ↓] Go.wp_at_zero Go.wp_at_succ

theorem own_lower {w : World} {B B' : Nat} {e : TypeId} {k : Nat} {v : Value} {n : Nat} {xs : List Value} (h : w.ownsRow B e k v n xs) (hb : B' ≤ B) : w.ownsRow B' e k v n xs := by
  obtain ⟨h1, h2⟩ := h
  refine ⟨h1, ?_⟩
  rcases h2 with h2 | ⟨g, cap, cur, a, b, r⟩
  · exact .inl h2
  · exact .inr ⟨g, cap, cur, a, Nat.le_trans hb b, r⟩
set_option maxRecDepth 100000 in
set_option maxHeartbeats 8000000 in
theorem missingNames_any (c : ClassV) (v1 v2 v3 : Value) (d : RdnL) (ao bo : Option Addr) (l : List AttrV) (ca cb : Nat) (w : World) (h1 : SlV w v1 c.must) (h2 : IsSl v2) (h3 : IsSl v3) (hc : c.must.length ≤ 1048576) (hd : AttrsAt w bo l) (hf : FitsA l) :
    Calls Tryz.prog 157 #[.agg #[.string c.nm, v1, v2, v3], .agg #[.slice ao d.length ca, .slice bo l.length cb]] w (GivesV w (besideV c.must (namesA l))) := by
  obtain ⟨o2, n2, k2, rfl⟩ := h2
  obtain ⟨o3, n3, k3, rfl⟩ := h3
  obtain ⟨o1, k1, rfl, hm⟩ := h1
  have hl := hf.1
  have HM := Lib.hid hm.1; have HD := Lib.hid hd; have HF := Lib.hid hf; clear hm hd hf
  go_enter Tryz.func157, Tryz.ntmps157
  go_wp2_with fail
  obtain ⟨Y, hY⟩ : ∃ X, X = (w.alloc (.cells #[.string c.nm, .slice o1 c.must.length k1, .slice o2 n2 k2, .slice o3 n3 k3] 85)).alloc (.cells #[.slice ao d.length ca, .slice bo l.length cb] 35) := ⟨_, rfl⟩
  have BY : Below w.heap.size w Y := by rw [hY]; exact more' (more' (Below.refl _ _) _) _
  have Q1 : Blk Y w.heap.size [.string c.nm, .slice o1 c.must.length k1, .slice o2 n2 k2, .slice o3 n3 k3] := by rw [hY]; exact (Blk.new _ _ _).alloc _
  have E0 : Blk Y (w.heap.size + 1) [.slice ao d.length ca, .slice bo l.length cb] := by rw [hY]; exact Blk.new1 _ _ _ _
  rw [← hY]
  clear hY
  have BYh := Lib.hid BY
  have K3 : Hid (∀ W : World, Below Y.heap.size Y W → Calls Tryz.prog 159 #[.agg #[.slice ao d.length ca, .slice bo l.length cb]] W (GivesV W (namesA l))) := Lib.hid (fun W h => attrNames_any d ao bo l ca cb W (HD.out.below (BYh.out.trans (h.mono BYh.out.size))) HF.out)
  have K4 : Hid (∀ (W : World) (no : Option Addr) (nc : Nat), Below Y.heap.size Y W → StrsAt W no (namesA l) → Calls Tryz.prog 158 #[.slice o1 c.must.length k1, .slice no (namesA l).length nc] W (GivesV W (besideV c.must (namesA l)))) := Lib.hid (fun W no nc h hn => beside_any o1 no c.must (namesA l) k1 nc W (HM.out.below (BYh.out.trans (h.mono BYh.out.size))) hn hc (by unfold namesA; rw [List.length_map]; omega))
  have HQ1 := Lib.hid Q1; have HE0 := Lib.hid E0
  clear Q1 E0 BY HM HD HF
  go_wp2_with fail
  have SK : Hid (∀ Z' : World, Below Y.heap.size Y Z' → Z'.cell? ⟨w.heap.size, 1, none⟩ = some (.slice o1 c.must.length k1) ∧ Z'.cell? ⟨w.heap.size + 1, 0, none⟩ = some (.slice ao d.length ca) ∧ Z'.cell? ⟨w.heap.size + 1, 1, none⟩ = some (.slice bo l.length cb)) := Lib.hid (fun Z' h => ⟨(HQ1.out.below h).cell 1 rfl, (HE0.out.below h).cell 0 rfl, (HE0.out.below h).cell 1 rfl⟩)
  have BD : Below Y.heap.size Y Y.drew := (Below.refl _ _).drew
  refine wp_region_held_drew (S := (fun Z' => Z'.cell? ⟨w.heap.size, 1, none⟩ = some (.slice o1 c.must.length k1) ∧ Z'.cell? ⟨w.heap.size + 1, 0, none⟩ = some (.slice ao d.length ca) ∧ Z'.cell? ⟨w.heap.size + 1, 1, none⟩ = some (.slice bo l.length cb))) (by kernel_rfl) ?_ (fun hHeld => ?_)
  · (try dsimp only)
    first | exact SK.out _ (by assumption) | exact SK.out _ BD | exact SK.out _ (more' (by assumption) _) | exact SK.out _ (more' BD _)
  refine wpAnyH_take (i := 0) (oi := { dst := some 5, op := Op.fieldAddr 85 (Operand.tmp 2) 1, type := 0, pos := "l05_schema.go:150", after := #[], guard := none }) (v := ?_) rfl (by kernel_rfl) (by kernel_rfl) (by kernel_rfl) (fun _ _ _ h => h) (Or.inl ⟨by rfl, ?_⟩) (by assumption) ?_
  rotate_left
  · intro w hSw; (try dsimp only at hSw); go_simp; (try with_reducible rfl)
  (try simp only [Act.put, List.setIfInBounds_toArray, List.set_cons_zero, List.set_cons_succ])
  refine wpAnyH_take (i := 1) (oi := { dst := some 6, op := Op.load 79 (Operand.tmp 5), type := 79, pos := "l05_schema.go:150", after := #[{ on := 0, ground := Ground.data }], guard := none }) (v := ?_) rfl (by kernel_rfl) (by kernel_rfl) (by kernel_rfl) (fun _ _ _ h => h) (Or.inl ⟨by rfl, ?_⟩) (by assumption) ?_
  rotate_left
  · intro w hSw; (try dsimp only at hSw); go_simp; (try with_reducible rfl)
  (try simp only [Act.put, List.setIfInBounds_toArray, List.set_cons_zero, List.set_cons_succ])
  refine wpAnyH_take (i := 2) (oi := { dst := some 7, op := Op.load 35 (Operand.tmp 3), type := 35, pos := "l05_schema.go:150", after := #[], guard := none }) (v := ?_) rfl (by kernel_rfl) (by kernel_rfl) (by kernel_rfl) (fun _ _ _ h => h) (Or.inl ⟨by rfl, ?_⟩) (by assumption) ?_
  rotate_left
  · intro w hSw; (try dsimp only at hSw); go_simp; (try with_reducible rfl)
  (try simp only [Act.put, List.setIfInBounds_toArray, List.set_cons_zero, List.set_cons_succ])
  refine wpAnyH_ready (rs := [3]) (by kernel_rfl) (by simp) ?_
  refine AllReadyH.cons (o := { dst := some 8, op := Op.call { callee := Callee.value (Operand.func 159), args := #[Operand.tmp 7], argTypes := #[35] }, type := 79, pos := "l05_schema.go:150", after := #[{ on := 2, ground := Ground.data }], guard := none }) rfl (fun K hK => ?_) (AllReadyH.nil)
  go_simp
  refine (K3.out _ (by first | exact BD | assumption)).mono ?_
  rintro e y1 ⟨⟨v, rfl, o1'⟩, q1⟩
  obtain ⟨no, nc, hv, hns⟩ := own_slv o1'
  subst hv
  have d1 := BD.trans (q1.mono BD.size)
  have HNs := Lib.hid hns
  clear o1' hns q1
  clear hHeld
  refine hK.out _ _ ?_ (fun hHeld => ?_)
  · (try dsimp only)
    first | exact SK.out _ (by assumption) | exact SK.out _ BD | exact SK.out _ (more' (by assumption) _) | exact SK.out _ (more' BD _)
  clear hK K
  (try simp only [Act.put, List.setIfInBounds_toArray, List.set_cons_zero, List.set_cons_succ])
  refine wpAnyH_ready (rs := [4]) (by kernel_rfl) (by simp) ?_
  refine AllReadyH.cons (o := { dst := some 9, op := Op.call { callee := Callee.value (Operand.func 158), args := #[Operand.tmp 6, Operand.tmp 8], argTypes := #[79, 79] }, type := 79, pos := "l05_schema.go:150", after := #[{ on := 1, ground := Ground.data }, { on := 3, ground := Ground.data }, { on := 3, ground := Ground.chain }], guard := none }) rfl (fun K hK => ?_) (AllReadyH.nil)
  go_simp
  refine (K4.out y1 no nc d1 HNs.out).mono ?_
  rintro e y2 ⟨hR, q2⟩
  obtain ⟨v, rfl, o2'⟩ := hR
  have O2 := Lib.hid o2'
  have d2 := d1.trans (q2.mono d1.size)
  clear o2' q2
  clear hHeld
  refine hK.out _ _ ?_ (fun hHeld => ?_)
  · (try dsimp only)
    first | exact SK.out _ (by assumption) | exact SK.out _ BD | exact SK.out _ (more' (by assumption) _) | exact SK.out _ (more' BD _)
  clear hK K
  (try simp only [Act.put, List.setIfInBounds_toArray, List.set_cons_zero, List.set_cons_succ])
  refine wpAnyH_take (i := 5) (oi := { dst := some 4, op := Op.assign (Operand.tmp 9), type := 79, pos := "l05_schema.go:150", after := #[{ on := 4, ground := Ground.data }, { on := 4, ground := Ground.chain }, { on := 0, ground := Ground.phase }, { on := 1, ground := Ground.phase }, { on := 2, ground := Ground.phase }, { on := 3, ground := Ground.phase }, { on := 4, ground := Ground.phase }], guard := none }) (v := ?_) rfl (by kernel_rfl) (by kernel_rfl) (by kernel_rfl) (fun _ _ _ h => h) (Or.inl ⟨by rfl, ?_⟩) (by assumption) ?_
  rotate_left
  · intro w hSw; (try dsimp only at hSw); go_simp; (try with_reducible rfl)
  (try simp only [Act.put, List.setIfInBounds_toArray, List.set_cons_zero, List.set_cons_succ])
  refine wpAnyH_done (by kernel_rfl) ?_ _
  clear SK
  go_wp2
  go_ret
  exact ⟨⟨_, rfl, own_lower O2.out (Nat.le_trans BYh.out.size (d1.size))⟩, BYh.out.trans (d2.mono BYh.out.size)⟩
end Go.Proofs.YtohcdpoffpnfhaaGreatDoor
/- Missing: what the program returns. -/
namespace Go.Proofs.YtohcdpoffpnfhaaGreatDoor
open Go.RowKit
attribute [local go_sem ↓] Go.wp_at_zero Go.wp_at_succ

/-- the names that an entry misses -/
noncomputable def missR (s : List ClassT) (d : RdnL) (l : List AttrV) : List ByteArray := match mineR (s.map toCV) d l with
  | some (some c) => besideV c.must (namesA l)
  | _ => []
theorem mine_in {X : List ClassV} {d : RdnL} {l : List AttrV} {c : ClassV} (h : mineR X d l = some (some c)) : c ∈ X := by
  unfold mineR at h
  split at h
  · split at h
    · rename_i v hv
      injection h with h
      cases ha : atC X (normS v) with
      | none => rw [ha] at h; cases h
      | some i =>
        obtain ⟨hi, _, h2, _⟩ := atC_some ha
        rw [ha] at h
        injection h with h
        rw [← h, h2]
        exact List.getElem_mem hi
    · cases h
  · cases h
theorem mine_fits {s : List ClassT} {d : RdnL} {l : List AttrV} {c : ClassV} (hz : s.length + szL classE s ≤ 1048576) (h : mineR (s.map toCV) d l = some (some c)) : FitsV c.must := by
  obtain ⟨_, h1, _, _⟩ := (fits_classes hz).2 c (mine_in h)
  exact h1
theorem beside_fits {V m : List ByteArray} (h : FitsV V) : FitsV (besideV V m) := ⟨Nat.le_trans (List.length_filter_le _ _) h.1, fun x hx => h.2 x ((List.mem_filter.1 hx).1)⟩
end Go.Proofs.YtohcdpoffpnfhaaGreatDoor
/- The values of an attribute: what the specification finds. -/
namespace Go.Proofs.YtohcdpoffpnfhaaGreatDoor
open Go.RowKit
attribute [local go_sem ↓] Go.wp_at_zero Go.wp_at_succ

theorem name_eq (a b : ByteArray) : (a.toList == b.toList) = decide (a = b) := by
  rw [Lib.toList_data, Lib.toList_data, Bool.eq_iff_iff]
  simp only [beq_iff_eq, decide_eq_true_eq]
  constructor
  · intro h; exact ByteArray.ext (Array.toList_inj.1 h)
  · intro h; rw [h]
def atI (l : List AttrV) (nm : ByteArray) : Int := match atN l nm with | some i => (i : Int) | none => -1
theorem atI_none {l : List AttrV} {nm : ByteArray} (h : ∀ i (hi : i < l.length), l[i].1 ≠ nm) : atI l nm = -1 := by
  have : atN l nm = none := by
    unfold atN
    rw [List.findIdx?_eq_none_iff]
    intro a ha
    obtain ⟨i, hi, rfl⟩ := List.getElem_of_mem ha
    simpa using h i hi
  unfold atI; rw [this]
theorem atI_some {l : List AttrV} {nm : ByteArray} {k : Nat} (hk : k < l.length) (h1 : l[k].1 = nm) (h : ∀ i (hi : i < l.length), i < k → l[i].1 ≠ nm) : atI l nm = (k : Int) := by
  have : atN l nm = some k := by
    unfold atN
    rw [List.findIdx?_eq_some_iff_getElem]
    exact ⟨hk, by simpa using h1, fun j hj => by simpa using h j (by omega) hj⟩
  unfold atI; rw [this]
set_option maxRecDepth 100000 in
set_option maxHeartbeats 1000000 in
theorem l03At_any (ao bo : Option Addr) (d : RdnL) (l : List AttrV) (ca cb : Nat) (nm : ByteArray) (w : World) (hl : AttrsAt w bo l) (hfl : FitsA l) :
    Calls Tryz.prog 107 #[.agg #[.slice ao d.length ca, .slice bo l.length cb], .string nm] w fun e w' => e = .returned (.int .i64 (atI l nm)) ∧ Below w.heap.size w w' := by
  have hll := hfl.1
  have HL := Lib.hid hl; have FL := Lib.hid hfl; clear hl hfl
  go_enter Tryz.func107, Tryz.ntmps107
  go_wp2_with fail
  refine wp_world (fun W => Below w.heap.size w W ∧ Blk W w.heap.size [.slice ao d.length ca, .slice bo l.length cb]) ⟨more' (Below.refl _ _) _, Blk.new _ _ _⟩ ?_
  rintro W ⟨hbW, t0⟩
  have BW := Lib.hid hbW; have T0 := Lib.hid t0
  clear hbW t0
  have c1 := T0.out.cell 1 rfl
  go_wp2_with fail
  go_loop [5] (fun i => ∃ k : Nat, k ≤ l.length ∧ i = .int .i64 k ∧ ∀ j (hj : j < l.length), j < k → l[j].1 ≠ nm) (fun i => l.length - (intOf i).toNat)
  case atStart => exact ⟨0, Nat.zero_le _, rfl, fun j _ h => absurd h (Nat.not_lt_zero _)⟩
  case round =>
    obtain ⟨k, hk, rfl, hj⟩ := hrel
    have Hj := Lib.hid hj; clear hj
    by_cases hlt : k < l.length
    · obtain ⟨p, off, vo, vc, rfl, hp0, hd1, hd2, _⟩ := (HL.out.below BW.out).at hlt
      have g1 : (0 : Int) ≤ (k : Int) := by omega
      have g2 : (k : Int) < (l.length : Int) := by omega
      by_cases he : l[k].1 = nm
      · have HT := Lib.hid (atI_some hlt he Hj.out)
        have hq : (l[k].1.toList == nm.toList) = true := by rw [name_eq]; simpa using he
        clear he
        generalize l[k].1 = A at *
        go_wp2
        go_ret
        exact ⟨ret_int' HT.out.symm, BW.out⟩
      · have HN : Hid (∀ j (hj : j < l.length), j < k + 1 → l[j].1 ≠ nm) := Lib.hid (fun j h hjk => by
          by_cases e : j = k
          · subst e; exact he
          · exact Hj.out j h (by omega))
        have hq : (l[k].1.toList == nm.toList) = false := by rw [name_eq]; simpa using he
        clear he
        generalize l[k].1 = A at *
        go_wp2
        go_round
        case rel => exact ⟨k + 1, by omega, by go_num, HN.out⟩
        case measure => simp [intOf]; omega
    · have HT := Lib.hid (atI_none (l := l) (nm := nm) (fun i hi => Hj.out i hi (by omega)))
      go_wp2
      go_ret
      exact ⟨ret_int' HT.out.symm, BW.out⟩
/-- the texts of an attribute, where they lie -/
def GivesAt (w : World) (V : List ByteArray) (e : Ending) (w' : World) : Prop := (∃ vo vc, e = .returned (.slice vo V.length vc) ∧ ValsAt w' vo vc V) ∧ Below w.heap.size w w'
theorem of_at {l : List AttrV} {nm : ByteArray} (h : atI l nm < 0) : valsOf l nm = [] := by
  unfold atI at h
  cases ha : atN l nm with
  | none => exact (atN_none ha).2
  | some i => rw [ha] at h; simp at h; omega
theorem of_at' {l : List AttrV} {nm : ByteArray} (h : ¬ atI l nm < 0) : ∃ k, ∃ hk : k < l.length, atI l nm = (k : Int) ∧ valsOf l nm = l[k].2 := by
  unfold atI at h ⊢
  cases ha : atN l nm with
  | none => rw [ha] at h; simp at h
  | some i =>
    obtain ⟨hi, _, h2, _⟩ := atN_some ha
    exact ⟨i, hi, rfl, h2⟩
set_option maxRecDepth 100000 in
set_option maxHeartbeats 1000000 in
theorem l03Of_any (ao bo : Option Addr) (d : RdnL) (l : List AttrV) (ca cb : Nat) (nm : ByteArray) (w : World) (hl : AttrsAt w bo l) (hfl : FitsA l) :
    Calls Tryz.prog 151 #[.agg #[.slice ao d.length ca, .slice bo l.length cb], .string nm] w (GivesAt w (valsOf l nm)) := by
  have hll := hfl.1
  have HL := Lib.hid hl; have FL := Lib.hid hfl; clear hl hfl
  go_enter Tryz.func151, Tryz.ntmps151
  go_wp2_with fail
  refine calls_by (fun W => Below w.heap.size w W ∧ Blk W w.heap.size [.slice ao d.length ca, .slice bo l.length cb]) ⟨more' (Below.refl _ _) _, Blk.new _ _ _⟩ ?_
  rintro W ⟨hbW, t0⟩
  refine (l03At_any ao bo d l ca cb nm W (HL.out.below hbW) FL.out).mono ?_
  rintro e w1 ⟨rfl, hb1⟩
  have B1 := Lib.hid (hbW.trans (hb1.mono hbW.size)); have T1 := Lib.hid (t0.below hb1)
  clear hbW t0 hb1
  by_cases h : atI l nm < 0
  · have HV := Lib.hid (of_at h)
    generalize atI l nm = q at *
    go_wp2
    go_ret
    exact ⟨⟨none, 0, by rw [HV.out]; rfl, by rw [HV.out]; exact ⟨.inl rfl, Nat.le_refl _, fun _ => rfl⟩⟩, B1.out⟩
  · obtain ⟨k, hk, e1, e2⟩ := of_at' h
    rw [e1]
    have HV := Lib.hid e2
    clear h e1 e2
    have c1 := T1.out.cell 1 rfl
    obtain ⟨p, off, vo, vc, rfl, hp0, hd1, hd2, hv⟩ := (HL.out.below B1.out).at hk
    have HVv := Lib.hid hv
    have g0 : ¬ (k : Int) < 0 := by omega
    have g1 : (0 : Int) ≤ (k : Int) := by omega
    have g2 : (k : Int) < (l.length : Int) := by omega
    clear hv hd1
    generalize l[k].2 = V at *
    go_wp2
    go_ret
    exact ⟨⟨vo, vc, by rw [HV.out]; rfl, by rw [HV.out]; exact HVv.out⟩, B1.out⟩
end Go.Proofs.YtohcdpoffpnfhaaGreatDoor
