/- Merged texts: MsT, MsZ, szString, szClass, toString, toClass, eqString, eqClass, szRdn, szAttr, szEntry, toRdn. -/
import Derived.Test.YtmanlnlhpgdbpaaDoorM10
import Derived.Test.YtmanlnlhpgdbpaaDoorM11
import Derived.Test.YtmanlnlhpgdbpaaDoorM5
import Derived.Test.YtmanlnlhpgdbpaaDoorM2
import Derived.Laws.MakeOwn
import Derived.SliceStrings
/- Missing: what the specification returns. -/
namespace Go.Proofs.YtmanlnlhpgdbpaaDoor
open Go.RowKit
attribute [local go_sem ↓] Go.wp_at_zero Go.wp_at_succ

theorem missR_yes {s : List ClassT} {d : RdnL} {l : List AttrV} (h1 : schemaB (s.map toCV) = true) (h2 : rightB d l = true) : missR s d l = match mineC (s.map toCV) l with | some c => besideV c.must (namesA l) | none => [] := by
  unfold missR
  rw [mine_right h1 h2]
  cases mineC (s.map toCV) l <;> rfl
theorem missR_no {s : List ClassT} {d : RdnL} {l : List AttrV} (h : schemaB (s.map toCV) = false ∨ rightB d l = false) : missR s d l = [] := by
  unfold missR
  rw [mine_no h]
theorem schemaB_len {X : List ClassV} (h : schemaB X = true) : X.length ≤ 6 := by
  unfold schemaB at h
  simp only [Bool.and_eq_true, decide_eq_true_eq] at h
  exact h.1
theorem own_emptyM (w : World) {B g : Nat} (hg : g = w.heap.size) (hB : B ≤ g) : (w.alloc (.cells #[] 9)).ownsRow B 9 1 (.slice (some ⟨g, 0, none⟩) 0 0) 0 (ss []) := by
  subst hg
  exact ⟨rfl, .inr ⟨w.heap.size, 0, #[], rfl, hB, heap_alloc_new w _, by simp, by unfold maxLen; simp, rfl, rfl⟩⟩
theorem Blk.grew {w w' : World} {g : Nat} {r : Option Nat} {cs : List Value} (h : Blk w g cs) (hg : w.grownBy w' r) (hne : r ≠ some g) : Blk w' g cs := by
  have hl := h.lt
  obtain ⟨T, e⟩ := h
  exact ⟨T, (hg.block g hl (fun e => hne e.symm)).trans e⟩
theorem besideA_succ (M : List ByteArray) (l : List AttrV) (k : Nat) (h : k < M.length) : besideV (M.take (k + 1)) (namesA l) = besideV (M.take k) (namesA l) ++ (if atI l M[k] < 0 then [M[k]] else []) := by
  rw [besideV_succ _ _ _ h]
  congr 1
  generalize M[k] = x
  by_cases hx : atI l x < 0
  · rw [if_pos hx]
    have hn : hasS (namesA l) x = false := hasS_no fun j hj => by
      have hj' : j < l.length := by simpa [namesA] using hj
      have e : (namesA l)[j] = l[j].1 := by simp [namesA]
      rw [e, name_eq, decide_eq_false_iff_not]
      intro he
      have h1 : atN l x ≠ none := by
        intro h0
        exact (atN_none h0).1 _ (List.getElem_mem hj') he
      unfold atI at hx
      cases ha : atN l x with
      | none => exact h1 ha
      | some i => rw [ha] at hx; simp at hx; omega
    rw [hn]; rfl
  · rw [if_neg hx]
    have hy : hasS (namesA l) x = true := by
      unfold atI at hx
      cases ha : atN l x with
      | none => rw [ha] at hx; simp at hx
      | some i =>
        obtain ⟨hi, h1, _, _⟩ := atN_some ha
        have hi' : i < (namesA l).length := by simpa [namesA] using hi
        refine hasS_yes (k := i) hi' ?_
        have e : (namesA l)[i] = l[i].1 := by simp [namesA]
        rw [e, name_eq, h1]; simp
    rw [hy]; rfl
set_option maxRecDepth 100000 in
set_option maxHeartbeats 4000000 in
theorem SpecMissing_any {S1 S2 S3 : Bs} (so : Option Addr) (s : List ClassT) (cs : Nat) (ao bo : Option Addr) (d : RdnL) (l : List AttrV) (ca cb : Nat) (w : World) (hs : SlAt classE S1 w s (.slice so s.length cs)) (hd : SlAt rdnE S2 w d (.slice ao d.length ca)) (hl : SlAt attrE S3 w l (.slice bo l.length cb)) (hzs : s.length + szL classE s ≤ 1048576) (hzd : d.length + szL rdnE d ≤ 1048576) (hzl : l.length + szL attrE l ≤ 1048576) :
    Calls Tryd.prog 6 #[.slice so s.length cs, .agg #[.slice ao d.length ca, .slice bo l.length cb]] w (GivesV w (missR s d l)) := by
  have FL := Lib.hid (fits_attrs hzl)
  have HL := Lib.hid (attrs_of hl)
  have FM : Hid (∀ c, mineC (s.map toCV) l = some c → schemaB (s.map toCV) = true → rightB d l = true → FitsV c.must) := Lib.hid (fun c h h1 h2 => mine_fits hzs (by rw [mine_right h1 h2, h]))
  have CS : Hid (∀ W : World, Below w.heap.size w W → Calls Tryd.prog 20 #[.slice so s.length cs] W fun e w' => e = .returned (.bool (schemaB (s.map toCV))) ∧ Below W.heap.size W w') := Lib.hid (fun W b => by
    have h1 := SpecSchemaRight_any so (s.map toCV) cs W ((classes_of hs).below b) (fits_classes hzs)
    rw [List.length_map] at h1
    exact h1)
  have CE : Hid (∀ W : World, Below w.heap.size w W → Calls Tryd.prog 21 #[.agg #[.slice ao d.length ca, .slice bo l.length cb]] W fun e w' => e = .returned (.bool (rightB d l)) ∧ Below W.heap.size W w') := Lib.hid (fun W b => SpecEntryRight_any ao bo d l ca cb W ((dn_of hd).below b) ((attrs_of hl).below b) (fits_dn hzd) (fits_attrs hzl))
  have CM : Hid (∀ W : World, Below w.heap.size w W → Calls Tryd.prog 22 #[.slice so s.length cs, .agg #[.slice ao d.length ca, .slice bo l.length cb]] W (GivesC w W (mineC (s.map toCV) l))) := Lib.hid (fun W b => by
    have h1 := l05Mine_any w so (s.map toCV) cs ao bo d l ca cb W b (classes_of hs) (fits_classes hzs) ((attrs_of hl).below b) (fits_attrs hzl)
    rw [List.length_map] at h1
    exact h1)
  have CA : Hid (∀ (W : World) (nm : ByteArray), Below w.heap.size w W → Calls Tryd.prog 23 #[.agg #[.slice ao d.length ca, .slice bo l.length cb], .string nm] W fun e w' => e = .returned (.int .i64 (atI l nm)) ∧ Below W.heap.size W w') := Lib.hid (fun W nm b => l03At_any ao bo d l ca cb nm W (HL.out.below b) FL.out)
  have R1 : Hid (schemaB (s.map toCV) = false → missR s d l = []) := Lib.hid (fun h => missR_no (.inl h))
  have R2 : Hid (rightB d l = false → missR s d l = []) := Lib.hid (fun h => missR_no (.inr h))
  have R3 : Hid (schemaB (s.map toCV) = true → rightB d l = true → missR s d l = match mineC (s.map toCV) l with | some c => besideV c.must (namesA l) | none => []) := Lib.hid (fun h1 h2 => missR_yes h1 h2)
  have R4 : Hid (schemaB (s.map toCV) = true → s.length ≤ 6) := Lib.hid (fun h => by have := schemaB_len h; rw [List.length_map] at this; exact this)
  clear hs hd hl hzs hzd hzl
  generalize missR s d l = R at *
  generalize hX : s.map toCV = X at *
  clear hX
  by_cases c0 : s.length ≤ 400
  rotate_left
  · have HE : Hid (R = []) := Lib.hid (R1.out (by cases h : schemaB X with | false => rfl | true => have := R4.out h; omega))
    have c0' : (400 : Int) < (s.length : Int) := by omega
    go_enter Tryd.func6, Tryd.ntmps6
    go_wp2_with fail
    go_ret
    exact ⟨⟨_, rfl, by rw [HE.out]; exact own_emptyM _ (by simp) (by simp)⟩, more' (more' (Below.refl _ _) _) _⟩
  have c0' : ¬ (400 : Int) < (s.length : Int) := by omega
  go_enter Tryd.func6, Tryd.ntmps6
  go_wp2_with fail
  refine calls_by (fun W => Below w.heap.size w W ∧ Blk W w.heap.size [.slice ao d.length ca, .slice bo l.length cb] ∧ W.ownsRow (w.heap.size + 1) 9 1 (.slice (some ⟨w.heap.size + 1, 0, none⟩) 0 0) 0 (ss []) ∧ w.heap.size + 1 < W.heap.size) ⟨more' (more' (Below.refl _ _) _) _, (Blk.new _ _ _).below (more' (Below.refl _ _) _), own_emptyM _ (by simp) (Nat.le_refl _), by simp⟩ ?_
  rintro W1 ⟨b1, e1, o1, z1⟩
  refine (CS.out W1 b1).mono ?_
  rintro e w2 ⟨rfl, hb⟩
  have B2 := Lib.hid (b1.trans (hb.mono b1.size)); have E2 := Lib.hid (e1.below hb); have O2 := Lib.hid (own_below o1 hb); have hz2 := Nat.lt_of_lt_of_le z1 hb.size
  clear b1 e1 o1 z1 hb
  obtain ⟨r, hr⟩ : ∃ r, r = schemaB X := ⟨_, rfl⟩
  rw [← hr]
  have HR := Lib.hid hr
  clear hr
  cases r
  · have HE := Lib.hid (R1.out HR.out.symm)
    go_wp2_with fail
    go_ret
    exact ⟨⟨_, rfl, by rw [HE.out]; exact own_lower O2.out (Nat.le_succ _)⟩, B2.out⟩
  have cz0 := E2.out.cell 0 rfl; have cz1 := E2.out.cell 1 rfl
  go_wp2_with fail
  refine (CE.out w2 B2.out).mono ?_
  rintro e w3 ⟨rfl, hb⟩
  have B3 := Lib.hid (B2.out.trans (hb.mono B2.out.size)); have E3 := Lib.hid (E2.out.below hb); have O3 := Lib.hid (own_below O2.out hb); have hz3 := Nat.lt_of_lt_of_le hz2 hb.size
  clear hb B2 E2 O2 cz0 cz1 hz2
  obtain ⟨r, hr⟩ : ∃ r, r = rightB d l := ⟨_, rfl⟩
  rw [← hr]
  have HRE := Lib.hid hr
  clear hr
  cases r
  · have HE := Lib.hid (R2.out HRE.out.symm)
    go_wp2_with fail
    go_ret
    exact ⟨⟨_, rfl, by rw [HE.out]; exact own_lower O3.out (Nat.le_succ _)⟩, B3.out⟩
  have HE := Lib.hid (R3.out HR.out.symm HRE.out.symm)
  have HFM : Hid (∀ c, mineC X l = some c → FitsV c.must) := Lib.hid (fun c h => FM.out c h HR.out.symm HRE.out.symm)
  clear R1 R2 R3 R4 FM CS CE
  have cz0 := E3.out.cell 0 rfl; have cz1 := E3.out.cell 1 rfl
  go_wp2_with fail
  refine (CM.out w3 B3.out).mono ?_
  rintro e w4 ⟨hb, hm⟩
  have B4 := Lib.hid (B3.out.trans (hb.mono B3.out.size)); have E4 := Lib.hid (E3.out.below hb); have O4 := Lib.hid (own_below O3.out hb); have hz4 := Nat.lt_of_lt_of_le hz3 hb.size
  clear hb B3 E3 O3 cz0 cz1 hz3 CM
  cases hM : mineC X l with
  | none =>
    rw [hM] at hm HE
    have HE2 : Hid (R = []) := HE
    obtain rfl := hm
    clear hM HFM
    have hO : Hid (w4.ownsRow w.heap.size 9 1 (.slice (some ⟨w.heap.size + 1, 0, none⟩) 0 0) 0 (ss [])) := Lib.hid (own_lower O4.out (Nat.le_succ _))
    go_wp2_with fail
    go_loopw [5, 8] (fun v i wr => i = .int .i64 0 ∧ v = .slice (some ⟨w.heap.size + 1, 0, none⟩) 0 0 ∧ wr = w4.alloc (.cells #[.string ⟨#[]⟩, .slice none 0 0, .slice none 0 0, .slice none 0 0] 52)) (fun _ _ _ => 0)
    case atStart => exact ⟨rfl, rfl, rfl⟩
    case round =>
      obtain ⟨rfl, rfl, rfl⟩ := hrel
      go_wp2
      go_ret
      exact ⟨⟨_, rfl, by rw [HE2.out]; exact hO.out.alloc _⟩, more' B4.out _⟩
  | some c =>
    rw [hM] at hm HE
    have HE2 : Hid (R = besideV c.must (namesA l)) := HE
    have HFC := Lib.hid (HFM.out c hM)
    obtain ⟨v1, v2, v3, rfl, s1, s2, s3⟩ := hm
    obtain ⟨o1, k1, rfl, hms⟩ := s1
    obtain ⟨o2, n2, k2, rfl⟩ := s2.sl
    obtain ⟨o3, n3, k3, rfl⟩ := s3.sl
    have HMs := Lib.hid hms.1
    clear hM HFM hms s2 s3
    have hO : Hid (w4.ownsRow w.heap.size 9 1 (.slice (some ⟨w.heap.size + 1, 0, none⟩) 0 0) 0 (ss [])) := Lib.hid (own_lower O4.out (Nat.le_succ _))
    have hMl := HFC.out.1
    generalize hcm : c.must = M at *
    generalize c.nm = cn at *
    go_wp2_with fail
    go_loopw [5, 8] (fun v i wr => ∃ k : Nat, k ≤ M.length ∧ i = .int .i64 (k : Int) ∧ wr.ownsRow w.heap.size 9 1 v (besideV (M.take k) (namesA l)).length (ss (besideV (M.take k) (namesA l))) ∧ (v.ownBlock ≠ some w.heap.size ∧ v.ownBlock ≠ some w4.heap.size) ∧ Below w.heap.size w wr ∧ Blk wr w.heap.size [.slice ao d.length ca, .slice bo l.length cb] ∧ Blk wr w4.heap.size [.string cn, .slice o1 M.length k1, .slice o2 n2 k2, .slice o3 n3 k3]) (fun _ i _ => M.length - (intOf i).toNat)
    case atStart => exact ⟨0, Nat.zero_le _, rfl, by simpa [besideV, ss] using hO.out.alloc _, ⟨by simp [Value.ownBlock], by simp [Value.ownBlock]; omega⟩, more' B4.out _, E4.out.alloc _, Blk.new _ _ _⟩
    case round =>
      obtain ⟨k, hk, rfl, hown, ⟨hn1, hn2⟩, hbel, hbe, hbc⟩ := hrel
      have HO := Lib.hid hown; have HBE := Lib.hid hbe; have HBC := Lib.hid hbc
      clear hown hbe hbc
      have cz1 := HBC.out.cell 1 rfl
      by_cases hlt : k < M.length
      · have HN := Lib.hid (besideA_succ M l k hlt)
        have HLn : Hid ((besideV (M.take k) (namesA l)).length ≤ 1000000000) := Lib.hid (by unfold besideV; exact Nat.le_trans (List.length_filter_le _ _) (by rw [List.length_take]; omega))
        obtain ⟨p, off, rfl, hp0, hcx⟩ : ∃ p off, o1 = some ⟨p, off, none⟩ ∧ p < w.heap.size ∧ w.cell? ⟨p, off + k, none⟩ = some (.string M[k]) := by
          rcases HMs.out with h | ⟨b, o, e, hb, hc⟩
          · subst h; simp at hlt
          · exact ⟨b, o, e, hb, hc k hlt⟩
        have HCX := Lib.hid ((hbel.cell (p := ⟨p, off + k, none⟩) hp0).trans hcx)
        have hp1 := Nat.lt_of_lt_of_le hp0 hbel.size
        clear hcx
        have g1 : (0 : Int) ≤ (k : Int) := by omega
        have g2 : (k : Int) < (M.length : Int) := by omega
        generalize M[k] = x at *
        generalize besideV (M.take k) (namesA l) = pre at *
        go_wp2_with fail
        have SK : Hid (∀ Z' : World, Below wr.heap.size wr Z' → Z'.cell? ⟨w.heap.size, 0, none⟩ = some (.slice ao d.length ca) ∧ Z'.cell? ⟨w.heap.size, 1, none⟩ = some (.slice bo l.length cb) ∧ Z'.cell? ⟨w4.heap.size, 1, none⟩ = some (.slice (some ⟨p, off, none⟩) M.length k1) ∧ Z'.cell? ⟨p, off + k, none⟩ = some (.string x)) := Lib.hid (fun Z' h => ⟨(HBE.out.below h).cell 0 rfl, (HBE.out.below h).cell 1 rfl, (HBC.out.below h).cell 1 rfl, (h.cell (p := ⟨p, off + k, none⟩) hp1).trans HCX.out⟩)
        have BD : Below wr.heap.size wr wr.drew := (Below.refl _ _).drew
        refine wp_region_held_drew (S := (fun Z' => Z'.cell? ⟨w.heap.size, 0, none⟩ = some (.slice ao d.length ca) ∧ Z'.cell? ⟨w.heap.size, 1, none⟩ = some (.slice bo l.length cb) ∧ Z'.cell? ⟨w4.heap.size, 1, none⟩ = some (.slice (some ⟨p, off, none⟩) M.length k1) ∧ Z'.cell? ⟨p, off + k, none⟩ = some (.string x))) (by kernel_rfl) ?_ (fun hHeld => ?_)
        · (try dsimp only)
          first | exact SK.out _ (by assumption) | exact SK.out _ BD | exact SK.out _ (more' (by assumption) _) | exact SK.out _ (more' BD _)
        refine wpAnyH_take (i := 0) (oi := { dst := some 40, op := Op.load 36 (Operand.tmp 3), type := 36, pos := "l05_schema.go:141", after := #[], guard := none }) (v := ?_) rfl (by kernel_rfl) (by kernel_rfl) (by kernel_rfl) (fun _ _ _ h => h) (Or.inl ⟨by rfl, ?_⟩) (by assumption) ?_
        rotate_left
        · intro w hSw; (try dsimp only at hSw); go_simp; (try with_reducible rfl)
        (try simp only [Act.put, List.setIfInBounds_toArray, List.set_cons_zero, List.set_cons_succ])
        refine wpAnyH_take (i := 1) (oi := { dst := some 41, op := Op.fieldAddr 52 (Operand.tmp 6) 1, type := 0, pos := "l05_schema.go:141", after := #[], guard := none }) (v := ?_) rfl (by kernel_rfl) (by kernel_rfl) (by kernel_rfl) (fun _ _ _ h => h) (Or.inl ⟨by rfl, ?_⟩) (by assumption) ?_
        rotate_left
        · intro w hSw; (try dsimp only at hSw); go_simp; (try with_reducible rfl)
        (try simp only [Act.put, List.setIfInBounds_toArray, List.set_cons_zero, List.set_cons_succ])
        refine wpAnyH_take (i := 2) (oi := { dst := some 42, op := Op.load 29 (Operand.tmp 41), type := 29, pos := "l05_schema.go:141", after := #[{ on := 1, ground := Ground.data }], guard := none }) (v := ?_) rfl (by kernel_rfl) (by kernel_rfl) (by kernel_rfl) (fun _ _ _ h => h) (Or.inl ⟨by rfl, ?_⟩) (by assumption) ?_
        rotate_left
        · intro w hSw; (try dsimp only at hSw); go_simp; (try with_reducible rfl)
        (try simp only [Act.put, List.setIfInBounds_toArray, List.set_cons_zero, List.set_cons_succ])
        refine wpAnyH_take (i := 3) (oi := { dst := some 43, op := Op.move (Operand.tmp 8), type := 3, pos := "l05_schema.go:141", after := #[], guard := none }) (v := ?_) rfl (by kernel_rfl) (by kernel_rfl) (by kernel_rfl) (fun _ _ _ h => h) (Or.inl ⟨by rfl, ?_⟩) (by assumption) ?_
        rotate_left
        · intro w hSw; (try dsimp only at hSw); go_simp; (try with_reducible rfl)
        (try simp only [Act.put, List.setIfInBounds_toArray, List.set_cons_zero, List.set_cons_succ])
        refine wpAnyH_take (i := 4) (oi := { dst := some 44, op := Op.indexAddr 29 (Operand.tmp 42) (Operand.tmp 43), type := 0, pos := "l05_schema.go:141", after := #[{ on := 2, ground := Ground.data }, { on := 3, ground := Ground.data }], guard := none }) (v := ?_) rfl (by kernel_rfl) (by kernel_rfl) (by kernel_rfl) (fun _ _ _ h => h) (Or.inl ⟨by rfl, ?_⟩) (by assumption) ?_
        rotate_left
        · intro w hSw; (try dsimp only at hSw); go_simp; (try with_reducible rfl)
        (try simp only [Act.put, List.setIfInBounds_toArray, List.set_cons_zero, List.set_cons_succ])
        refine wpAnyH_take (i := 5) (oi := { dst := some 45, op := Op.load 9 (Operand.tmp 44), type := 9, pos := "l05_schema.go:141", after := #[{ on := 4, ground := Ground.data }], guard := none }) (v := ?_) rfl (by kernel_rfl) (by kernel_rfl) (by kernel_rfl) (fun _ _ _ h => h) (Or.inl ⟨by rfl, ?_⟩) (by assumption) ?_
        rotate_left
        · intro w hSw; (try dsimp only at hSw); go_simp; (try with_reducible rfl)
        (try simp only [Act.put, List.setIfInBounds_toArray, List.set_cons_zero, List.set_cons_succ])
        refine wpAnyH_ready (rs := [6]) (by kernel_rfl) (by simp) ?_
        refine AllReadyH.cons (o := { dst := some 46, op := Op.call { callee := Callee.value (Operand.func 23), args := #[Operand.tmp 40, Operand.tmp 45], argTypes := #[36, 9] }, type := 3, pos := "l05_schema.go:141", after := #[{ on := 0, ground := Ground.data }, { on := 5, ground := Ground.data }], guard := none }) rfl (fun K hK => ?_) (AllReadyH.nil)
        go_simp
        refine (CA.out _ x (hbel.trans (BD.mono hbel.size))).mono ?_
        rintro e w5 ⟨rfl, hb⟩
        have D5 : Below wr.heap.size wr w5 := BD.trans (hb.mono BD.size)
        clear hb
        clear hHeld
        refine hK.out _ _ ?_ (fun hHeld => ?_)
        · (try dsimp only)
          first | exact SK.out _ (by assumption) | exact SK.out _ BD | exact SK.out _ (more' (by assumption) _) | exact SK.out _ (more' BD _)
        clear hK K
        (try simp only [Act.put, List.setIfInBounds_toArray, List.set_cons_zero, List.set_cons_succ])
        refine wpAnyH_take (i := 7) (oi := { dst := some 47, op := Op.binOp BinOp.lss 3 (Operand.tmp 46) (Operand.const (Value.int IntKind.i64 0)) 3, type := 4, pos := "l05_schema.go:141", after := #[{ on := 6, ground := Ground.data }], guard := none }) (v := ?_) rfl (by kernel_rfl) (by kernel_rfl) (by kernel_rfl) (fun _ _ _ h => h) (Or.inl ⟨by rfl, ?_⟩) (by assumption) ?_
        rotate_left
        · intro w hSw; (try dsimp only at hSw); go_simp; (try with_reducible rfl)
        (try simp only [Act.put, List.setIfInBounds_toArray, List.set_cons_zero, List.set_cons_succ])
        refine wpAnyH_done (by kernel_rfl) ?_ _
        clear SK
        have b5 := hbel.trans (D5.mono hbel.size)
        have O5 := Lib.hid (own_below HO.out D5); have E5 := Lib.hid (HBE.out.below D5); have C5 := Lib.hid (HBC.out.below D5)
        have X5 := Lib.hid ((D5.cell (p := ⟨p, off + k, none⟩) hp1).trans HCX.out)
        clear BD hHeld D5 HO HBE HBC HCX cz1
        by_cases hneg : atI l x < 0
        · have HN2 : Hid (besideV (M.take (k + 1)) (namesA l) = pre ++ [x]) := Lib.hid (by rw [HN.out, if_pos hneg])
          clear HN
          generalize atI l x = q at *
          have cz1 := C5.out.cell 1 rfl
          have cx := X5.out
          have hs5 := b5.size
          go_wp2_with (first
            | (at_builtin; refine append_str w.heap.size rfl _ _ rfl _ pre rfl O5.out x (by first | rfl | simp) HLn.out hs5 b5 ?_; intro v6 w6 hown6 hbel6 hsz6 hor6 hgr6)
            | (fail "none"))
          have E6 := E5.out.grew hgr6 hn1
          have C6 := C5.out.grew hgr6 hn2
          go_wp2
          go_roundw
          case rel => exact ⟨k + 1, by omega, by go_num, by rw [HN2.out]; exact hown6, ⟨by rcases hor6 with h | h <;> rw [h]; exact hn1; simp; omega, by have := C5.out.lt; rcases hor6 with h | h <;> rw [h]; exact hn2; simp; omega⟩, hbel6, E6, C6⟩
          case measure => simp [intOf]; omega
        · have HN2 : Hid (besideV (M.take (k + 1)) (namesA l) = pre) := Lib.hid (by rw [HN.out, if_neg hneg, List.append_nil])
          clear HN
          generalize atI l x = q at *
          go_wp2
          go_roundw
          case rel => exact ⟨k + 1, by omega, by go_num, by rw [HN2.out]; exact O5.out, ⟨hn1, hn2⟩, b5, E5.out, C5.out⟩
          case measure => simp [intOf]; omega
      · obtain rfl : k = M.length := by omega
        have HO2 : Hid (wr.ownsRow w.heap.size 9 1 u5 R.length (ss R)) := Lib.hid (by rw [HE2.out]; have h := HO.out; rw [List.take_length] at h; exact h)
        go_wp2
        go_ret
        exact ⟨⟨_, rfl, HO2.out⟩, hbel⟩
end Go.Proofs.YtmanlnlhpgdbpaaDoor
/- Missing: the contracts by shapes, and the size of the answer. -/
namespace Go.Proofs.YtmanlnlhpgdbpaaDoor
open Go.RowKit

theorem beside_sz (V m : List ByteArray) : (besideV V m).length + szL strE (besideV V m) ≤ V.length + szL strE V := by
  unfold besideV
  induction V with
  | nil => simp [szL]
  | cons x V ih =>
    rw [List.filter_cons]
    split
    · rw [szL_cons, szL_cons, List.length_cons, List.length_cons]; omega
    · rw [szL_cons, List.length_cons]; omega
theorem missR_sz (s : List ClassT) (d : RdnL) (l : List AttrV) : (missR s d l).length + szL strE (missR s d l) ≤ s.length + szL classE s := by
  unfold missR
  split
  · rename_i c h
    obtain ⟨x, hx, rfl⟩ := List.mem_map.1 (mine_in h)
    have h1 : classE.sz x ≤ szL classE s := szL_mem classE hx
    have h2 : classE.sz x = x.1.size + ((x.2.1.length + szL strE x.2.1) + ((x.2.2.1.length + szL strE x.2.2.1) + (x.2.2.2.length + szL strE x.2.2.2))) := rfl
    have h3 := beside_sz x.2.1 (namesA l)
    show (besideV x.2.1 (namesA l)).length + szL strE (besideV x.2.1 (namesA l)) ≤ _
    omega
  · simp [szL]
theorem entry_szs {a : RdnL} {b : List AttrV} (h : entryE.sz (a, b) ≤ 1048576) : a.length + szL rdnE a ≤ 1048576 ∧ b.length + szL attrE b ≤ 1048576 := by
  have e : entryE.sz (a, b) = (a.length + szL rdnE a) + (b.length + szL attrE b) := rfl
  omega
theorem Missing_own {S0 S1 S2 : Bs} (v0 : Value) (s : List ClassT) (v1 v2 : Value) (a : RdnL) (b : List AttrV) (w : World) (h0 : SlAt classE S0 w s v0) (h1 : SlAt rdnE S1 w a v1) (h2 : SlAt attrE S2 w b v2) (z0 : s.length + szL classE s ≤ 1048576) (z1 : entryE.sz (a, b) ≤ 1048576) (hS : Sent w) :
    Calls Tryd.prog 9 #[v0, .agg #[v1, v2]] w fun e w' => (∃ u, e = .returned u ∧ SlOwn strE (Fresh w w') w' (missR s a b) u) ∧ Below w.heap.size w w' := by
  obtain ⟨so, cs, rfl⟩ := h0.sl
  obtain ⟨ao, ca, rfl⟩ := h1.sl
  obtain ⟨bo, cb, rfl⟩ := h2.sl
  refine (Missing_any so s cs ao bo a b ca cb w h0 h1 h2 z0 (entry_szs z1).1 (entry_szs z1).2 hS).mono ?_
  rintro e w' ⟨⟨v, rfl, hv⟩, hb⟩
  exact ⟨⟨v, rfl, own_texts hv⟩, hb⟩
theorem SpecMissing_own {S0 S1 S2 : Bs} (v0 : Value) (s : List ClassT) (v1 v2 : Value) (a : RdnL) (b : List AttrV) (w : World) (h0 : SlAt classE S0 w s v0) (h1 : SlAt rdnE S1 w a v1) (h2 : SlAt attrE S2 w b v2) (z0 : s.length + szL classE s ≤ 1048576) (z1 : entryE.sz (a, b) ≤ 1048576) :
    Calls Tryd.prog 6 #[v0, .agg #[v1, v2]] w fun e w' => (∃ u, e = .returned u ∧ SlOwn strE (Fresh w w') w' (missR s a b) u) ∧ Below w.heap.size w w' := by
  obtain ⟨so, cs, rfl⟩ := h0.sl
  obtain ⟨ao, ca, rfl⟩ := h1.sl
  obtain ⟨bo, cb, rfl⟩ := h2.sl
  refine (SpecMissing_any so s cs ao bo a b ca cb w h0 h1 h2 z0 (entry_szs z1).1 (entry_szs z1).2).mono ?_
  rintro e w' ⟨⟨v, rfl, hv⟩, hb⟩
  exact ⟨⟨v, rfl, own_texts hv⟩, hb⟩
end Go.Proofs.YtmanlnlhpgdbpaaDoor
/- The helpers of the laws: sizes. -/
namespace Go.Proofs.YtmanlnlhpgdbpaaDoor
open Go.RowKit
attribute [local go_sem ↓] Go.wp_at_zero Go.wp_at_succ

set_option maxRecDepth 100000 in
set_option maxHeartbeats 4000000 in
theorem szStringS_at {S : Bs} (v : Value) (d : List ByteArray) (left : Int) (w : World) (hd : SlAt strE S w d v) (hf : (slE strE).long d) (h0 : 0 ≤ left) (h1 : left ≤ 1048576) :
    Calls Tryd.prog 36 #[v, .int .i64 left] w fun e w' => e = .returned (.int .i64 (leftR (d.length + szL strE d) left)) ∧ Below w.heap.size w w' := by
  obtain ⟨ao, cap, rfl⟩ := hd.sl
  have hl : d.length ≤ 9223372036854775807 := hf.1
  have HD := Lib.hid hd; have HF := Lib.hid hf; clear hd hf
  by_cases g : (d.length : Int) ≤ left
  · have c1 : ¬ left - (d.length : Int) < 0 := by omega
    go_enter Tryd.func36, Tryd.ntmps36
    go_wp2
    go_loopw [1, 5] (fun t i wr => ∃ k : Nat, k ≤ d.length ∧ i = .int .i64 k ∧ ((d.length + szL strE (d.take k) : Nat) : Int) ≤ left ∧ t = .int .i64 (left - (d.length + szL strE (d.take k) : Nat)) ∧ Below w.heap.size w wr) (fun _ i _ => d.length - (intOf i).toNat)
    case atStart => exact ⟨0, Nat.zero_le _, rfl, by simp [szL]; omega, by simp [szL], Below.refl _ _⟩
    case round =>
      clear c1
      obtain ⟨k, hk, rfl, hle, rfl, hbel⟩ := hrel
      have hsz := hbel.size
      by_cases hlt : k < d.length
      · obtain ⟨b, off, A, rfl, _, hb0, hx, hc1⟩ := str_row (HD.out.frame (Same.of_below' hbel)) hlt
        have hz : A.size ≤ maxLen := by have := HF.out.2 _ (List.getElem_mem hlt); rw [hx] at this; exact this
        unfold maxLen at hz
        have HT : Hid (szL strE (d.take (k + 1)) = szL strE (d.take k) + A.size) := Lib.hid (by rw [szL_take strE d k hlt, hx]; rfl)
        have HTl := Lib.hid (szL_le strE d (k + 1))
        clear hx
        generalize hq : d.length + szL strE (d.take k) = q at *
        have Hq := Lib.hid hq; clear hq
        by_cases hfit : ((A.size : Nat) : Int) ≤ left - (q : Int)
        · have c2 : ¬ left - (q : Int) - (A.size : Int) < 0 := by omega
          go_wp2
          go_roundw
          case rel =>
            have e := HT.out
            have e3 := Hq.out
            exact ⟨k + 1, by omega, by go_num, by omega, by rw [e]; congr 1; omega, hbel⟩
          case measure => simp [intOf]; omega
        · have c2 : left - (q : Int) - (A.size : Int) < 0 := by omega
          have HR : Hid (leftR (d.length + szL strE d) left = -1) := Lib.hid (leftR_neg (by
            have := HT.out; have := HTl.out; have := Hq.out; omega))
          go_wp2
          go_ret
          exact ⟨ret_int (by rw [HR.out]), hbel⟩
      · have HR : Hid (leftR (d.length + szL strE d) left = left - (d.length + szL strE (d.take k) : Nat)) := Lib.hid (by
          rw [List.take_of_length_le (by omega)] at hle ⊢
          exact leftR_pos hle)
        go_wp2
        go_ret
        exact ⟨ret_int (by rw [HR.out]), hbel⟩
  · have HR : Hid (leftR (d.length + szL strE d) left = -1) := Lib.hid (leftR_neg (by omega))
    have c1 : left - (d.length : Int) < 0 := by omega
    go_enter Tryd.func36, Tryd.ntmps36
    go_wp2
    go_ret
    exact ⟨ret_int (by rw [HR.out]), Below.refl _ _⟩
end Go.Proofs.YtmanlnlhpgdbpaaDoor
/- The helpers of the laws: sizes. -/
namespace Go.Proofs.YtmanlnlhpgdbpaaDoor
open Go.RowKit
attribute [local go_sem ↓] Go.wp_at_zero Go.wp_at_succ

set_option maxRecDepth 100000 in
set_option maxHeartbeats 4000000 in
theorem szClass_at {S : Bs} (a0 : ByteArray) (a1 : (List ByteArray)) (a2 : (List ByteArray)) (a3 : (List ByteArray)) (v1 v2 v3 : Value) (left : Int) (w : World) (h1 : SlAt strE S w a1 v1) (h2 : SlAt strE S w a2 v2) (h3 : SlAt strE S w a3 v3) (hl : classE.long (a0, a1, a2, a3)) (g0 : 0 ≤ left) (g1 : left ≤ 1048576) :
    Calls Tryd.prog 17 #[.agg #[.string a0, v1, v2, v3], .int .i64 left] w fun e w' => e = .returned (.int .i64 (leftR (classE.sz (a0, a1, a2, a3)) left)) ∧ Below w.heap.size w w' := by
  have HE : Hid (classE.sz (a0, a1, a2, a3) = a0.size + ((a1.length + szL strE a1) + ((a2.length + szL strE a2) + ((a3.length + szL strE a3))))) := Lib.hid rfl
  have z0 : a0.size ≤ 9223372036854775807 := by have := hl.1; simp only [strE, maxLen] at this; omega
  have C1 : Hid (∀ (l : Int) (W : World), Below w.heap.size w W → 0 ≤ l → l ≤ 1048576 → Calls Tryd.prog 36 #[v1, .int .i64 l] W fun e w' => e = .returned (.int .i64 (leftR (a1.length + szL strE a1) l)) ∧ Below W.heap.size W w') := Lib.hid (fun l W b p q => szStringS_at v1 a1 l W (h1.frame (Same.of_below' b)) hl.2.1 p q)
  have C2 : Hid (∀ (l : Int) (W : World), Below w.heap.size w W → 0 ≤ l → l ≤ 1048576 → Calls Tryd.prog 36 #[v2, .int .i64 l] W fun e w' => e = .returned (.int .i64 (leftR (a2.length + szL strE a2) l)) ∧ Below W.heap.size W w') := Lib.hid (fun l W b p q => szStringS_at v2 a2 l W (h2.frame (Same.of_below' b)) hl.2.2.1 p q)
  have C3 : Hid (∀ (l : Int) (W : World), Below w.heap.size w W → 0 ≤ l → l ≤ 1048576 → Calls Tryd.prog 36 #[v3, .int .i64 l] W fun e w' => e = .returned (.int .i64 (leftR (a3.length + szL strE a3) l)) ∧ Below W.heap.size W w') := Lib.hid (fun l W b p q => szStringS_at v3 a3 l W (h3.frame (Same.of_below' b)) hl.2.2.2 p q)
  obtain ⟨o1, k1, rfl⟩ := h1.sl
  obtain ⟨o2, k2, rfl⟩ := h2.sl
  obtain ⟨o3, k3, rfl⟩ := h3.sl
  clear h1 h2 h3
  clear hl
  generalize classE.sz (a0, a1, a2, a3) = z at *
  generalize (a1.length + szL strE a1) = r1 at *
  generalize (a2.length + szL strE a2) = r2 at *
  generalize (a3.length + szL strE a3) = r3 at *
  generalize a1.length = m1 at *
  generalize a2.length = m2 at *
  generalize a3.length = m3 at *
  by_cases g2 : (a0.size : Int) ≤ left
  · have c0 : ¬ left - (a0.size : Int) < 0 := by omega
    go_enter Tryd.func17, Tryd.ntmps17
    go_wp2_with fail
    refine calls_by (fun W => Below w.heap.size w W ∧ Blk W w.heap.size [.string a0, .slice o1 m1 k1, .slice o2 m2 k2, .slice o3 m3 k3]) ⟨more' (Below.refl _ _) _, Blk.new _ _ _⟩ ?_
    rintro w1 ⟨b1, t1⟩
    have T1 := Lib.hid t1; clear t1
    refine (C1.out _ w1 b1 (by omega) (by omega)).mono ?_
    rintro e w2 ⟨rfl, hb⟩
    have T2 := Lib.hid (T1.out.below hb); have b2 := b1.trans (hb.mono b1.size)
    clear hb b1 T1 C1
    by_cases g3 : (r1 : Int) ≤ left - (a0.size : Int)
    · rw [leftR_pos g3]
      have c1 : ¬ left - (a0.size : Int) - (r1 : Int) < 0 := by omega
      have q0 := T2.out.cell 0 rfl
      have q1 := T2.out.cell 1 rfl
      have q2 := T2.out.cell 2 rfl
      have q3 := T2.out.cell 3 rfl
      go_wp2_with fail
      refine (C2.out _ w2 b2 (by omega) (by omega)).mono ?_
      rintro e w3 ⟨rfl, hb⟩
      have T3 := Lib.hid (T2.out.below hb); have b3 := b2.trans (hb.mono b2.size)
      clear hb b2 T2 C2 q0 q1 q2 q3
      by_cases g4 : (r2 : Int) ≤ left - (a0.size : Int) - (r1 : Int)
      · rw [leftR_pos g4]
        have c2 : ¬ left - (a0.size : Int) - (r1 : Int) - (r2 : Int) < 0 := by omega
        have q0 := T3.out.cell 0 rfl
        have q1 := T3.out.cell 1 rfl
        have q2 := T3.out.cell 2 rfl
        have q3 := T3.out.cell 3 rfl
        go_wp2_with fail
        refine (C3.out _ w3 b3 (by omega) (by omega)).mono ?_
        rintro e w4 ⟨rfl, hb⟩
        have T4 := Lib.hid (T3.out.below hb); have b4 := b3.trans (hb.mono b3.size)
        clear hb b3 T3 C3 q0 q1 q2 q3
        by_cases g5 : (r3 : Int) ≤ left - (a0.size : Int) - (r1 : Int) - (r2 : Int)
        · rw [leftR_pos g5]
          have c3 : ¬ left - (a0.size : Int) - (r1 : Int) - (r2 : Int) - (r3 : Int) < 0 := by omega
          have q0 := T4.out.cell 0 rfl
          have q1 := T4.out.cell 1 rfl
          have q2 := T4.out.cell 2 rfl
          have q3 := T4.out.cell 3 rfl
          have HR : Hid (leftR z left = left - (a0.size : Int) - (r1 : Int) - (r2 : Int) - (r3 : Int)) := Lib.hid (by rw [leftR_pos (by rw [HE.out]; omega), HE.out]; omega)
          go_wp2
          go_ret
          exact ⟨ret_int (by rw [HR.out]), b4⟩
        · rw [leftR_neg g5]
          have HR : Hid (leftR z left = -1) := Lib.hid (leftR_neg (by rw [HE.out]; omega))
          go_wp2
          go_ret
          exact ⟨ret_int (by rw [HR.out]), b4⟩
      · rw [leftR_neg g4]
        have HR : Hid (leftR z left = -1) := Lib.hid (leftR_neg (by rw [HE.out]; omega))
        go_wp2
        go_ret
        exact ⟨ret_int (by rw [HR.out]), b3⟩
    · rw [leftR_neg g3]
      have HR : Hid (leftR z left = -1) := Lib.hid (leftR_neg (by rw [HE.out]; omega))
      go_wp2
      go_ret
      exact ⟨ret_int (by rw [HR.out]), b2⟩
  · have c0 : left - (a0.size : Int) < 0 := by omega
    have HR : Hid (leftR z left = -1) := Lib.hid (leftR_neg (by rw [HE.out]; omega))
    go_enter Tryd.func17, Tryd.ntmps17
    go_wp2
    go_ret
    exact ⟨ret_int (by rw [HR.out]), (Below.refl _ _).alloc (Nat.le_refl _) _⟩
set_option maxRecDepth 100000 in
set_option maxHeartbeats 4000000 in
theorem szClassS_at {S : Bs} (v : Value) (d : List ClassT) (left : Int) (w : World) (hd : SlAt classE S w d v) (hf : (slE classE).long d) (h0 : 0 ≤ left) (h1 : left ≤ 1048576) :
    Calls Tryd.prog 4 #[v, .int .i64 left] w fun e w' => e = .returned (.int .i64 (leftR (d.length + szL classE d) left)) ∧ Below w.heap.size w w' := by
  obtain ⟨ao, cap, rfl⟩ := hd.sl
  have hl : d.length ≤ 9223372036854775807 := hf.1
  have HD := Lib.hid hd; have HF := Lib.hid hf; clear hd hf
  by_cases g : (d.length : Int) ≤ left
  · have c1 : ¬ left - (d.length : Int) < 0 := by omega
    go_enter Tryd.func4, Tryd.ntmps4
    go_wp2
    go_loopw [1, 5] (fun t i wr => ∃ k : Nat, k ≤ d.length ∧ i = .int .i64 k ∧ ((d.length + szL classE (d.take k) : Nat) : Int) ≤ left ∧ t = .int .i64 (left - (d.length + szL classE (d.take k) : Nat)) ∧ Below w.heap.size w wr) (fun _ i _ => d.length - (intOf i).toNat)
    case atStart => exact ⟨0, Nat.zero_le _, rfl, by simp [szL]; omega, by simp [szL], Below.refl _ _⟩
    case round =>
      clear c1
      obtain ⟨k, hk, rfl, hle, rfl, hbel⟩ := hrel
      have hsz := hbel.size
      by_cases hlt : k < d.length
      · obtain ⟨b, off, a0, a1, a2, a3, v1, v2, v3, rfl, _, hb0, hx, ⟨hc0, hc1, hc2, hc3⟩, s1, s2, s3, _⟩ := class_row (HD.out.frame (Same.of_below' hbel)) hlt
        have HV1 := Lib.hid s1; clear s1
        have HV2 := Lib.hid s2; clear s2
        have HV3 := Lib.hid s3; clear s3
        have HZ : Hid (classE.long (a0, a1, a2, a3)) := Lib.hid (by have := HF.out.2 _ (List.getElem_mem hlt); rw [hx] at this; exact this)
        have HT : Hid (szL classE (d.take (k + 1)) = szL classE (d.take k) + classE.sz (a0, a1, a2, a3)) := Lib.hid (by rw [szL_take classE d k hlt, hx])
        have HTl := Lib.hid (szL_le classE d (k + 1))
        clear hx
        generalize hq : d.length + szL classE (d.take k) = q at *
        have Hq := Lib.hid hq; clear hq
        have HC := Lib.hid (szClass_at a0 a1 a2 a3 v1 v2 v3 (left - (q : Int)) wr HV1.out HV2.out HV3.out HZ.out (by omega) (by omega))
        generalize classE.sz (a0, a1, a2, a3) = r at *
        go_wp2_with fail
        refine HC.out.mono ?_
        rintro e w2 ⟨rfl, hb2⟩
        have B2 := Lib.hid (hbel.trans (hb2.mono hsz)); clear hb2
        by_cases hfit : (r : Int) ≤ left - (q : Int)
        · rw [leftR_pos hfit]
          have c2 : ¬ left - (q : Int) - (r : Int) < 0 := by omega
          go_wp2
          go_roundw
          case rel =>
            have e := HT.out
            have e3 := Hq.out
            exact ⟨k + 1, by omega, by go_num, by omega, by rw [e]; congr 1; omega, B2.out⟩
          case measure => simp [intOf]; omega
        · rw [leftR_neg hfit]
          have HR : Hid (leftR (d.length + szL classE d) left = -1) := Lib.hid (leftR_neg (by
            have := HT.out; have := HTl.out; have := Hq.out; omega))
          go_wp2
          go_ret
          exact ⟨ret_int (by rw [HR.out]), B2.out⟩
      · have HR : Hid (leftR (d.length + szL classE d) left = left - (d.length + szL classE (d.take k) : Nat)) := Lib.hid (by
          rw [List.take_of_length_le (by omega)] at hle ⊢
          exact leftR_pos hle)
        go_wp2
        go_ret
        exact ⟨ret_int (by rw [HR.out]), hbel⟩
  · have HR : Hid (leftR (d.length + szL classE d) left = -1) := Lib.hid (leftR_neg (by omega))
    have c1 : left - (d.length : Int) < 0 := by omega
    go_enter Tryd.func4, Tryd.ntmps4
    go_wp2
    go_ret
    exact ⟨ret_int (by rw [HR.out]), Below.refl _ _⟩
end Go.Proofs.YtmanlnlhpgdbpaaDoor
/- The helpers of the laws: copies. -/
namespace Go.Proofs.YtmanlnlhpgdbpaaDoor
open Go.RowKit
attribute [local go_sem ↓] Go.wp_at_zero Go.wp_at_succ

theorem Tryd.infoTString : (Tryd.prog.info? 9).map (fun i => (i.zero, i.size, i.bytes)) = some (some (.string ByteArray.empty), 1, 16) := by kernel_rfl
theorem mkString (n : Nat) (hn : n ≤ 1048576) (W : World) : ∃ C : Array Value, C.size = n * 1 ∧
    (Instr.makeSlice 29 (.int .i64 (n : Int)) (.int .i64 (n : Int))).run Tryd.prog W = .ok (.slice (some ⟨W.heap.size, 0, none⟩) n n) (W.alloc (.cells C 9)) := by
  obtain ⟨i0, hi, hz0, hz1, hz2⟩ := info_parts Tryd.infoTString
  have := run_make (P := Tryd.prog) W 29 9 i0 _ Tryd.underlying29 hi hz0 .i64 .i64 (n : Int) (n : Int) (by omega) (by omega) (by rw [hz2]; omega) (by omega)
  rw [hz1] at this
  refine ⟨madeCells (Value.cells (.string ByteArray.empty)) (n * 1), size_madeCells _ _, ?_⟩
  simpa using this
set_option maxRecDepth 100000 in
set_option maxHeartbeats 4000000 in
theorem toStringS_at {S : Bs} (v : Value) (d : List ByteArray) (w : World) (hd : SlAt strE S w d v) (hz : d.length + szL strE d ≤ 1048576) :
    Calls Tryd.prog 45 #[v] w fun e w' => ∃ u, e = .returned u ∧ SlOwn strE (Fresh w w') w' d u ∧ Below w.heap.size w w' := by
  obtain ⟨ao, cap, rfl⟩ := hd.sl
  have HD := Lib.hid hd; clear hd
  have HL := Lib.hid hz
  have hl : d.length ≤ 1048576 := by omega
  clear hz
  obtain ⟨C, hC, hmk⟩ := mkString d.length hl w
  have HC := Lib.hid hC; clear hC
  go_enter Tryd.func45, Tryd.ntmps45
  go_wp2
  clear hmk
  go_loopw [4] (fun i wr => ∃ k : Nat, k ≤ d.length ∧ i = .int .i64 k ∧ Build strE wr w.heap.size d.length (d.take k) ∧ Below w.heap.size w wr) (fun i _ => d.length - (intOf i).toNat)
  case atStart => exact ⟨0, Nat.zero_le _, rfl, Build.new _ _ _ _ HC.out, (Below.refl _ _).alloc (Nat.le_refl _) _⟩
  case round =>
    obtain ⟨k, hk, rfl, hR, hbel⟩ := hrel
    have HR := Lib.hid hR; clear hR
    have hsz := hbel.size
    by_cases hlt : k < d.length
    · obtain ⟨b, off, A, rfl, _, hb0, hx, hc1⟩ := str_row (HD.out.frame (Same.of_below' hbel)) hlt
      have HT : Hid (d.take (k + 1) = d.take k ++ [A]) := Lib.hid (by rw [List.take_succ_eq_append_getElem hlt, hx])
      have HK : Hid ((d.take k).length = k) := Lib.hid (by rw [List.length_take]; omega)
      clear hx
      obtain ⟨x, c0⟩ := HR.out.cell (k := k) (u := 0) hlt (by decide)
      have c0 : wr.cell? ⟨w.heap.size, k, none⟩ = some x := by have e1 : k * strE.n + 0 = k := by (show k * 1 + 0 = k); omega
                                                               rw [e1] at c0; exact c0
      have f0 := HR.out.soft k
      go_wp2
      go_roundw
      case rel => exact ⟨k + 1, by omega, by go_num, by rw [HT.out]; exact HR.out.row (o := k) (cs := [.string A]) (by rw [HK.out]; exact hlt) (by rw [HK.out]; show k = k * 1; omega) (Below.refl _ _) rfl, hbel.setCell (Nat.le_refl _) _⟩
      case measure => simp [intOf]; omega
    · have e : d.take k = d := List.take_of_length_le (by omega)
      rw [e] at HR
      clear e
      go_wp2
      go_ret
      exact ⟨_, rfl, HR.out.own, hbel⟩
end Go.Proofs.YtmanlnlhpgdbpaaDoor
/- The helpers of the laws: copies. -/
namespace Go.Proofs.YtmanlnlhpgdbpaaDoor
open Go.RowKit
attribute [local go_sem ↓] Go.wp_at_zero Go.wp_at_succ

theorem Tryd.infoTClass : (Tryd.prog.info? 52).map (fun i => (i.zero, i.size, i.bytes)) = some (some (.agg #[.string ByteArray.empty, .slice none 0 0, .slice none 0 0, .slice none 0 0]), 4, 88) := by kernel_rfl
theorem mkClass (n : Nat) (hn : n ≤ 1048576) (W : World) : ∃ C : Array Value, C.size = n * 4 ∧
    (Instr.makeSlice 31 (.int .i64 (n : Int)) (.int .i64 (n : Int))).run Tryd.prog W = .ok (.slice (some ⟨W.heap.size, 0, none⟩) n n) (W.alloc (.cells C 52)) := by
  obtain ⟨i0, hi, hz0, hz1, hz2⟩ := info_parts Tryd.infoTClass
  have := run_make (P := Tryd.prog) W 31 52 i0 _ Tryd.underlying31 hi hz0 .i64 .i64 (n : Int) (n : Int) (by omega) (by omega) (by rw [hz2]; omega) (by omega)
  rw [hz1] at this
  refine ⟨madeCells (Value.cells (.agg #[.string ByteArray.empty, .slice none 0 0, .slice none 0 0, .slice none 0 0])) (n * 4), size_madeCells _ _, ?_⟩
  simpa using this
set_option maxRecDepth 100000 in
set_option maxHeartbeats 4000000 in
theorem toClass_at {S : Bs} (a0 : ByteArray) (a1 : (List ByteArray)) (a2 : (List ByteArray)) (a3 : (List ByteArray)) (v1 v2 v3 : Value) (w : World) (h1 : SlAt strE S w a1 v1) (h2 : SlAt strE S w a2 v2) (h3 : SlAt strE S w a3 v3) (hz : classE.sz (a0, a1, a2, a3) ≤ 1048576) :
    Calls Tryd.prog 24 #[.agg #[.string a0, v1, v2, v3]] w fun e w' => ∃ u1 u2 u3, e = .returned (.agg #[.string a0, u1, u2, u3]) ∧ classE.Own (Fresh w w') w' (a0, a1, a2, a3) [.string a0, u1, u2, u3] ∧ Below w.heap.size w w' := by
  have HE : classE.sz (a0, a1, a2, a3) = a0.size + ((a1.length + szL strE a1) + ((a2.length + szL strE a2) + ((a3.length + szL strE a3)))) := rfl
  rw [HE] at hz
  have C1 : Hid (∀ W : World, Below w.heap.size w W → Calls Tryd.prog 45 #[v1] W fun e w' => ∃ u, e = .returned u ∧ SlOwn strE (Fresh W w') w' a1 u ∧ Below W.heap.size W w') := Lib.hid (fun W b => toStringS_at v1 a1 W (h1.frame (Same.of_below' b)) (by omega))
  have C2 : Hid (∀ W : World, Below w.heap.size w W → Calls Tryd.prog 45 #[v2] W fun e w' => ∃ u, e = .returned u ∧ SlOwn strE (Fresh W w') w' a2 u ∧ Below W.heap.size W w') := Lib.hid (fun W b => toStringS_at v2 a2 W (h2.frame (Same.of_below' b)) (by omega))
  have C3 : Hid (∀ W : World, Below w.heap.size w W → Calls Tryd.prog 45 #[v3] W fun e w' => ∃ u, e = .returned u ∧ SlOwn strE (Fresh W w') w' a3 u ∧ Below W.heap.size W w') := Lib.hid (fun W b => toStringS_at v3 a3 W (h3.frame (Same.of_below' b)) (by omega))
  obtain ⟨o1, k1, rfl⟩ := h1.sl
  obtain ⟨o2, k2, rfl⟩ := h2.sl
  obtain ⟨o3, k3, rfl⟩ := h3.sl
  clear hz HE h1 h2 h3
  go_enter Tryd.func24, Tryd.ntmps24
  go_wp2_with fail
  refine calls_by (fun W => Below w.heap.size w W ∧ Blk W w.heap.size [.string a0, .slice o1 a1.length k1, .slice o2 a2.length k2, .slice o3 a3.length k3] ∧ Blk W (w.heap.size + 1) [.string ⟨#[]⟩, .slice none 0 0, .slice none 0 0, .slice none 0 0] ∧ Blk W (w.heap.size + 1 + 1) [.string a0, .slice none 0 0, .slice none 0 0, .slice none 0 0]) ⟨more' (more' (more' (Below.refl _ _) _) _) _, ((Blk.new _ _ _).alloc _).alloc _, (blk_at _ _ _ (by simp)).alloc _, blk_at _ _ _ (by simp)⟩ ?_
  rintro W0 ⟨b0, t0, r0, s0⟩
  have hn : w.heap.size + 1 + 1 < W0.heap.size := s0.lt
  refine (C1.out W0 b0).mono ?_
  rintro e y1 ⟨u1, rfl, q1, hb⟩
  obtain ⟨p1, j1, rfl⟩ := q1.at.sl
  have T := Lib.hid (t0.below hb); have Rr := Lib.hid (r0.below hb); have U := Lib.hid (s0.below hb); have B := Lib.hid (b0.trans (hb.mono b0.size)); have hs1 := hb.size
  have Q1 := Lib.hid q1
  clear t0 r0 s0 b0 hb q1 C1
  have m0 := T.out.cell 0 rfl
  have c0 := U.out.cell 0 rfl
  have f0 := U.out.soft 0
  have m1 := T.out.cell 1 rfl
  have c1 := U.out.cell 1 rfl
  have f1 := U.out.soft 1
  have m2 := T.out.cell 2 rfl
  have c2 := U.out.cell 2 rfl
  have f2 := U.out.soft 2
  have m3 := T.out.cell 3 rfl
  have c3 := U.out.cell 3 rfl
  have f3 := U.out.soft 3
  go_wp2_with fail
  have hW : y1.heap.size = y1.heap.size := rfl
  refine calls_by (fun W => y1.heap.size ≤ W.heap.size ∧ Below w.heap.size w W ∧ Blk W w.heap.size [.string a0, .slice o1 a1.length k1, .slice o2 a2.length k2, .slice o3 a3.length k3] ∧ Blk W (w.heap.size + 1) [.string ⟨#[]⟩, .slice none 0 0, .slice none 0 0, .slice none 0 0] ∧ Blk W (w.heap.size + 1 + 1) [.string a0, .slice p1 a1.length j1, .slice none 0 0, .slice none 0 0] ∧ SlOwn strE (Fresh W0 y1) W a1 (.slice p1 a1.length j1)) ⟨by simp [World.setCell], (B.out.setCell (p := ⟨w.heap.size + 1 + 1, 1, none⟩) (by show w.heap.size ≤ w.heap.size + 1 + 1; omega) _), (T.out.far (by omega) _), (Rr.out.far (by omega) _), (U.out.set 1 _), (Q1.out.frame (Same.set _ _ _ (by intro h; have := h.1; omega)))⟩ ?_
  clear T Rr U B Q1
  rintro W1 ⟨hl1, b1, t1, r1, s1, q1⟩
  have Q1 := Lib.hid q1; clear q1
  refine (C2.out W1 b1).mono ?_
  rintro e y2 ⟨u2, rfl, q2, hb⟩
  obtain ⟨p2, j2, rfl⟩ := q2.at.sl
  have T := Lib.hid (t1.below hb); have Rr := Lib.hid (r1.below hb); have U := Lib.hid (s1.below hb); have B := Lib.hid (b1.trans (hb.mono b1.size)); have hs2 := hb.size
  have Q2 := Lib.hid q2
  have Q1 := Lib.hid (Q1.out.frame (Same.of_below' hb))
  clear t1 r1 s1 b1 hb q2 C2
  clear c0 f0 m0 c1 f1 m1 c2 f2 m2 c3 f3 m3
  have m0 := T.out.cell 0 rfl
  have c0 := U.out.cell 0 rfl
  have f0 := U.out.soft 0
  have m1 := T.out.cell 1 rfl
  have c1 := U.out.cell 1 rfl
  have f1 := U.out.soft 1
  have m2 := T.out.cell 2 rfl
  have c2 := U.out.cell 2 rfl
  have f2 := U.out.soft 2
  have m3 := T.out.cell 3 rfl
  have c3 := U.out.cell 3 rfl
  have f3 := U.out.soft 3
  go_wp2_with fail
  have hW : y2.heap.size = y2.heap.size := rfl
  refine calls_by (fun W => y2.heap.size ≤ W.heap.size ∧ Below w.heap.size w W ∧ Blk W w.heap.size [.string a0, .slice o1 a1.length k1, .slice o2 a2.length k2, .slice o3 a3.length k3] ∧ Blk W (w.heap.size + 1) [.string ⟨#[]⟩, .slice none 0 0, .slice none 0 0, .slice none 0 0] ∧ Blk W (w.heap.size + 1 + 1) [.string a0, .slice p1 a1.length j1, .slice p2 a2.length j2, .slice none 0 0] ∧ SlOwn strE (Fresh W0 y1) W a1 (.slice p1 a1.length j1) ∧ SlOwn strE (Fresh W1 y2) W a2 (.slice p2 a2.length j2)) ⟨by simp [World.setCell], (B.out.setCell (p := ⟨w.heap.size + 1 + 1, 2, none⟩) (by show w.heap.size ≤ w.heap.size + 1 + 1; omega) _), (T.out.far (by omega) _), (Rr.out.far (by omega) _), (U.out.set 2 _), (Q1.out.frame (Same.set _ _ _ (by intro h; have := h.1; omega))), (Q2.out.frame (Same.set _ _ _ (by intro h; have := h.1; omega)))⟩ ?_
  clear T Rr U B Q1 Q2
  rintro W2 ⟨hl2, b2, t2, r2, s2, q1, q2⟩
  have Q1 := Lib.hid q1; clear q1
  have Q2 := Lib.hid q2; clear q2
  refine (C3.out W2 b2).mono ?_
  rintro e y3 ⟨u3, rfl, q3, hb⟩
  obtain ⟨p3, j3, rfl⟩ := q3.at.sl
  have T := Lib.hid (t2.below hb); have Rr := Lib.hid (r2.below hb); have U := Lib.hid (s2.below hb); have B := Lib.hid (b2.trans (hb.mono b2.size)); have hs3 := hb.size
  have Q3 := Lib.hid q3
  have Q1 := Lib.hid (Q1.out.frame (Same.of_below' hb))
  have Q2 := Lib.hid (Q2.out.frame (Same.of_below' hb))
  clear t2 r2 s2 b2 hb q3 C3
  clear c0 f0 m0 c1 f1 m1 c2 f2 m2 c3 f3 m3
  have m0 := T.out.cell 0 rfl
  have c0 := U.out.cell 0 rfl
  have f0 := U.out.soft 0
  have m1 := T.out.cell 1 rfl
  have c1 := U.out.cell 1 rfl
  have f1 := U.out.soft 1
  have m2 := T.out.cell 2 rfl
  have c2 := U.out.cell 2 rfl
  have f2 := U.out.soft 2
  have m3 := T.out.cell 3 rfl
  have c3 := U.out.cell 3 rfl
  have f3 := U.out.soft 3
  have TE := (((((Rr.out.far (R := w.heap.size + 1 + 1) (j := 3) (by omega) (.slice p3 a3.length j3)).set 0 (.string a0)).set 1 (.slice p1 a1.length j1)).set 2 (.slice p2 a2.length j2)).set 3 (.slice p3 a3.length j3))
  have d0 := Rr.out.cell 0 rfl
  have g0 := Rr.out.soft 0
  have k100 := TE.cell 0 rfl
  have d1 := Rr.out.cell 1 rfl
  have g1 := Rr.out.soft 1
  have k101 := TE.cell 1 rfl
  have d2 := Rr.out.cell 2 rfl
  have g2 := Rr.out.soft 2
  have k102 := TE.cell 2 rfl
  have d3 := Rr.out.cell 3 rfl
  have g3 := Rr.out.soft 3
  have k103 := TE.cell 3 rfl
  clear TE
  go_wp2_with fail
  refine bodyPost_ret (v := .agg #[.string a0, .slice p1 a1.length j1, .slice p2 a2.length j2, .slice p3 a3.length j3]) (by simp [results, Tryd.results24, go_sem, k100, k101, k102, k103]) rfl ⟨_, _, _, rfl, ?_, ?_⟩
  · exact class_pack a0 a1 a2 a3 _ _ _ (Fresh W0 y1) (Fresh W1 y2) (Fresh W2 y3) ⟨(((((Q1.out.frame (Same.set _ _ _ (by intro h; have := h.1; omega))).frame (Same.set _ _ _ (by intro h; have := h.1; omega))).frame (Same.set _ _ _ (by intro h; have := h.1; omega))).frame (Same.set _ _ _ (by intro h; have := h.1; omega))).frame (Same.set _ _ _ (by intro h; have := h.1; omega))), (fun k z => ⟨by have := z.1; omega, by have := z.2; show _ < (World.heap _).size; simp only [setCell_size]; omega⟩), (((((Q2.out.frame (Same.set _ _ _ (by intro h; have := h.1; omega))).frame (Same.set _ _ _ (by intro h; have := h.1; omega))).frame (Same.set _ _ _ (by intro h; have := h.1; omega))).frame (Same.set _ _ _ (by intro h; have := h.1; omega))).frame (Same.set _ _ _ (by intro h; have := h.1; omega))), (fun k z => ⟨by have := z.1; omega, by have := z.2; show _ < (World.heap _).size; simp only [setCell_size]; omega⟩), (((((Q3.out.frame (Same.set _ _ _ (by intro h; have := h.1; omega))).frame (Same.set _ _ _ (by intro h; have := h.1; omega))).frame (Same.set _ _ _ (by intro h; have := h.1; omega))).frame (Same.set _ _ _ (by intro h; have := h.1; omega))).frame (Same.set _ _ _ (by intro h; have := h.1; omega))), (fun k z => ⟨by have := z.1; omega, by have := z.2; show _ < (World.heap _).size; simp only [setCell_size]; omega⟩), (fun k z y => by have := z.2; have := y.1; omega), (fun k z y => by have := z.2; have := y.1; omega), (fun k z y => by have := z.2; have := y.1; omega), trivial⟩
  · exact (((((B.out.setCell (p := ⟨w.heap.size + 1 + 1, 3, none⟩) (by show w.heap.size ≤ w.heap.size + 1 + 1; omega) _).setCell (p := ⟨w.heap.size + 1, 0, none⟩) (by show w.heap.size ≤ w.heap.size + 1; omega) _).setCell (p := ⟨w.heap.size + 1, 1, none⟩) (by show w.heap.size ≤ w.heap.size + 1; omega) _).setCell (p := ⟨w.heap.size + 1, 2, none⟩) (by show w.heap.size ≤ w.heap.size + 1; omega) _).setCell (p := ⟨w.heap.size + 1, 3, none⟩) (by show w.heap.size ≤ w.heap.size + 1; omega) _)
set_option maxRecDepth 100000 in
set_option maxHeartbeats 4000000 in
theorem toClassS_at {S : Bs} (v : Value) (d : List ClassT) (w : World) (hd : SlAt classE S w d v) (hz : d.length + szL classE d ≤ 1048576) :
    Calls Tryd.prog 7 #[v] w fun e w' => ∃ u, e = .returned u ∧ SlOwn classE (Fresh w w') w' d u ∧ Below w.heap.size w w' := by
  obtain ⟨ao, cap, rfl⟩ := hd.sl
  have HD := Lib.hid hd; clear hd
  have HL := Lib.hid hz
  have hl : d.length ≤ 1048576 := by omega
  clear hz
  obtain ⟨C, hC, hmk⟩ := mkClass d.length hl w
  have HC := Lib.hid hC; clear hC
  go_enter Tryd.func7, Tryd.ntmps7
  go_wp2
  clear hmk
  go_loopw [4] (fun i wr => ∃ k : Nat, k ≤ d.length ∧ i = .int .i64 k ∧ Build classE wr w.heap.size d.length (d.take k) ∧ Below w.heap.size w wr) (fun i _ => d.length - (intOf i).toNat)
  case atStart => exact ⟨0, Nat.zero_le _, rfl, Build.new _ _ _ _ HC.out, (Below.refl _ _).alloc (Nat.le_refl _) _⟩
  case round =>
    obtain ⟨k, hk, rfl, hR, hbel⟩ := hrel
    have HR := Lib.hid hR; clear hR
    have hsz := hbel.size
    by_cases hlt : k < d.length
    · obtain ⟨b, off, a0, a1, a2, a3, v1, v2, v3, rfl, _, hb0, hx, ⟨hc0, hc1, hc2, hc3⟩, s1, s2, s3, _⟩ := class_row (HD.out.frame (Same.of_below' hbel)) hlt
      have HT : Hid (d.take (k + 1) = d.take k ++ [(a0, a1, a2, a3)]) := Lib.hid (by rw [List.take_succ_eq_append_getElem hlt, hx])
      have HK : Hid ((d.take k).length = k) := Lib.hid (by rw [List.length_take]; omega)
      have HZ : Hid (classE.sz (a0, a1, a2, a3) ≤ 1048576) := Lib.hid (by have h1 := szL_mem classE (List.getElem_mem hlt); rw [hx] at h1; have := HL.out; omega)
      clear hx
      have HV1 := Lib.hid s1; clear s1
      have HV2 := Lib.hid s2; clear s2
      have HV3 := Lib.hid s3; clear s3
      obtain ⟨o1, k1, rfl⟩ := HV1.out.sl
      obtain ⟨o2, k2, rfl⟩ := HV2.out.sl
      obtain ⟨o3, k3, rfl⟩ := HV3.out.sl
      go_wp2_with fail
      refine (toClass_at a0 a1 a2 a3 _ _ _ wr HV1.out HV2.out HV3.out HZ.out).mono ?_
      rintro e w2 ⟨u1, u2, u3, rfl, hq, hb2⟩
      have HR2 := Lib.hid (HR.out.below hb2)
      have B2 := Lib.hid (hbel.trans (hb2.mono hsz))
      have HQ := Lib.hid hq
      have HB := Lib.hid hb2
      clear hb2 hq hc0 hc1 hc2 hc3
      have hsl := class_sl HQ.out rfl
      obtain ⟨⟨p1, l1, j1, rfl⟩, ⟨p2, l2, j2, rfl⟩, ⟨p3, l3, j3, rfl⟩⟩ := hsl
      obtain ⟨x0, c0⟩ := HR2.out.cell (k := k) (u := 0) hlt (by decide)
      have c0 : w2.cell? ⟨w.heap.size, k * 4, none⟩ = some x0 := c0
      have f0 := HR2.out.soft (k * 4)
      obtain ⟨x1, c1⟩ := HR2.out.cell (k := k) (u := 1) hlt (by decide)
      have c1 : w2.cell? ⟨w.heap.size, k * 4 + 1, none⟩ = some x1 := c1
      have f1 := HR2.out.soft (k * 4 + 1)
      obtain ⟨x2, c2⟩ := HR2.out.cell (k := k) (u := 2) hlt (by decide)
      have c2 : w2.cell? ⟨w.heap.size, k * 4 + 2, none⟩ = some x2 := c2
      have f2 := HR2.out.soft (k * 4 + 2)
      obtain ⟨x3, c3⟩ := HR2.out.cell (k := k) (u := 3) hlt (by decide)
      have c3 : w2.cell? ⟨w.heap.size, k * 4 + 3, none⟩ = some x3 := c3
      have f3 := HR2.out.soft (k * 4 + 3)
      go_wp2
      go_roundw
      case rel => exact ⟨k + 1, by omega, by go_num, by rw [HT.out]; exact HR.out.row (o := k * 4) (cs := [.string a0, .slice p1 l1 j1, .slice p2 l2 j2, .slice p3 l3 j3]) (by rw [HK.out]; exact hlt) (by rw [HK.out]; rfl) HB.out HQ.out, ((((B2.out.setCell (Nat.le_refl _) _).setCell (Nat.le_refl _) _).setCell (Nat.le_refl _) _).setCell (Nat.le_refl _) _)⟩
      case measure => simp [intOf]; omega
    · have e : d.take k = d := List.take_of_length_le (by omega)
      rw [e] at HR
      clear e
      go_wp2
      go_ret
      exact ⟨_, rfl, HR.out.own, hbel⟩
end Go.Proofs.YtmanlnlhpgdbpaaDoor
/- The helpers of the laws: comparisons. -/
namespace Go.Proofs.YtmanlnlhpgdbpaaDoor
open Go.RowKit
attribute [local go_sem ↓] Go.wp_at_zero Go.wp_at_succ

set_option maxRecDepth 100000 in
set_option maxHeartbeats 4000000 in
theorem eqStringS_at {S S' : Bs} (v u : Value) (d : List ByteArray) (w : World) (hd : SlAt strE S w d v) (hu : SlAt strE S' w d u) (hz : d.length + szL strE d ≤ 1048576) :
    Calls Tryd.prog 10 #[v, u] w fun e w' => e = .returned (.bool true) ∧ Below w.heap.size w w' := by
  obtain ⟨ao, ca, rfl⟩ := hd.sl
  obtain ⟨bo, cb, rfl⟩ := hu.sl
  have HA := Lib.hid hd; have HB := Lib.hid hu; clear hd hu
  have HL := Lib.hid hz
  have hl : d.length ≤ 1048576 := by omega
  clear hz
  go_enter Tryd.func10, Tryd.ntmps10
  go_wp2
  go_loopw [5] (fun i wr => ∃ k : Nat, k ≤ d.length ∧ i = .int .i64 k ∧ Below w.heap.size w wr) (fun i _ => d.length - (intOf i).toNat)
  case atStart => exact ⟨0, Nat.zero_le _, rfl, Below.refl _ _⟩
  case round =>
    obtain ⟨k, hk, rfl, hbel⟩ := hrel
    have hsz := hbel.size
    by_cases hlt : k < d.length
    · obtain ⟨p, off, A, rfl, _, hp0, hx, c1⟩ := str_row (HA.out.frame (Same.of_below' hbel)) hlt
      obtain ⟨q, off', A', rfl, _, hq0, hx', c2⟩ := str_row (HB.out.frame (Same.of_below' hbel)) hlt
      obtain rfl : A = A' := hx.symm.trans hx'
      clear hx hx'
      have hkk : (A.toList == A.toList) = true := by simp
      have g1 : (0 : Int) ≤ (k : Int) := by omega
      have g2 : (k : Int) < (d.length : Int) := by omega
      have hbd := hbel.drew
      have c1' : wr.drew.cell? ⟨p, off + k, none⟩ = some (.string A) := c1
      have c2' : wr.drew.cell? ⟨q, off' + k, none⟩ = some (.string A) := c2
      go_wp2_with fail
      go_region_held3 (fun W => Below w.heap.size w W ∧ W.cell? ⟨p, off + k, none⟩ = some (.string A) ∧ W.cell? ⟨q, off' + k, none⟩ = some (.string A))
        (first | exact ⟨hbel, c1, c2⟩ | exact ⟨hbd, c1', c2'⟩)
        (fail "none")
      all_goals
        go_wp2
        go_roundw
        case rel => exact ⟨k + 1, by omega, by go_num, by first | exact hbel | exact hbd⟩
        case measure => simp [intOf]; omega
    · go_wp2
      go_ret
      exact ⟨rfl, hbel⟩
end Go.Proofs.YtmanlnlhpgdbpaaDoor
/- The helpers of the laws: comparisons. -/
namespace Go.Proofs.YtmanlnlhpgdbpaaDoor
open Go.RowKit
attribute [local go_sem ↓] Go.wp_at_zero Go.wp_at_succ

set_option maxRecDepth 100000 in
set_option maxHeartbeats 4000000 in
theorem eqClass_at {S S' : Bs} (w0 : World) (a0 : ByteArray) (a1 : (List ByteArray)) (a2 : (List ByteArray)) (a3 : (List ByteArray)) (v1 v2 v3 : Value) (u1 u2 u3 : Value) (w : World) (hB : Below w0.heap.size w0 w) (h1 : SlAt strE S w0 a1 v1) (h2 : SlAt strE S w0 a2 v2) (h3 : SlAt strE S w0 a3 v3) (g1 : SlAt strE S' w0 a1 u1) (g2 : SlAt strE S' w0 a2 u2) (g3 : SlAt strE S' w0 a3 u3) (hz : classE.sz (a0, a1, a2, a3) ≤ 1048576) :
    Calls Tryd.prog 30 #[.agg #[.string a0, v1, v2, v3], .agg #[.string a0, u1, u2, u3]] w fun e w' => e = .returned (.bool true) ∧ Below w0.heap.size w0 w' := by
  have HE : classE.sz (a0, a1, a2, a3) = a0.size + ((a1.length + szL strE a1) + ((a2.length + szL strE a2) + ((a3.length + szL strE a3)))) := rfl
  rw [HE] at hz
  have hk0 : (a0.toList == a0.toList) = true := by simp
  have C1 : Hid (∀ W : World, Below w0.heap.size w0 W → Calls Tryd.prog 10 #[v1, u1] W fun e w' => e = .returned (.bool true) ∧ Below W.heap.size W w') := Lib.hid (fun W b => eqStringS_at v1 u1 a1 W (h1.frame (Same.of_below' b)) (g1.frame (Same.of_below' b)) (by omega))
  have C2 : Hid (∀ W : World, Below w0.heap.size w0 W → Calls Tryd.prog 10 #[v2, u2] W fun e w' => e = .returned (.bool true) ∧ Below W.heap.size W w') := Lib.hid (fun W b => eqStringS_at v2 u2 a2 W (h2.frame (Same.of_below' b)) (g2.frame (Same.of_below' b)) (by omega))
  have C3 : Hid (∀ W : World, Below w0.heap.size w0 W → Calls Tryd.prog 10 #[v3, u3] W fun e w' => e = .returned (.bool true) ∧ Below W.heap.size W w') := Lib.hid (fun W b => eqStringS_at v3 u3 a3 W (h3.frame (Same.of_below' b)) (g3.frame (Same.of_below' b)) (by omega))
  obtain ⟨o1, k1, rfl⟩ := h1.sl
  obtain ⟨p1, j1, rfl⟩ := g1.sl
  obtain ⟨o2, k2, rfl⟩ := h2.sl
  obtain ⟨p2, j2, rfl⟩ := g2.sl
  obtain ⟨o3, k3, rfl⟩ := h3.sl
  obtain ⟨p3, j3, rfl⟩ := g3.sl
  clear hz HE h1 g1 h2 g2 h3 g3
  have HB := Lib.hid hB
  clear hB
  go_enter Tryd.func30, Tryd.ntmps30
  go_wp2_with fail
  refine calls_by (fun W => Below w0.heap.size w0 W ∧ Blk W w.heap.size [.string a0, .slice o1 a1.length k1, .slice o2 a2.length k2, .slice o3 a3.length k3] ∧ Blk W (w.heap.size + 1) [.string a0, .slice p1 a1.length j1, .slice p2 a2.length j2, .slice p3 a3.length j3]) ⟨more' (more' HB.out _) _, (Blk.new _ _ _).alloc _, blk_at _ _ _ (by simp)⟩ ?_
  rintro W1 ⟨b1, x1, y1⟩
  have X1 := Lib.hid x1; have Y1 := Lib.hid y1; clear x1 y1
  refine (C1.out W1 b1).mono ?_
  rintro e W2 ⟨rfl, hb⟩
  have X2 := Lib.hid (X1.out.below hb); have Y2 := Lib.hid (Y1.out.below hb); have b2 := b1.trans (hb.mono b1.size)
  clear X1 Y1 hb b1 C1
  have m0 := X2.out.cell 0 rfl
  have n0 := Y2.out.cell 0 rfl
  have m1 := X2.out.cell 1 rfl
  have n1 := Y2.out.cell 1 rfl
  have m2 := X2.out.cell 2 rfl
  have n2 := Y2.out.cell 2 rfl
  have m3 := X2.out.cell 3 rfl
  have n3 := Y2.out.cell 3 rfl
  go_wp2_with fail
  refine (C2.out W2 b2).mono ?_
  rintro e W3 ⟨rfl, hb⟩
  have X3 := Lib.hid (X2.out.below hb); have Y3 := Lib.hid (Y2.out.below hb); have b3 := b2.trans (hb.mono b2.size)
  clear X2 Y2 hb b2 C2 m0 n0 m1 n1 m2 n2 m3 n3
  have m0 := X3.out.cell 0 rfl
  have n0 := Y3.out.cell 0 rfl
  have m1 := X3.out.cell 1 rfl
  have n1 := Y3.out.cell 1 rfl
  have m2 := X3.out.cell 2 rfl
  have n2 := Y3.out.cell 2 rfl
  have m3 := X3.out.cell 3 rfl
  have n3 := Y3.out.cell 3 rfl
  go_wp2_with fail
  refine (C3.out W3 b3).mono ?_
  rintro e W4 ⟨rfl, hb⟩
  have X4 := Lib.hid (X3.out.below hb); have Y4 := Lib.hid (Y3.out.below hb); have b4 := b3.trans (hb.mono b3.size)
  clear X3 Y3 hb b3 C3 m0 n0 m1 n1 m2 n2 m3 n3
  have m0 := X4.out.cell 0 rfl
  have n0 := Y4.out.cell 0 rfl
  have m1 := X4.out.cell 1 rfl
  have n1 := Y4.out.cell 1 rfl
  have m2 := X4.out.cell 2 rfl
  have n2 := Y4.out.cell 2 rfl
  have m3 := X4.out.cell 3 rfl
  have n3 := Y4.out.cell 3 rfl
  go_wp2
  go_ret
  exact ⟨rfl, b4⟩
set_option maxRecDepth 100000 in
set_option maxHeartbeats 4000000 in
theorem eqClassS_at {S S' : Bs} (v u : Value) (d : List ClassT) (w : World) (hd : SlAt classE S w d v) (hu : SlAt classE S' w d u) (hz : d.length + szL classE d ≤ 1048576) :
    Calls Tryd.prog 11 #[v, u] w fun e w' => e = .returned (.bool true) ∧ Below w.heap.size w w' := by
  obtain ⟨ao, ca, rfl⟩ := hd.sl
  obtain ⟨bo, cb, rfl⟩ := hu.sl
  have HA := Lib.hid hd; have HB := Lib.hid hu; clear hd hu
  have HL := Lib.hid hz
  have hl : d.length ≤ 1048576 := by omega
  clear hz
  go_enter Tryd.func11, Tryd.ntmps11
  go_wp2
  go_loopw [5] (fun i wr => ∃ k : Nat, k ≤ d.length ∧ i = .int .i64 k ∧ Below w.heap.size w wr) (fun i _ => d.length - (intOf i).toNat)
  case atStart => exact ⟨0, Nat.zero_le _, rfl, Below.refl _ _⟩
  case round =>
    obtain ⟨k, hk, rfl, hbel⟩ := hrel
    have hsz := hbel.size
    by_cases hlt : k < d.length
    · obtain ⟨p, off, a0, a1, a2, a3, v1, v2, v3, rfl, _, hp0, hx, hc, s1, s2, s3, _⟩ := class_row (HA.out.frame (Same.of_below' hbel)) hlt
      obtain ⟨q, off', x0, x1, x2, x3, u1, u2, u3, rfl, _, hq0, hx', hd, t1, t2, t3, _⟩ := class_row (HB.out.frame (Same.of_below' hbel)) hlt
      have hxx := hx.symm.trans hx'
      simp only [Prod.mk.injEq] at hxx
      obtain ⟨rfl, rfl, rfl, rfl⟩ := hxx
      have HZ : Hid (classE.sz (a0, a1, a2, a3) ≤ 1048576) := Lib.hid (by have h1 := szL_mem classE (List.getElem_mem hlt); rw [hx] at h1; have := HL.out; omega)
      clear hx hx'
      have C : Hid (∀ W : World, Below wr.heap.size wr W → Calls Tryd.prog 30 #[.agg #[.string a0, v1, v2, v3], .agg #[.string a0, u1, u2, u3]] W fun e w' => e = .returned (.bool true) ∧ Below wr.heap.size wr w') := Lib.hid (fun W b => eqClass_at wr a0 a1 a2 a3 v1 v2 v3 u1 u2 u3 W b s1 s2 s3 t1 t2 t3 HZ.out)
      clear s1 t1 s2 t2 s3 t3 HZ
      have SK : Hid (∀ W : World, Below wr.heap.size wr W → (Below wr.heap.size wr W ∧ (W.cell? ⟨p, off + k * 4, none⟩ = some (.string a0) ∧ W.cell? ⟨p, off + k * 4 + 1, none⟩ = some (v1) ∧ W.cell? ⟨p, off + k * 4 + 2, none⟩ = some (v2) ∧ W.cell? ⟨p, off + k * 4 + 3, none⟩ = some (v3)) ∧ (W.cell? ⟨q, off' + k * 4, none⟩ = some (.string a0) ∧ W.cell? ⟨q, off' + k * 4 + 1, none⟩ = some (u1) ∧ W.cell? ⟨q, off' + k * 4 + 2, none⟩ = some (u2) ∧ W.cell? ⟨q, off' + k * 4 + 3, none⟩ = some (u3)))) :=
        Lib.hid (fun W h => ⟨h, ⟨(h.cell (p := ⟨p, _, none⟩) hp0).trans hc.1, (h.cell (p := ⟨p, _, none⟩) hp0).trans hc.2.1, (h.cell (p := ⟨p, _, none⟩) hp0).trans hc.2.2.1, (h.cell (p := ⟨p, _, none⟩) hp0).trans hc.2.2.2⟩, ⟨(h.cell (p := ⟨q, _, none⟩) hq0).trans hd.1, (h.cell (p := ⟨q, _, none⟩) hq0).trans hd.2.1, (h.cell (p := ⟨q, _, none⟩) hq0).trans hd.2.2.1, (h.cell (p := ⟨q, _, none⟩) hq0).trans hd.2.2.2⟩⟩)
      have hbd : Below wr.heap.size wr wr.drew := (Below.refl _ _).drew
      have hb0 : Below wr.heap.size wr wr := Below.refl _ _
      have HBl := Lib.hid hbel
      clear hc hd hbel
      have g1 : (0 : Int) ≤ (k : Int) := by omega
      have g2 : (k : Int) < (d.length : Int) := by omega
      go_wp2_with fail
      go_region_held3 (fun W => Below wr.heap.size wr W ∧ (W.cell? ⟨p, off + k * 4, none⟩ = some (.string a0) ∧ W.cell? ⟨p, off + k * 4 + 1, none⟩ = some (v1) ∧ W.cell? ⟨p, off + k * 4 + 2, none⟩ = some (v2) ∧ W.cell? ⟨p, off + k * 4 + 3, none⟩ = some (v3)) ∧ (W.cell? ⟨q, off' + k * 4, none⟩ = some (.string a0) ∧ W.cell? ⟨q, off' + k * 4 + 1, none⟩ = some (u1) ∧ W.cell? ⟨q, off' + k * 4 + 2, none⟩ = some (u2) ∧ W.cell? ⟨q, off' + k * 4 + 3, none⟩ = some (u3)))
        (exact SK.out _ (by assumption))
        (first | (go_at_call 30; refine (C.out _ (by assumption)).mono ?_; rintro e w2 ⟨rfl, hb2⟩) | (fail "none"))
      all_goals
        go_wp2
        go_roundw
        case rel => exact ⟨k + 1, by omega, by go_num, HBl.out.trans (hb2.mono HBl.out.size)⟩
        case measure => simp [intOf]; omega
    · go_wp2
      go_ret
      exact ⟨rfl, hbel⟩
end Go.Proofs.YtmanlnlhpgdbpaaDoor
/- The helpers of the laws: sizes. -/
namespace Go.Proofs.YtmanlnlhpgdbpaaDoor
open Go.RowKit
attribute [local go_sem ↓] Go.wp_at_zero Go.wp_at_succ

set_option maxRecDepth 100000 in
set_option maxHeartbeats 4000000 in
theorem szRdn_at  (a0 : ByteArray) (a1 : ByteArray)  (left : Int) (w : World)  (hl : rdnE.long (a0, a1)) (g0 : 0 ≤ left) (g1 : left ≤ 1048576) :
    Calls Tryd.prog 37 #[.agg #[.string a0, .string a1], .int .i64 left] w fun e w' => e = .returned (.int .i64 (leftR (rdnE.sz (a0, a1)) left)) ∧ Below w.heap.size w w' := by
  have HE : Hid (rdnE.sz (a0, a1) = a0.size + (a1.size)) := Lib.hid rfl
  have z0 : a0.size ≤ 9223372036854775807 := by have := hl.1; simp only [strE, maxLen] at this; omega
  have z1 : a1.size ≤ 9223372036854775807 := by have := hl.2; simp only [strE, maxLen] at this; omega
  clear hl
  generalize rdnE.sz (a0, a1) = z at *
  by_cases g2 : (a0.size : Int) ≤ left
  · have c0 : ¬ left - (a0.size : Int) < 0 := by omega
    by_cases g3 : (a1.size : Int) ≤ left - (a0.size : Int)
    · have c1 : ¬ left - (a0.size : Int) - (a1.size : Int) < 0 := by omega
      have HR : Hid (leftR z left = left - (a0.size : Int) - (a1.size : Int)) := Lib.hid (by rw [leftR_pos (by rw [HE.out]; omega), HE.out]; omega)
      go_enter Tryd.func37, Tryd.ntmps37
      go_wp2
      go_ret
      exact ⟨ret_int (by rw [HR.out]), (Below.refl _ _).alloc (Nat.le_refl _) _⟩
    · have c1 : left - (a0.size : Int) - (a1.size : Int) < 0 := by omega
      have HR : Hid (leftR z left = -1) := Lib.hid (leftR_neg (by rw [HE.out]; omega))
      go_enter Tryd.func37, Tryd.ntmps37
      go_wp2
      go_ret
      exact ⟨ret_int (by rw [HR.out]), (Below.refl _ _).alloc (Nat.le_refl _) _⟩
  · have c0 : left - (a0.size : Int) < 0 := by omega
    have HR : Hid (leftR z left = -1) := Lib.hid (leftR_neg (by rw [HE.out]; omega))
    go_enter Tryd.func37, Tryd.ntmps37
    go_wp2
    go_ret
    exact ⟨ret_int (by rw [HR.out]), (Below.refl _ _).alloc (Nat.le_refl _) _⟩
set_option maxRecDepth 100000 in
set_option maxHeartbeats 4000000 in
theorem szRdnS_at {S : Bs} (v : Value) (d : List RdnT) (left : Int) (w : World) (hd : SlAt rdnE S w d v) (hf : (slE rdnE).long d) (h0 : 0 ≤ left) (h1 : left ≤ 1048576) :
    Calls Tryd.prog 18 #[v, .int .i64 left] w fun e w' => e = .returned (.int .i64 (leftR (d.length + szL rdnE d) left)) ∧ Below w.heap.size w w' := by
  obtain ⟨ao, cap, rfl⟩ := hd.sl
  have hl : d.length ≤ 9223372036854775807 := hf.1
  have HD := Lib.hid hd; have HF := Lib.hid hf; clear hd hf
  by_cases g : (d.length : Int) ≤ left
  · have c1 : ¬ left - (d.length : Int) < 0 := by omega
    go_enter Tryd.func18, Tryd.ntmps18
    go_wp2
    go_loopw [1, 5] (fun t i wr => ∃ k : Nat, k ≤ d.length ∧ i = .int .i64 k ∧ ((d.length + szL rdnE (d.take k) : Nat) : Int) ≤ left ∧ t = .int .i64 (left - (d.length + szL rdnE (d.take k) : Nat)) ∧ Below w.heap.size w wr) (fun _ i _ => d.length - (intOf i).toNat)
    case atStart => exact ⟨0, Nat.zero_le _, rfl, by simp [szL]; omega, by simp [szL], Below.refl _ _⟩
    case round =>
      clear c1
      obtain ⟨k, hk, rfl, hle, rfl, hbel⟩ := hrel
      have hsz := hbel.size
      by_cases hlt : k < d.length
      · obtain ⟨b, off, a0, a1, rfl, _, hb0, hx, ⟨hc0, hc1⟩, _⟩ := rdn_row (HD.out.frame (Same.of_below' hbel)) hlt
        have HZ : Hid (rdnE.long (a0, a1)) := Lib.hid (by have := HF.out.2 _ (List.getElem_mem hlt); rw [hx] at this; exact this)
        have HT : Hid (szL rdnE (d.take (k + 1)) = szL rdnE (d.take k) + rdnE.sz (a0, a1)) := Lib.hid (by rw [szL_take rdnE d k hlt, hx])
        have HTl := Lib.hid (szL_le rdnE d (k + 1))
        clear hx
        generalize hq : d.length + szL rdnE (d.take k) = q at *
        have Hq := Lib.hid hq; clear hq
        have HC := Lib.hid (szRdn_at a0 a1 (left - (q : Int)) wr  HZ.out (by omega) (by omega))
        generalize rdnE.sz (a0, a1) = r at *
        go_wp2_with fail
        refine HC.out.mono ?_
        rintro e w2 ⟨rfl, hb2⟩
        have B2 := Lib.hid (hbel.trans (hb2.mono hsz)); clear hb2
        by_cases hfit : (r : Int) ≤ left - (q : Int)
        · rw [leftR_pos hfit]
          have c2 : ¬ left - (q : Int) - (r : Int) < 0 := by omega
          go_wp2
          go_roundw
          case rel =>
            have e := HT.out
            have e3 := Hq.out
            exact ⟨k + 1, by omega, by go_num, by omega, by rw [e]; congr 1; omega, B2.out⟩
          case measure => simp [intOf]; omega
        · rw [leftR_neg hfit]
          have HR : Hid (leftR (d.length + szL rdnE d) left = -1) := Lib.hid (leftR_neg (by
            have := HT.out; have := HTl.out; have := Hq.out; omega))
          go_wp2
          go_ret
          exact ⟨ret_int (by rw [HR.out]), B2.out⟩
      · have HR : Hid (leftR (d.length + szL rdnE d) left = left - (d.length + szL rdnE (d.take k) : Nat)) := Lib.hid (by
          rw [List.take_of_length_le (by omega)] at hle ⊢
          exact leftR_pos hle)
        go_wp2
        go_ret
        exact ⟨ret_int (by rw [HR.out]), hbel⟩
  · have HR : Hid (leftR (d.length + szL rdnE d) left = -1) := Lib.hid (leftR_neg (by omega))
    have c1 : left - (d.length : Int) < 0 := by omega
    go_enter Tryd.func18, Tryd.ntmps18
    go_wp2
    go_ret
    exact ⟨ret_int (by rw [HR.out]), Below.refl _ _⟩
end Go.Proofs.YtmanlnlhpgdbpaaDoor
/- The helpers of the laws: sizes. -/
namespace Go.Proofs.YtmanlnlhpgdbpaaDoor
open Go.RowKit
attribute [local go_sem ↓] Go.wp_at_zero Go.wp_at_succ

set_option maxRecDepth 100000 in
set_option maxHeartbeats 4000000 in
theorem szAttr_at {S : Bs} (a0 : ByteArray) (a1 : (List ByteArray)) (v1 : Value) (left : Int) (w : World) (h1 : SlAt strE S w a1 v1) (hl : attrE.long (a0, a1)) (g0 : 0 ≤ left) (g1 : left ≤ 1048576) :
    Calls Tryd.prog 38 #[.agg #[.string a0, v1], .int .i64 left] w fun e w' => e = .returned (.int .i64 (leftR (attrE.sz (a0, a1)) left)) ∧ Below w.heap.size w w' := by
  have HE : Hid (attrE.sz (a0, a1) = a0.size + ((a1.length + szL strE a1))) := Lib.hid rfl
  have z0 : a0.size ≤ 9223372036854775807 := by have := hl.1; simp only [strE, maxLen] at this; omega
  have C1 : Hid (∀ (l : Int) (W : World), Below w.heap.size w W → 0 ≤ l → l ≤ 1048576 → Calls Tryd.prog 36 #[v1, .int .i64 l] W fun e w' => e = .returned (.int .i64 (leftR (a1.length + szL strE a1) l)) ∧ Below W.heap.size W w') := Lib.hid (fun l W b p q => szStringS_at v1 a1 l W (h1.frame (Same.of_below' b)) hl.2 p q)
  obtain ⟨o1, k1, rfl⟩ := h1.sl
  clear h1
  clear hl
  generalize attrE.sz (a0, a1) = z at *
  generalize (a1.length + szL strE a1) = r1 at *
  generalize a1.length = m1 at *
  by_cases g2 : (a0.size : Int) ≤ left
  · have c0 : ¬ left - (a0.size : Int) < 0 := by omega
    go_enter Tryd.func38, Tryd.ntmps38
    go_wp2_with fail
    refine calls_by (fun W => Below w.heap.size w W ∧ Blk W w.heap.size [.string a0, .slice o1 m1 k1]) ⟨more' (Below.refl _ _) _, Blk.new _ _ _⟩ ?_
    rintro w1 ⟨b1, t1⟩
    have T1 := Lib.hid t1; clear t1
    refine (C1.out _ w1 b1 (by omega) (by omega)).mono ?_
    rintro e w2 ⟨rfl, hb⟩
    have T2 := Lib.hid (T1.out.below hb); have b2 := b1.trans (hb.mono b1.size)
    clear hb b1 T1 C1
    by_cases g3 : (r1 : Int) ≤ left - (a0.size : Int)
    · rw [leftR_pos g3]
      have c1 : ¬ left - (a0.size : Int) - (r1 : Int) < 0 := by omega
      have q0 := T2.out.cell 0 rfl
      have q1 := T2.out.cell 1 rfl
      have HR : Hid (leftR z left = left - (a0.size : Int) - (r1 : Int)) := Lib.hid (by rw [leftR_pos (by rw [HE.out]; omega), HE.out]; omega)
      go_wp2
      go_ret
      exact ⟨ret_int (by rw [HR.out]), b2⟩
    · rw [leftR_neg g3]
      have HR : Hid (leftR z left = -1) := Lib.hid (leftR_neg (by rw [HE.out]; omega))
      go_wp2
      go_ret
      exact ⟨ret_int (by rw [HR.out]), b2⟩
  · have c0 : left - (a0.size : Int) < 0 := by omega
    have HR : Hid (leftR z left = -1) := Lib.hid (leftR_neg (by rw [HE.out]; omega))
    go_enter Tryd.func38, Tryd.ntmps38
    go_wp2
    go_ret
    exact ⟨ret_int (by rw [HR.out]), (Below.refl _ _).alloc (Nat.le_refl _) _⟩
set_option maxRecDepth 100000 in
set_option maxHeartbeats 4000000 in
theorem szAttrS_at {S : Bs} (v : Value) (d : List AttrT) (left : Int) (w : World) (hd : SlAt attrE S w d v) (hf : (slE attrE).long d) (h0 : 0 ≤ left) (h1 : left ≤ 1048576) :
    Calls Tryd.prog 19 #[v, .int .i64 left] w fun e w' => e = .returned (.int .i64 (leftR (d.length + szL attrE d) left)) ∧ Below w.heap.size w w' := by
  obtain ⟨ao, cap, rfl⟩ := hd.sl
  have hl : d.length ≤ 9223372036854775807 := hf.1
  have HD := Lib.hid hd; have HF := Lib.hid hf; clear hd hf
  by_cases g : (d.length : Int) ≤ left
  · have c1 : ¬ left - (d.length : Int) < 0 := by omega
    go_enter Tryd.func19, Tryd.ntmps19
    go_wp2
    go_loopw [1, 5] (fun t i wr => ∃ k : Nat, k ≤ d.length ∧ i = .int .i64 k ∧ ((d.length + szL attrE (d.take k) : Nat) : Int) ≤ left ∧ t = .int .i64 (left - (d.length + szL attrE (d.take k) : Nat)) ∧ Below w.heap.size w wr) (fun _ i _ => d.length - (intOf i).toNat)
    case atStart => exact ⟨0, Nat.zero_le _, rfl, by simp [szL]; omega, by simp [szL], Below.refl _ _⟩
    case round =>
      clear c1
      obtain ⟨k, hk, rfl, hle, rfl, hbel⟩ := hrel
      have hsz := hbel.size
      by_cases hlt : k < d.length
      · obtain ⟨b, off, a0, a1, v1, rfl, _, hb0, hx, ⟨hc0, hc1⟩, s1, _⟩ := attr_row (HD.out.frame (Same.of_below' hbel)) hlt
        have HV1 := Lib.hid s1; clear s1
        have HZ : Hid (attrE.long (a0, a1)) := Lib.hid (by have := HF.out.2 _ (List.getElem_mem hlt); rw [hx] at this; exact this)
        have HT : Hid (szL attrE (d.take (k + 1)) = szL attrE (d.take k) + attrE.sz (a0, a1)) := Lib.hid (by rw [szL_take attrE d k hlt, hx])
        have HTl := Lib.hid (szL_le attrE d (k + 1))
        clear hx
        generalize hq : d.length + szL attrE (d.take k) = q at *
        have Hq := Lib.hid hq; clear hq
        have HC := Lib.hid (szAttr_at a0 a1 v1 (left - (q : Int)) wr HV1.out HZ.out (by omega) (by omega))
        generalize attrE.sz (a0, a1) = r at *
        go_wp2_with fail
        refine HC.out.mono ?_
        rintro e w2 ⟨rfl, hb2⟩
        have B2 := Lib.hid (hbel.trans (hb2.mono hsz)); clear hb2
        by_cases hfit : (r : Int) ≤ left - (q : Int)
        · rw [leftR_pos hfit]
          have c2 : ¬ left - (q : Int) - (r : Int) < 0 := by omega
          go_wp2
          go_roundw
          case rel =>
            have e := HT.out
            have e3 := Hq.out
            exact ⟨k + 1, by omega, by go_num, by omega, by rw [e]; congr 1; omega, B2.out⟩
          case measure => simp [intOf]; omega
        · rw [leftR_neg hfit]
          have HR : Hid (leftR (d.length + szL attrE d) left = -1) := Lib.hid (leftR_neg (by
            have := HT.out; have := HTl.out; have := Hq.out; omega))
          go_wp2
          go_ret
          exact ⟨ret_int (by rw [HR.out]), B2.out⟩
      · have HR : Hid (leftR (d.length + szL attrE d) left = left - (d.length + szL attrE (d.take k) : Nat)) := Lib.hid (by
          rw [List.take_of_length_le (by omega)] at hle ⊢
          exact leftR_pos hle)
        go_wp2
        go_ret
        exact ⟨ret_int (by rw [HR.out]), hbel⟩
  · have HR : Hid (leftR (d.length + szL attrE d) left = -1) := Lib.hid (leftR_neg (by omega))
    have c1 : left - (d.length : Int) < 0 := by omega
    go_enter Tryd.func19, Tryd.ntmps19
    go_wp2
    go_ret
    exact ⟨ret_int (by rw [HR.out]), Below.refl _ _⟩
end Go.Proofs.YtmanlnlhpgdbpaaDoor
/- The helpers of the laws: sizes. -/
namespace Go.Proofs.YtmanlnlhpgdbpaaDoor
open Go.RowKit
attribute [local go_sem ↓] Go.wp_at_zero Go.wp_at_succ

set_option maxRecDepth 100000 in
set_option maxHeartbeats 4000000 in
theorem szEntry_at {S : Bs} (a0 : (List RdnT)) (a1 : (List AttrT)) (v0 v1 : Value) (left : Int) (w : World) (h0 : SlAt rdnE S w a0 v0) (h1 : SlAt attrE S w a1 v1) (hl : entryE.long (a0, a1)) (g0 : 0 ≤ left) (g1 : left ≤ 1048576) :
    Calls Tryd.prog 5 #[.agg #[v0, v1], .int .i64 left] w fun e w' => e = .returned (.int .i64 (leftR (entryE.sz (a0, a1)) left)) ∧ Below w.heap.size w w' := by
  have HE : Hid (entryE.sz (a0, a1) = (a0.length + szL rdnE a0) + ((a1.length + szL attrE a1))) := Lib.hid rfl
  have C0 : Hid (∀ (l : Int) (W : World), Below w.heap.size w W → 0 ≤ l → l ≤ 1048576 → Calls Tryd.prog 18 #[v0, .int .i64 l] W fun e w' => e = .returned (.int .i64 (leftR (a0.length + szL rdnE a0) l)) ∧ Below W.heap.size W w') := Lib.hid (fun l W b p q => szRdnS_at v0 a0 l W (h0.frame (Same.of_below' b)) hl.1 p q)
  have C1 : Hid (∀ (l : Int) (W : World), Below w.heap.size w W → 0 ≤ l → l ≤ 1048576 → Calls Tryd.prog 19 #[v1, .int .i64 l] W fun e w' => e = .returned (.int .i64 (leftR (a1.length + szL attrE a1) l)) ∧ Below W.heap.size W w') := Lib.hid (fun l W b p q => szAttrS_at v1 a1 l W (h1.frame (Same.of_below' b)) hl.2 p q)
  obtain ⟨o0, k0, rfl⟩ := h0.sl
  obtain ⟨o1, k1, rfl⟩ := h1.sl
  clear h0 h1
  clear hl
  generalize entryE.sz (a0, a1) = z at *
  generalize (a0.length + szL rdnE a0) = r0 at *
  generalize (a1.length + szL attrE a1) = r1 at *
  generalize a0.length = m0 at *
  generalize a1.length = m1 at *
  go_enter Tryd.func5, Tryd.ntmps5
  go_wp2_with fail
  refine calls_by (fun W => Below w.heap.size w W ∧ Blk W w.heap.size [.slice o0 m0 k0, .slice o1 m1 k1]) ⟨more' (Below.refl _ _) _, Blk.new _ _ _⟩ ?_
  rintro w1 ⟨b1, t1⟩
  have T1 := Lib.hid t1; clear t1
  refine (C0.out _ w1 b1 (by omega) (by omega)).mono ?_
  rintro e w2 ⟨rfl, hb⟩
  have T2 := Lib.hid (T1.out.below hb); have b2 := b1.trans (hb.mono b1.size)
  clear hb b1 T1 C0
  by_cases g2 : (r0 : Int) ≤ left
  · rw [leftR_pos g2]
    have c0 : ¬ left - (r0 : Int) < 0 := by omega
    have q0 := T2.out.cell 0 rfl
    have q1 := T2.out.cell 1 rfl
    go_wp2_with fail
    refine (C1.out _ w2 b2 (by omega) (by omega)).mono ?_
    rintro e w3 ⟨rfl, hb⟩
    have T3 := Lib.hid (T2.out.below hb); have b3 := b2.trans (hb.mono b2.size)
    clear hb b2 T2 C1 q0 q1
    by_cases g3 : (r1 : Int) ≤ left - (r0 : Int)
    · rw [leftR_pos g3]
      have c1 : ¬ left - (r0 : Int) - (r1 : Int) < 0 := by omega
      have q0 := T3.out.cell 0 rfl
      have q1 := T3.out.cell 1 rfl
      have HR : Hid (leftR z left = left - (r0 : Int) - (r1 : Int)) := Lib.hid (by rw [leftR_pos (by rw [HE.out]; omega), HE.out]; omega)
      go_wp2
      go_ret
      exact ⟨ret_int (by rw [HR.out]), b3⟩
    · rw [leftR_neg g3]
      have HR : Hid (leftR z left = -1) := Lib.hid (leftR_neg (by rw [HE.out]; omega))
      go_wp2
      go_ret
      exact ⟨ret_int (by rw [HR.out]), b3⟩
  · rw [leftR_neg g2]
    have HR : Hid (leftR z left = -1) := Lib.hid (leftR_neg (by rw [HE.out]; omega))
    go_wp2
    go_ret
    exact ⟨ret_int (by rw [HR.out]), b2⟩
end Go.Proofs.YtmanlnlhpgdbpaaDoor
/- The helpers of the laws: copies. -/
namespace Go.Proofs.YtmanlnlhpgdbpaaDoor
open Go.RowKit
attribute [local go_sem ↓] Go.wp_at_zero Go.wp_at_succ

theorem Tryd.infoTRdn : (Tryd.prog.info? 84).map (fun i => (i.zero, i.size, i.bytes)) = some (some (.agg #[.string ByteArray.empty, .string ByteArray.empty]), 2, 32) := by kernel_rfl
theorem mkRdn (n : Nat) (hn : n ≤ 1048576) (W : World) : ∃ C : Array Value, C.size = n * 2 ∧
    (Instr.makeSlice 33 (.int .i64 (n : Int)) (.int .i64 (n : Int))).run Tryd.prog W = .ok (.slice (some ⟨W.heap.size, 0, none⟩) n n) (W.alloc (.cells C 84)) := by
  obtain ⟨i0, hi, hz0, hz1, hz2⟩ := info_parts Tryd.infoTRdn
  have := run_make (P := Tryd.prog) W 33 84 i0 _ Tryd.underlying33 hi hz0 .i64 .i64 (n : Int) (n : Int) (by omega) (by omega) (by rw [hz2]; omega) (by omega)
  rw [hz1] at this
  refine ⟨madeCells (Value.cells (.agg #[.string ByteArray.empty, .string ByteArray.empty])) (n * 2), size_madeCells _ _, ?_⟩
  simpa using this
set_option maxRecDepth 100000 in
set_option maxHeartbeats 4000000 in
theorem toRdn_at  (a0 : ByteArray) (a1 : ByteArray)  (w : World)   :
    Calls Tryd.prog 46 #[.agg #[.string a0, .string a1]] w fun e w' => e = .returned (.agg #[.string a0, .string a1]) ∧ rdnE.Own (Fresh w w') w' (a0, a1) [.string a0, .string a1] ∧ Below w.heap.size w w' := by
  go_enter Tryd.func46, Tryd.ntmps46
  go_wp2
  refine bodyPost_ret (v := .agg #[.string a0, .string a1]) (by simp [results, Tryd.results46, go_sem]) rfl ⟨rfl, ?_, ?_⟩
  · exact rdn_pack a0 a1 trivial
  · exact more' (more' (more' (Below.refl _ _) _) _) _
set_option maxRecDepth 100000 in
set_option maxHeartbeats 4000000 in
theorem toRdnS_at {S : Bs} (v : Value) (d : List RdnT) (w : World) (hd : SlAt rdnE S w d v) (hz : d.length + szL rdnE d ≤ 1048576) :
    Calls Tryd.prog 25 #[v] w fun e w' => ∃ u, e = .returned u ∧ SlOwn rdnE (Fresh w w') w' d u ∧ Below w.heap.size w w' := by
  obtain ⟨ao, cap, rfl⟩ := hd.sl
  have HD := Lib.hid hd; clear hd
  have HL := Lib.hid hz
  have hl : d.length ≤ 1048576 := by omega
  clear hz
  obtain ⟨C, hC, hmk⟩ := mkRdn d.length hl w
  have HC := Lib.hid hC; clear hC
  go_enter Tryd.func25, Tryd.ntmps25
  go_wp2
  clear hmk
  go_loopw [4] (fun i wr => ∃ k : Nat, k ≤ d.length ∧ i = .int .i64 k ∧ Build rdnE wr w.heap.size d.length (d.take k) ∧ Below w.heap.size w wr) (fun i _ => d.length - (intOf i).toNat)
  case atStart => exact ⟨0, Nat.zero_le _, rfl, Build.new _ _ _ _ HC.out, (Below.refl _ _).alloc (Nat.le_refl _) _⟩
  case round =>
    obtain ⟨k, hk, rfl, hR, hbel⟩ := hrel
    have HR := Lib.hid hR; clear hR
    have hsz := hbel.size
    by_cases hlt : k < d.length
    · obtain ⟨b, off, a0, a1, rfl, _, hb0, hx, ⟨hc0, hc1⟩, _⟩ := rdn_row (HD.out.frame (Same.of_below' hbel)) hlt
      have HT : Hid (d.take (k + 1) = d.take k ++ [(a0, a1)]) := Lib.hid (by rw [List.take_succ_eq_append_getElem hlt, hx])
      have HK : Hid ((d.take k).length = k) := Lib.hid (by rw [List.length_take]; omega)
      have HZ : Hid (rdnE.sz (a0, a1) ≤ 1048576) := Lib.hid (by have h1 := szL_mem rdnE (List.getElem_mem hlt); rw [hx] at h1; have := HL.out; omega)
      clear hx
      go_wp2_with fail
      refine (toRdn_at a0 a1 wr ).mono ?_
      rintro e w2 ⟨rfl, hq, hb2⟩
      have HR2 := Lib.hid (HR.out.below hb2)
      have B2 := Lib.hid (hbel.trans (hb2.mono hsz))
      have HQ := Lib.hid hq
      have HB := Lib.hid hb2
      clear hb2 hq hc0 hc1
      obtain ⟨x0, c0⟩ := HR2.out.cell (k := k) (u := 0) hlt (by decide)
      have c0 : w2.cell? ⟨w.heap.size, k * 2, none⟩ = some x0 := c0
      have f0 := HR2.out.soft (k * 2)
      obtain ⟨x1, c1⟩ := HR2.out.cell (k := k) (u := 1) hlt (by decide)
      have c1 : w2.cell? ⟨w.heap.size, k * 2 + 1, none⟩ = some x1 := c1
      have f1 := HR2.out.soft (k * 2 + 1)
      go_wp2
      go_roundw
      case rel => exact ⟨k + 1, by omega, by go_num, by rw [HT.out]; exact HR.out.row (o := k * 2) (cs := [.string a0, .string a1]) (by rw [HK.out]; exact hlt) (by rw [HK.out]; rfl) HB.out HQ.out, ((B2.out.setCell (Nat.le_refl _) _).setCell (Nat.le_refl _) _)⟩
      case measure => simp [intOf]; omega
    · have e : d.take k = d := List.take_of_length_le (by omega)
      rw [e] at HR
      clear e
      go_wp2
      go_ret
      exact ⟨_, rfl, HR.out.own, hbel⟩
end Go.Proofs.YtmanlnlhpgdbpaaDoor
