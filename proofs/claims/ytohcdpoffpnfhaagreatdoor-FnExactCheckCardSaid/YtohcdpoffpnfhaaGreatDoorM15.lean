/- Merged texts: MsX, IsE, CkI, CkS, CkZ, szString, szClass, toString. -/
import Derived.Test.YtohcdpoffpnfhaaGreatDoorM12
import Derived.Test.YtohcdpoffpnfhaaGreatDoorM14
import Derived.Test.YtohcdpoffpnfhaaGreatDoorM1
import Derived.WalkKit
import Derived.LaidEql
import Derived.Stop.Asserts
import Derived.RowKitTokens
import Derived.Test.YtohcdpoffpnfhaaGreatDoorM6
import Derived.Test.YtohcdpoffpnfhaaGreatDoorM2
import Derived.Laws.MakeOwn
/- Check: what the specification finds of what is right. -/
namespace Go.Proofs.YtohcdpoffpnfhaaGreatDoor
open Go.RowKit
set_option linter.unusedVariables false
attribute [local go_sem ↓] Go.wp_at_zero Go.wp_at_succ

/-- an attribute that the class knows, with as many values as it may have -/
def ok2B (c : ClassV) (a : AttrV) : Bool := !((!(decide (a.1 = clsT)) && (!hasS c.must a.1 && !hasS c.may a.1)) || (decide (1 < a.2.length) && hasS c.one a.1))
theorem ok2_all (c : ClassV) (l : List AttrV) : l.all (ok2B c) = ((strayV c l).isEmpty && l.all (oneB c)) := by
  unfold strayV besideV namesA
  induction l with
  | nil => rfl
  | cons a l ih =>
    have hn : hasS (c.must ++ c.may ++ [clsT]) a.1 = (hasS c.must a.1 || (hasS c.may a.1 || decide (a.1 = clsT))) := by
      rw [hasS_append, hasS_append, Bool.or_assoc]
      congr 2
      unfold hasS
      simp only [List.any_cons, List.any_nil, Bool.or_false]
      rw [name_eq]
      exact decide_eq_decide.2 ⟨fun h => h.symm, fun h => h.symm⟩
    rw [List.all_cons, List.all_cons, ih, List.map_cons, List.filter_cons, hn]
    unfold ok2B oneB
    cases hasS c.must a.1 <;> cases hasS c.may a.1 <;> cases decide (a.1 = clsT) <;> cases (decide (1 < a.2.length) && hasS c.one a.1) <;> simp
/-- so many of the attributes are well -/
def AllOk (c : ClassV) (l : List AttrV) (j : Nat) : Prop := (l.take j).all (ok2B c) = true
theorem AllOk.zero (c : ClassV) (l : List AttrV) : AllOk c l 0 := rfl
set_option maxRecDepth 100000 in
set_option maxHeartbeats 40000000 in
theorem l05Check_any (so : Option Addr) (X : List ClassV) (cs : Nat) (ao bo : Option Addr) (d : RdnL) (l : List AttrV) (ca cb : Nat) (w : World) (hs : ClassesAt w so X) (hfs : FitsC X) (hd : DnAt w ao d) (hl : AttrsAt w bo l) (hfd : Fits d) (hfl : FitsA l) (hsx : schemaB X = true) (hr : rightB d l = true) :
    Calls Tryz.prog 50 #[.slice so X.length cs, .agg #[.slice ao d.length ca, .slice bo l.length cb]] w fun e w' => e = .returned (.int .i64 (if checkR X d l = some true then 0 else 12)) ∧ Below w.heap.size w w' := by
  have HD := Lib.hid hd; have HL := Lib.hid hl; have FD := Lib.hid hfd; have FL := Lib.hid hfl
  have CM : Hid (∀ W : World, Below w.heap.size w W → Calls Tryz.prog 105 #[.slice so X.length cs, .agg #[.slice ao d.length ca, .slice bo l.length cb]] W (GivesC w W (mineC X l))) := Lib.hid (fun W b => l05Mine_any w so X cs ao bo d l ca cb W b hs hfs (hl.below b) hfl)
  have CH : Hid (∀ (W : World) (nm val : ByteArray), Below w.heap.size w W → val.size ≤ maxLen → Calls Tryz.prog 106 #[.agg #[.slice ao d.length ca, .slice bo l.length cb], .string nm, .string val] W fun e w' => e = .returned (.bool (hasB d l nm val)) ∧ Below W.heap.size W w') := Lib.hid (fun W nm val b q => l03Has_any ao bo d l ca cb nm val W (hl.below b) hfl q hr)
  have CA : Hid (∀ (W : World) (nm : ByteArray), Below w.heap.size w W → Calls Tryz.prog 107 #[.agg #[.slice ao d.length ca, .slice bo l.length cb], .string nm] W fun e w' => e = .returned (.int .i64 (atI l nm)) ∧ Below W.heap.size W w') := Lib.hid (fun W nm b => l03At_any ao bo d l ca cb nm W (hl.below b) hfl)
  have HR : Hid (checkR X d l = match mineC X l with | none => some false | some c => some (namesOk c l && valuesOk c d l)) := Lib.hid (by unfold checkR; rw [mine_right hsx hr]; cases mineC X l <;> rfl)
  have HFC : Hid (∀ c, mineC X l = some c → FitsC1 c) := Lib.hid (fun c h => hfs.2 c (mine_in (by rw [mine_right hsx hr, h])))
  have hd0 := right_pos hr
  clear hs hd hl hfd hfl hfs hsx hr
  go_enter Tryz.func50, Tryz.ntmps50
  go_wp2_with fail
  refine calls_by (fun W => Below w.heap.size w W ∧ Blk W w.heap.size [.slice ao d.length ca, .slice bo l.length cb]) ⟨more' (Below.refl _ _) _, Blk.new _ _ _⟩ ?_
  rintro W1 ⟨b1, e1⟩
  refine (CM.out W1 b1).mono ?_
  rintro e w2 ⟨hb, hm⟩
  have B2 := Lib.hid (b1.trans (hb.mono b1.size)); have E2 := Lib.hid (e1.below hb)
  clear b1 e1 hb CM
  cases hM : mineC X l with
  | none =>
    rw [hM] at hm
    have HE : Hid (¬ checkR X d l = some true) := Lib.hid (fun h => by rw [HR.out, hM] at h; cases h)
    clear hM
    obtain rfl := hm
    go_wp2_with fail
    refine wp_world (fun W => Below w2.heap.size w2 W ∧ Blk W w.heap.size [.slice ao d.length ca, .slice bo l.length cb]) ⟨more' (Below.refl _ _) _, E2.out.alloc _⟩ ?_
    rintro W3 ⟨b3, e3⟩
    have hb3 := B2.out.trans (b3.mono B2.out.size)
    have E4 := Lib.hid e3; clear e3
    have SK : Hid (∀ Z' : World, Below W3.heap.size W3 Z' → Z'.cell? ⟨w.heap.size, 1, none⟩ = some (.slice bo l.length cb)) := Lib.hid (fun Z' h => (E4.out.below h).cell 1 rfl)
    have BD : Below W3.heap.size W3 W3.drew := (Below.refl _ _).drew
    refine wp_region_held_drew (S := (fun Z' => Z'.cell? ⟨w.heap.size, 1, none⟩ = some (.slice bo l.length cb))) (by kernel_rfl) ?_ (fun hHeld => ?_)
    · (try dsimp only)
      first | exact SK.out _ (by assumption) | exact SK.out _ BD | exact SK.out _ (more' (by assumption) _) | exact SK.out _ (more' BD _)
    refine wpAnyH_take (i := 0) (oi := { dst := some 16, op := Op.move (Operand.tmp 6), type := 4, pos := "l05_schema.go:107", after := #[], guard := none }) (v := ?_) rfl (by kernel_rfl) (by kernel_rfl) (by kernel_rfl) (fun _ _ _ h => h) (Or.inl ⟨by rfl, ?_⟩) (by assumption) ?_
    rotate_left
    · intro w hSw; (try dsimp only at hSw); go_simp; (try with_reducible rfl)
    (try simp only [Act.put, List.setIfInBounds_toArray, List.set_cons_zero, List.set_cons_succ])
    refine wpAnyH_take (i := 1) (oi := { dst := some 17, op := Op.unOp UnOp.not 4 (Operand.tmp 16), type := 4, pos := "l05_schema.go:107", after := #[{ on := 0, ground := Ground.data }], guard := none }) (v := ?_) rfl (by kernel_rfl) (by kernel_rfl) (by kernel_rfl) (fun _ _ _ h => h) (Or.inl ⟨by rfl, ?_⟩) (by assumption) ?_
    rotate_left
    · intro w hSw; (try dsimp only at hSw); go_simp; (try with_reducible rfl)
    (try simp only [Act.put, List.setIfInBounds_toArray, List.set_cons_zero, List.set_cons_succ])
    refine wpAnyH_take (i := 2) (oi := { dst := some 18, op := Op.move (Operand.tmp 17), type := 4, pos := "l05_schema.go:107", after := #[{ on := 1, ground := Ground.data }], guard := none }) (v := ?_) rfl (by kernel_rfl) (by kernel_rfl) (by kernel_rfl) (fun _ _ _ h => h) (Or.inl ⟨by rfl, ?_⟩) (by assumption) ?_
    rotate_left
    · intro w hSw; (try dsimp only at hSw); go_simp; (try with_reducible rfl)
    (try simp only [Act.put, List.setIfInBounds_toArray, List.set_cons_zero, List.set_cons_succ])
    refine wpAnyH_take (i := 3) (oi := { dst := some 19, op := Op.load 35 (Operand.tmp 3), type := 35, pos := "l05_schema.go:107", after := #[{ on := 2, ground := Ground.guard }], guard := some (2, false) }) (v := undef) rfl (by kernel_rfl) (by kernel_rfl) (by kernel_rfl) (fun _ _ _ h => h) (Or.inr ⟨by rfl, rfl⟩) (by assumption) ?_
    (try simp only [Act.put, List.setIfInBounds_toArray, List.set_cons_zero, List.set_cons_succ])
    refine wpAnyH_take (i := 4) (oi := { dst := some 20, op := Op.fieldAddr 35 (Operand.tmp 3) 0, type := 0, pos := "l05_schema.go:107", after := #[{ on := 2, ground := Ground.guard }], guard := some (2, false) }) (v := undef) rfl (by kernel_rfl) (by kernel_rfl) (by kernel_rfl) (fun _ _ _ h => h) (Or.inr ⟨by rfl, rfl⟩) (by assumption) ?_
    (try simp only [Act.put, List.setIfInBounds_toArray, List.set_cons_zero, List.set_cons_succ])
    refine wpAnyH_take (i := 5) (oi := { dst := some 21, op := Op.load 32 (Operand.tmp 20), type := 32, pos := "l05_schema.go:107", after := #[{ on := 4, ground := Ground.data }, { on := 2, ground := Ground.guard }], guard := some (2, false) }) (v := undef) rfl (by kernel_rfl) (by kernel_rfl) (by kernel_rfl) (fun _ _ _ h => h) (Or.inr ⟨by rfl, rfl⟩) (by assumption) ?_
    (try simp only [Act.put, List.setIfInBounds_toArray, List.set_cons_zero, List.set_cons_succ])
    refine wpAnyH_take (i := 6) (oi := { dst := some 22, op := Op.indexAddr 32 (Operand.tmp 21) (Operand.const (Value.int IntKind.i64 0)), type := 0, pos := "l05_schema.go:107", after := #[{ on := 5, ground := Ground.data }, { on := 2, ground := Ground.guard }], guard := some (2, false) }) (v := undef) rfl (by kernel_rfl) (by kernel_rfl) (by kernel_rfl) (fun _ _ _ h => h) (Or.inr ⟨by rfl, rfl⟩) (by assumption) ?_
    (try simp only [Act.put, List.setIfInBounds_toArray, List.set_cons_zero, List.set_cons_succ])
    refine wpAnyH_take (i := 7) (oi := { dst := some 23, op := Op.fieldAddr 108 (Operand.tmp 22) 0, type := 0, pos := "l05_schema.go:107", after := #[{ on := 6, ground := Ground.data }, { on := 2, ground := Ground.guard }], guard := some (2, false) }) (v := undef) rfl (by kernel_rfl) (by kernel_rfl) (by kernel_rfl) (fun _ _ _ h => h) (Or.inr ⟨by rfl, rfl⟩) (by assumption) ?_
    (try simp only [Act.put, List.setIfInBounds_toArray, List.set_cons_zero, List.set_cons_succ])
    refine wpAnyH_take (i := 8) (oi := { dst := some 24, op := Op.load 9 (Operand.tmp 23), type := 9, pos := "l05_schema.go:107", after := #[{ on := 7, ground := Ground.data }, { on := 2, ground := Ground.guard }], guard := some (2, false) }) (v := undef) rfl (by kernel_rfl) (by kernel_rfl) (by kernel_rfl) (fun _ _ _ h => h) (Or.inr ⟨by rfl, rfl⟩) (by assumption) ?_
    (try simp only [Act.put, List.setIfInBounds_toArray, List.set_cons_zero, List.set_cons_succ])
    refine wpAnyH_take (i := 9) (oi := { dst := some 25, op := Op.fieldAddr 35 (Operand.tmp 3) 0, type := 0, pos := "l05_schema.go:107", after := #[{ on := 2, ground := Ground.guard }], guard := some (2, false) }) (v := undef) rfl (by kernel_rfl) (by kernel_rfl) (by kernel_rfl) (fun _ _ _ h => h) (Or.inr ⟨by rfl, rfl⟩) (by assumption) ?_
    (try simp only [Act.put, List.setIfInBounds_toArray, List.set_cons_zero, List.set_cons_succ])
    refine wpAnyH_take (i := 10) (oi := { dst := some 26, op := Op.load 32 (Operand.tmp 25), type := 32, pos := "l05_schema.go:107", after := #[{ on := 9, ground := Ground.data }, { on := 2, ground := Ground.guard }], guard := some (2, false) }) (v := undef) rfl (by kernel_rfl) (by kernel_rfl) (by kernel_rfl) (fun _ _ _ h => h) (Or.inr ⟨by rfl, rfl⟩) (by assumption) ?_
    (try simp only [Act.put, List.setIfInBounds_toArray, List.set_cons_zero, List.set_cons_succ])
    refine wpAnyH_take (i := 11) (oi := { dst := some 27, op := Op.indexAddr 32 (Operand.tmp 26) (Operand.const (Value.int IntKind.i64 0)), type := 0, pos := "l05_schema.go:107", after := #[{ on := 10, ground := Ground.data }, { on := 2, ground := Ground.guard }], guard := some (2, false) }) (v := undef) rfl (by kernel_rfl) (by kernel_rfl) (by kernel_rfl) (fun _ _ _ h => h) (Or.inr ⟨by rfl, rfl⟩) (by assumption) ?_
    (try simp only [Act.put, List.setIfInBounds_toArray, List.set_cons_zero, List.set_cons_succ])
    refine wpAnyH_take (i := 12) (oi := { dst := some 28, op := Op.fieldAddr 108 (Operand.tmp 27) 1, type := 0, pos := "l05_schema.go:107", after := #[{ on := 11, ground := Ground.data }, { on := 2, ground := Ground.guard }], guard := some (2, false) }) (v := undef) rfl (by kernel_rfl) (by kernel_rfl) (by kernel_rfl) (fun _ _ _ h => h) (Or.inr ⟨by rfl, rfl⟩) (by assumption) ?_
    (try simp only [Act.put, List.setIfInBounds_toArray, List.set_cons_zero, List.set_cons_succ])
    refine wpAnyH_take (i := 13) (oi := { dst := some 29, op := Op.load 9 (Operand.tmp 28), type := 9, pos := "l05_schema.go:107", after := #[{ on := 12, ground := Ground.data }, { on := 2, ground := Ground.guard }], guard := some (2, false) }) (v := undef) rfl (by kernel_rfl) (by kernel_rfl) (by kernel_rfl) (fun _ _ _ h => h) (Or.inr ⟨by rfl, rfl⟩) (by assumption) ?_
    (try simp only [Act.put, List.setIfInBounds_toArray, List.set_cons_zero, List.set_cons_succ])
    refine wpAnyH_take (i := 14) (oi := { dst := some 30, op := Op.call { callee := Callee.value (Operand.func 106), args := #[Operand.tmp 19, Operand.tmp 24, Operand.tmp 29], argTypes := #[35, 9, 9] }, type := 4, pos := "l05_schema.go:107", after := #[{ on := 3, ground := Ground.data }, { on := 8, ground := Ground.data }, { on := 13, ground := Ground.data }, { on := 2, ground := Ground.chain }, { on := 2, ground := Ground.guard }], guard := some (2, false) }) (v := undef) rfl (by kernel_rfl) (by kernel_rfl) (by kernel_rfl) (fun _ _ _ h => h) (Or.inr ⟨by rfl, rfl⟩) (by assumption) ?_
    (try simp only [Act.put, List.setIfInBounds_toArray, List.set_cons_zero, List.set_cons_succ])
    refine wpAnyH_take (i := 15) (oi := { dst := some 31, op := Op.unOp UnOp.not 4 (Operand.tmp 30), type := 4, pos := "l05_schema.go:107", after := #[{ on := 14, ground := Ground.data }, { on := 2, ground := Ground.guard }], guard := some (2, false) }) (v := undef) rfl (by kernel_rfl) (by kernel_rfl) (by kernel_rfl) (fun _ _ _ h => h) (Or.inr ⟨by rfl, rfl⟩) (by assumption) ?_
    (try simp only [Act.put, List.setIfInBounds_toArray, List.set_cons_zero, List.set_cons_succ])
    refine wpAnyH_take (i := 16) (oi := { dst := some 32, op := Op.pick (Operand.tmp 18) (Operand.const (Value.bool true)) (Operand.tmp 31), type := 4, pos := "l05_schema.go:107", after := #[{ on := 2, ground := Ground.data }, { on := 15, ground := Ground.data }], guard := none }) (v := ?_) rfl (by kernel_rfl) (by kernel_rfl) (by kernel_rfl) (fun _ _ _ h => h) (Or.inl ⟨by rfl, ?_⟩) (by assumption) ?_
    rotate_left
    · intro w hSw; (try dsimp only at hSw); go_simp; (try with_reducible rfl)
    (try simp only [Act.put, List.setIfInBounds_toArray, List.set_cons_zero, List.set_cons_succ])
    refine wpAnyH_done (by kernel_rfl) ?_ _
    clear SK
    have b4 := hb3.trans (BD.mono hb3.size)
    clear BD hHeld
    go_wp2
    go_ret
    exact ⟨rfl, b4⟩
  | some c =>
    rw [hM] at hm
    have HE : Hid (checkR X d l = some (namesOk c l && valuesOk c d l)) := Lib.hid (by rw [HR.out, hM])
    have HF1 := Lib.hid (HFC.out c hM)
    clear hM HFC HR
    obtain ⟨v1, v2, v3, rfl, s1, s2, s3⟩ := hm
    obtain ⟨o1, k1, rfl, m1⟩ := s1
    obtain ⟨o2, k2, rfl, m2⟩ := s2
    obtain ⟨o3, k3, rfl, m3⟩ := s3
    have M1 := Lib.hid m1.1; have M2 := Lib.hid m2.1; have M3 := Lib.hid m3.1
    clear m1 m2 m3
    have E3 := E2.out.alloc (.cells #[.string c.nm, .slice o1 c.must.length k1, .slice o2 c.may.length k2, .slice o3 c.one.length k3] 85)
    rcases d with _ | ⟨r, d⟩
    · exact absurd hd0 (Nat.lt_irrefl 0)
    obtain ⟨p, off, rfl, hp, hq⟩ : ∃ p off, ao = some ⟨p, off, none⟩ ∧ p < w.heap.size ∧ (w.cell? ⟨p, off, none⟩ = some (.string r.1) ∧ w.cell? ⟨p, off + 1, none⟩ = some (.string r.2)) := by
      rcases HD.out with h | ⟨b, o, e, hb, hc⟩
      · cases h
      · have h := hc 0 (Nat.succ_pos _)
        rw [Nat.zero_mul, Nat.add_zero] at h
        exact ⟨b, o, e, hb, h⟩
    have z2 : r.2.size ≤ maxLen := by have := (FD.out.2 r (List.mem_cons_self ..)).2; unfold maxLen; omega
    have g1 : (0 : Int) < ((r :: d).length : Int) := by rw [List.length_cons]; omega
    have hq1 := (B2.out.cell (p := ⟨p, off, none⟩) hp).trans hq.1
    have hq2 := (B2.out.cell (p := ⟨p, off + 1, none⟩) hp).trans hq.2
    have hp2 := Nat.lt_of_lt_of_le hp B2.out.size
    go_wp2_with fail
    refine wp_world (fun W => Below w2.heap.size w2 W ∧ Blk W w.heap.size [.slice (some ⟨p, off, none⟩) (r :: d).length ca, .slice bo l.length cb] ∧ Blk W w2.heap.size [.string c.nm, .slice o1 c.must.length k1, .slice o2 c.may.length k2, .slice o3 c.one.length k3]) ⟨more' (Below.refl _ _) _, E3, Blk.new _ _ _⟩ ?_
    rintro W3 ⟨b3, e3, c3⟩
    have E4 := Lib.hid e3; have C4 := Lib.hid c3
    have x1 := (b3.cell (p := ⟨p, off, none⟩) hp2).trans hq1
    have x2 := (b3.cell (p := ⟨p, off + 1, none⟩) hp2).trans hq2
    have hp3 := Nat.lt_of_lt_of_le hp2 b3.size
    have hb3 := B2.out.trans (b3.mono B2.out.size)
    clear e3 c3 b3 E3 hq1 hq2 hq
    have SK : Hid (∀ Z' : World, Below W3.heap.size W3 Z' → Z'.cell? ⟨w.heap.size, 0, none⟩ = some (.slice (some ⟨p, off, none⟩) (r :: d).length ca) ∧ Z'.cell? ⟨w.heap.size, 1, none⟩ = some (.slice bo l.length cb) ∧ Z'.cell? ⟨p, off, none⟩ = some (.string r.1) ∧ Z'.cell? ⟨p, off + 1, none⟩ = some (.string r.2)) := Lib.hid (fun Z' h => ⟨(E4.out.below h).cell 0 rfl, (E4.out.below h).cell 1 rfl, (h.cell (p := ⟨p, off, none⟩) hp3).trans x1, (h.cell (p := ⟨p, off + 1, none⟩) hp3).trans x2⟩)
    have BD : Below W3.heap.size W3 W3.drew := (Below.refl _ _).drew
    refine wp_region_held_drew (S := (fun Z' => Z'.cell? ⟨w.heap.size, 0, none⟩ = some (.slice (some ⟨p, off, none⟩) (r :: d).length ca) ∧ Z'.cell? ⟨w.heap.size, 1, none⟩ = some (.slice bo l.length cb) ∧ Z'.cell? ⟨p, off, none⟩ = some (.string r.1) ∧ Z'.cell? ⟨p, off + 1, none⟩ = some (.string r.2))) (by kernel_rfl) ?_ (fun hHeld => ?_)
    · (try dsimp only)
      first | exact SK.out _ (by assumption) | exact SK.out _ BD | exact SK.out _ (more' (by assumption) _) | exact SK.out _ (more' BD _)
    refine wpAnyH_take (i := 0) (oi := { dst := some 16, op := Op.move (Operand.tmp 6), type := 4, pos := "l05_schema.go:107", after := #[], guard := none }) (v := ?_) rfl (by kernel_rfl) (by kernel_rfl) (by kernel_rfl) (fun _ _ _ h => h) (Or.inl ⟨by rfl, ?_⟩) (by assumption) ?_
    rotate_left
    · intro w hSw; (try dsimp only at hSw); go_simp; (try with_reducible rfl)
    (try simp only [Act.put, List.setIfInBounds_toArray, List.set_cons_zero, List.set_cons_succ])
    refine wpAnyH_take (i := 1) (oi := { dst := some 17, op := Op.unOp UnOp.not 4 (Operand.tmp 16), type := 4, pos := "l05_schema.go:107", after := #[{ on := 0, ground := Ground.data }], guard := none }) (v := ?_) rfl (by kernel_rfl) (by kernel_rfl) (by kernel_rfl) (fun _ _ _ h => h) (Or.inl ⟨by rfl, ?_⟩) (by assumption) ?_
    rotate_left
    · intro w hSw; (try dsimp only at hSw); go_simp; (try with_reducible rfl)
    (try simp only [Act.put, List.setIfInBounds_toArray, List.set_cons_zero, List.set_cons_succ])
    refine wpAnyH_take (i := 2) (oi := { dst := some 18, op := Op.move (Operand.tmp 17), type := 4, pos := "l05_schema.go:107", after := #[{ on := 1, ground := Ground.data }], guard := none }) (v := ?_) rfl (by kernel_rfl) (by kernel_rfl) (by kernel_rfl) (fun _ _ _ h => h) (Or.inl ⟨by rfl, ?_⟩) (by assumption) ?_
    rotate_left
    · intro w hSw; (try dsimp only at hSw); go_simp; (try with_reducible rfl)
    (try simp only [Act.put, List.setIfInBounds_toArray, List.set_cons_zero, List.set_cons_succ])
    refine wpAnyH_take (i := 3) (oi := { dst := some 19, op := Op.load 35 (Operand.tmp 3), type := 35, pos := "l05_schema.go:107", after := #[{ on := 2, ground := Ground.guard }], guard := some (2, false) }) (v := ?_) rfl (by kernel_rfl) (by kernel_rfl) (by kernel_rfl) (fun _ _ _ h => h) (Or.inl ⟨by rfl, ?_⟩) (by assumption) ?_
    rotate_left
    · intro w hSw; (try dsimp only at hSw); go_simp; (try with_reducible rfl)
    (try simp only [Act.put, List.setIfInBounds_toArray, List.set_cons_zero, List.set_cons_succ])
    refine wpAnyH_take (i := 4) (oi := { dst := some 20, op := Op.fieldAddr 35 (Operand.tmp 3) 0, type := 0, pos := "l05_schema.go:107", after := #[{ on := 2, ground := Ground.guard }], guard := some (2, false) }) (v := ?_) rfl (by kernel_rfl) (by kernel_rfl) (by kernel_rfl) (fun _ _ _ h => h) (Or.inl ⟨by rfl, ?_⟩) (by assumption) ?_
    rotate_left
    · intro w hSw; (try dsimp only at hSw); go_simp; (try with_reducible rfl)
    (try simp only [Act.put, List.setIfInBounds_toArray, List.set_cons_zero, List.set_cons_succ])
    refine wpAnyH_take (i := 5) (oi := { dst := some 21, op := Op.load 32 (Operand.tmp 20), type := 32, pos := "l05_schema.go:107", after := #[{ on := 4, ground := Ground.data }, { on := 2, ground := Ground.guard }], guard := some (2, false) }) (v := ?_) rfl (by kernel_rfl) (by kernel_rfl) (by kernel_rfl) (fun _ _ _ h => h) (Or.inl ⟨by rfl, ?_⟩) (by assumption) ?_
    rotate_left
    · intro w hSw; (try dsimp only at hSw); go_simp; (try with_reducible rfl)
    (try simp only [Act.put, List.setIfInBounds_toArray, List.set_cons_zero, List.set_cons_succ])
    refine wpAnyH_take (i := 6) (oi := { dst := some 22, op := Op.indexAddr 32 (Operand.tmp 21) (Operand.const (Value.int IntKind.i64 0)), type := 0, pos := "l05_schema.go:107", after := #[{ on := 5, ground := Ground.data }, { on := 2, ground := Ground.guard }], guard := some (2, false) }) (v := ?_) rfl (by kernel_rfl) (by kernel_rfl) (by kernel_rfl) (fun _ _ _ h => h) (Or.inl ⟨by rfl, ?_⟩) (by assumption) ?_
    rotate_left
    · intro w hSw; (try dsimp only at hSw); go_simp; (try with_reducible rfl)
    (try simp only [Act.put, List.setIfInBounds_toArray, List.set_cons_zero, List.set_cons_succ])
    refine wpAnyH_take (i := 7) (oi := { dst := some 23, op := Op.fieldAddr 108 (Operand.tmp 22) 0, type := 0, pos := "l05_schema.go:107", after := #[{ on := 6, ground := Ground.data }, { on := 2, ground := Ground.guard }], guard := some (2, false) }) (v := ?_) rfl (by kernel_rfl) (by kernel_rfl) (by kernel_rfl) (fun _ _ _ h => h) (Or.inl ⟨by rfl, ?_⟩) (by assumption) ?_
    rotate_left
    · intro w hSw; (try dsimp only at hSw); go_simp; (try with_reducible rfl)
    (try simp only [Act.put, List.setIfInBounds_toArray, List.set_cons_zero, List.set_cons_succ])
    refine wpAnyH_take (i := 8) (oi := { dst := some 24, op := Op.load 9 (Operand.tmp 23), type := 9, pos := "l05_schema.go:107", after := #[{ on := 7, ground := Ground.data }, { on := 2, ground := Ground.guard }], guard := some (2, false) }) (v := ?_) rfl (by kernel_rfl) (by kernel_rfl) (by kernel_rfl) (fun _ _ _ h => h) (Or.inl ⟨by rfl, ?_⟩) (by assumption) ?_
    rotate_left
    · intro w hSw; (try dsimp only at hSw); go_simp; (try with_reducible rfl)
    (try simp only [Act.put, List.setIfInBounds_toArray, List.set_cons_zero, List.set_cons_succ])
    refine wpAnyH_take (i := 9) (oi := { dst := some 25, op := Op.fieldAddr 35 (Operand.tmp 3) 0, type := 0, pos := "l05_schema.go:107", after := #[{ on := 2, ground := Ground.guard }], guard := some (2, false) }) (v := ?_) rfl (by kernel_rfl) (by kernel_rfl) (by kernel_rfl) (fun _ _ _ h => h) (Or.inl ⟨by rfl, ?_⟩) (by assumption) ?_
    rotate_left
    · intro w hSw; (try dsimp only at hSw); go_simp; (try with_reducible rfl)
    (try simp only [Act.put, List.setIfInBounds_toArray, List.set_cons_zero, List.set_cons_succ])
    refine wpAnyH_take (i := 10) (oi := { dst := some 26, op := Op.load 32 (Operand.tmp 25), type := 32, pos := "l05_schema.go:107", after := #[{ on := 9, ground := Ground.data }, { on := 2, ground := Ground.guard }], guard := some (2, false) }) (v := ?_) rfl (by kernel_rfl) (by kernel_rfl) (by kernel_rfl) (fun _ _ _ h => h) (Or.inl ⟨by rfl, ?_⟩) (by assumption) ?_
    rotate_left
    · intro w hSw; (try dsimp only at hSw); go_simp; (try with_reducible rfl)
    (try simp only [Act.put, List.setIfInBounds_toArray, List.set_cons_zero, List.set_cons_succ])
    refine wpAnyH_take (i := 11) (oi := { dst := some 27, op := Op.indexAddr 32 (Operand.tmp 26) (Operand.const (Value.int IntKind.i64 0)), type := 0, pos := "l05_schema.go:107", after := #[{ on := 10, ground := Ground.data }, { on := 2, ground := Ground.guard }], guard := some (2, false) }) (v := ?_) rfl (by kernel_rfl) (by kernel_rfl) (by kernel_rfl) (fun _ _ _ h => h) (Or.inl ⟨by rfl, ?_⟩) (by assumption) ?_
    rotate_left
    · intro w hSw; (try dsimp only at hSw); go_simp; (try with_reducible rfl)
    (try simp only [Act.put, List.setIfInBounds_toArray, List.set_cons_zero, List.set_cons_succ])
    refine wpAnyH_take (i := 12) (oi := { dst := some 28, op := Op.fieldAddr 108 (Operand.tmp 27) 1, type := 0, pos := "l05_schema.go:107", after := #[{ on := 11, ground := Ground.data }, { on := 2, ground := Ground.guard }], guard := some (2, false) }) (v := ?_) rfl (by kernel_rfl) (by kernel_rfl) (by kernel_rfl) (fun _ _ _ h => h) (Or.inl ⟨by rfl, ?_⟩) (by assumption) ?_
    rotate_left
    · intro w hSw; (try dsimp only at hSw); go_simp; (try with_reducible rfl)
    (try simp only [Act.put, List.setIfInBounds_toArray, List.set_cons_zero, List.set_cons_succ])
    refine wpAnyH_take (i := 13) (oi := { dst := some 29, op := Op.load 9 (Operand.tmp 28), type := 9, pos := "l05_schema.go:107", after := #[{ on := 12, ground := Ground.data }, { on := 2, ground := Ground.guard }], guard := some (2, false) }) (v := ?_) rfl (by kernel_rfl) (by kernel_rfl) (by kernel_rfl) (fun _ _ _ h => h) (Or.inl ⟨by rfl, ?_⟩) (by assumption) ?_
    rotate_left
    · intro w hSw; (try dsimp only at hSw); go_simp; (try with_reducible rfl)
    (try simp only [Act.put, List.setIfInBounds_toArray, List.set_cons_zero, List.set_cons_succ])
    refine wpAnyH_ready (rs := [14]) (by kernel_rfl) (by simp) ?_
    refine AllReadyH.cons (o := { dst := some 30, op := Op.call { callee := Callee.value (Operand.func 106), args := #[Operand.tmp 19, Operand.tmp 24, Operand.tmp 29], argTypes := #[35, 9, 9] }, type := 4, pos := "l05_schema.go:107", after := #[{ on := 3, ground := Ground.data }, { on := 8, ground := Ground.data }, { on := 13, ground := Ground.data }, { on := 2, ground := Ground.chain }, { on := 2, ground := Ground.guard }], guard := some (2, false) }) rfl (fun K hK => ?_) (AllReadyH.nil)
    go_simp
    refine (CH.out _ r.1 r.2 (hb3.trans (BD.mono hb3.size)) z2).mono ?_
    rintro e w5 ⟨rfl, hb⟩
    have D5 : Below W3.heap.size W3 w5 := BD.trans (hb.mono BD.size)
    clear hb
    clear hHeld
    refine hK.out _ _ ?_ (fun hHeld => ?_)
    · (try dsimp only)
      first | exact SK.out _ (by assumption) | exact SK.out _ BD | exact SK.out _ (more' (by assumption) _) | exact SK.out _ (more' BD _)
    clear hK K
    (try simp only [Act.put, List.setIfInBounds_toArray, List.set_cons_zero, List.set_cons_succ])
    refine wpAnyH_take (i := 15) (oi := { dst := some 31, op := Op.unOp UnOp.not 4 (Operand.tmp 30), type := 4, pos := "l05_schema.go:107", after := #[{ on := 14, ground := Ground.data }, { on := 2, ground := Ground.guard }], guard := some (2, false) }) (v := ?_) rfl (by kernel_rfl) (by kernel_rfl) (by kernel_rfl) (fun _ _ _ h => h) (Or.inl ⟨by rfl, ?_⟩) (by assumption) ?_
    rotate_left
    · intro w hSw; (try dsimp only at hSw); go_simp; (try with_reducible rfl)
    (try simp only [Act.put, List.setIfInBounds_toArray, List.set_cons_zero, List.set_cons_succ])
    refine wpAnyH_take (i := 16) (oi := { dst := some 32, op := Op.pick (Operand.tmp 18) (Operand.const (Value.bool true)) (Operand.tmp 31), type := 4, pos := "l05_schema.go:107", after := #[{ on := 2, ground := Ground.data }, { on := 15, ground := Ground.data }], guard := none }) (v := ?_) rfl (by kernel_rfl) (by kernel_rfl) (by kernel_rfl) (fun _ _ _ h => h) (Or.inl ⟨by rfl, ?_⟩) (by assumption) ?_
    rotate_left
    · intro w hSw; (try dsimp only at hSw); go_simp; (try with_reducible rfl)
    (try simp only [Act.put, List.setIfInBounds_toArray, List.set_cons_zero, List.set_cons_succ])
    refine wpAnyH_done (by kernel_rfl) ?_ _
    clear SK
    have b5 := hb3.trans (D5.mono hb3.size)
    have E5 := Lib.hid (E4.out.below D5); have C5 := Lib.hid (C4.out.below D5)
    clear BD hHeld D5 x1 x2 E4 C4
    have HH : Hid (valuesOk c (r :: d) l = (l.all (oneB c) && hasB (r :: d) l r.1 r.2)) := Lib.hid rfl
    generalize hasB (r :: d) l r.1 r.2 = q at *
    cases q
    · have HN : Hid (¬ checkR X (r :: d) l = some true) := Lib.hid (by rw [HE.out, HH.out]; simp)
      go_wp2
      go_ret
      exact ⟨rfl, b5⟩
    simp only [Bool.not_true]
    have hMl := HF1.out.must.1
    have hLl := FL.out.1
    have hb5 := b5.size
    go_wp2_with fail
    go_loopw [7] (fun i wr => ∃ k : Nat, k ≤ c.must.length ∧ i = .int .i64 (k : Int) ∧ besideV (c.must.take k) (namesA l) = [] ∧ Below w.heap.size w wr ∧ Blk wr w.heap.size [.slice (some ⟨p, off, none⟩) (r :: d).length ca, .slice bo l.length cb] ∧ Blk wr w2.heap.size [.string c.nm, .slice o1 c.must.length k1, .slice o2 c.may.length k2, .slice o3 c.one.length k3]) (fun i _ => c.must.length - (intOf i).toNat)
    case atStart => exact ⟨0, Nat.zero_le _, rfl, rfl, b5, E5.out, C5.out⟩
    case round =>
      obtain ⟨k, hk, rfl, hbs, hbel, hbe, hbc⟩ := hrel
      have HBE := Lib.hid hbe; have HBC := Lib.hid hbc; have HBS := Lib.hid hbs
      clear hbe hbc hbs
      have cz1 := HBC.out.cell 1 rfl
      by_cases hlt : k < c.must.length
      · have HN := Lib.hid (besideA_succ c.must l k hlt)
        have HX : Hid (atI l c.must[k] < 0 → namesOk c l = false) := Lib.hid (fun h => by
          have h1 : besideV (c.must.take (k + 1)) (namesA l) ≠ [] := by rw [HN.out, if_pos h]; simp
          have h2 : besideV c.must (namesA l) ≠ [] := fun h0 => by
            apply h1
            have h3 : besideV c.must (namesA l) = besideV (c.must.take (k + 1)) (namesA l) ++ besideV (c.must.drop (k + 1)) (namesA l) := by unfold besideV; rw [← List.filter_append, List.take_append_drop]
            rw [h3] at h0
            exact (List.append_eq_nil_iff.1 h0).1
          unfold namesOk
          cases hB : besideV c.must (namesA l) with
          | nil => exact absurd hB h2
          | cons a t => rfl)
        obtain ⟨pm, om, rfl, hpm, hcm⟩ : ∃ pm om, o1 = some ⟨pm, om, none⟩ ∧ pm < w.heap.size ∧ w.cell? ⟨pm, om + k, none⟩ = some (.string c.must[k]) := by
          rcases M1.out with h | ⟨b, o, e, hb, hc⟩
          · rw [h] at hlt; simp at hlt
          · exact ⟨b, o, e, hb, hc k hlt⟩
        have HCX := Lib.hid ((hbel.cell (p := ⟨pm, om + k, none⟩) hpm).trans hcm)
        have hp1 := Nat.lt_of_lt_of_le hpm hbel.size
        clear hcm
        have g2 : (0 : Int) ≤ (k : Int) := by omega
        have g3 : (k : Int) < (c.must.length : Int) := by omega
        generalize c.must[k] = x at *
        go_wp2_with fail
        have SK : Hid (∀ Z' : World, Below wr.heap.size wr Z' → Z'.cell? ⟨w.heap.size, 0, none⟩ = some (.slice (some ⟨p, off, none⟩) (r :: d).length ca) ∧ Z'.cell? ⟨w.heap.size, 1, none⟩ = some (.slice bo l.length cb) ∧ Z'.cell? ⟨w2.heap.size, 1, none⟩ = some (.slice (some ⟨pm, om, none⟩) c.must.length k1) ∧ Z'.cell? ⟨pm, om + k, none⟩ = some (.string x)) := Lib.hid (fun Z' h => ⟨(HBE.out.below h).cell 0 rfl, (HBE.out.below h).cell 1 rfl, (HBC.out.below h).cell 1 rfl, (h.cell (p := ⟨pm, om + k, none⟩) hp1).trans HCX.out⟩)
        have BD : Below wr.heap.size wr wr.drew := (Below.refl _ _).drew
        refine wp_region_held_drew (S := (fun Z' => Z'.cell? ⟨w.heap.size, 0, none⟩ = some (.slice (some ⟨p, off, none⟩) (r :: d).length ca) ∧ Z'.cell? ⟨w.heap.size, 1, none⟩ = some (.slice bo l.length cb) ∧ Z'.cell? ⟨w2.heap.size, 1, none⟩ = some (.slice (some ⟨pm, om, none⟩) c.must.length k1) ∧ Z'.cell? ⟨pm, om + k, none⟩ = some (.string x))) (by kernel_rfl) ?_ (fun hHeld => ?_)
        · (try dsimp only)
          first | exact SK.out _ (by assumption) | exact SK.out _ BD | exact SK.out _ (more' (by assumption) _) | exact SK.out _ (more' BD _)
        refine wpAnyH_take (i := 0) (oi := { dst := some 40, op := Op.load 35 (Operand.tmp 3), type := 35, pos := "l05_schema.go:111", after := #[], guard := none }) (v := ?_) rfl (by kernel_rfl) (by kernel_rfl) (by kernel_rfl) (fun _ _ _ h => h) (Or.inl ⟨by rfl, ?_⟩) (by assumption) ?_
        rotate_left
        · intro w hSw; (try dsimp only at hSw); go_simp; (try with_reducible rfl)
        (try simp only [Act.put, List.setIfInBounds_toArray, List.set_cons_zero, List.set_cons_succ])
        refine wpAnyH_take (i := 1) (oi := { dst := some 41, op := Op.fieldAddr 85 (Operand.tmp 5) 1, type := 0, pos := "l05_schema.go:111", after := #[], guard := none }) (v := ?_) rfl (by kernel_rfl) (by kernel_rfl) (by kernel_rfl) (fun _ _ _ h => h) (Or.inl ⟨by rfl, ?_⟩) (by assumption) ?_
        rotate_left
        · intro w hSw; (try dsimp only at hSw); go_simp; (try with_reducible rfl)
        (try simp only [Act.put, List.setIfInBounds_toArray, List.set_cons_zero, List.set_cons_succ])
        refine wpAnyH_take (i := 2) (oi := { dst := some 42, op := Op.load 79 (Operand.tmp 41), type := 79, pos := "l05_schema.go:111", after := #[{ on := 1, ground := Ground.data }], guard := none }) (v := ?_) rfl (by kernel_rfl) (by kernel_rfl) (by kernel_rfl) (fun _ _ _ h => h) (Or.inl ⟨by rfl, ?_⟩) (by assumption) ?_
        rotate_left
        · intro w hSw; (try dsimp only at hSw); go_simp; (try with_reducible rfl)
        (try simp only [Act.put, List.setIfInBounds_toArray, List.set_cons_zero, List.set_cons_succ])
        refine wpAnyH_take (i := 3) (oi := { dst := some 43, op := Op.move (Operand.tmp 7), type := 3, pos := "l05_schema.go:111", after := #[], guard := none }) (v := ?_) rfl (by kernel_rfl) (by kernel_rfl) (by kernel_rfl) (fun _ _ _ h => h) (Or.inl ⟨by rfl, ?_⟩) (by assumption) ?_
        rotate_left
        · intro w hSw; (try dsimp only at hSw); go_simp; (try with_reducible rfl)
        (try simp only [Act.put, List.setIfInBounds_toArray, List.set_cons_zero, List.set_cons_succ])
        refine wpAnyH_take (i := 4) (oi := { dst := some 44, op := Op.indexAddr 79 (Operand.tmp 42) (Operand.tmp 43), type := 0, pos := "l05_schema.go:111", after := #[{ on := 2, ground := Ground.data }, { on := 3, ground := Ground.data }], guard := none }) (v := ?_) rfl (by kernel_rfl) (by kernel_rfl) (by kernel_rfl) (fun _ _ _ h => h) (Or.inl ⟨by rfl, ?_⟩) (by assumption) ?_
        rotate_left
        · intro w hSw; (try dsimp only at hSw); go_simp; (try with_reducible rfl)
        (try simp only [Act.put, List.setIfInBounds_toArray, List.set_cons_zero, List.set_cons_succ])
        refine wpAnyH_take (i := 5) (oi := { dst := some 45, op := Op.load 9 (Operand.tmp 44), type := 9, pos := "l05_schema.go:111", after := #[{ on := 4, ground := Ground.data }], guard := none }) (v := ?_) rfl (by kernel_rfl) (by kernel_rfl) (by kernel_rfl) (fun _ _ _ h => h) (Or.inl ⟨by rfl, ?_⟩) (by assumption) ?_
        rotate_left
        · intro w hSw; (try dsimp only at hSw); go_simp; (try with_reducible rfl)
        (try simp only [Act.put, List.setIfInBounds_toArray, List.set_cons_zero, List.set_cons_succ])
        refine wpAnyH_ready (rs := [6]) (by kernel_rfl) (by simp) ?_
        refine AllReadyH.cons (o := { dst := some 46, op := Op.call { callee := Callee.value (Operand.func 107), args := #[Operand.tmp 40, Operand.tmp 45], argTypes := #[35, 9] }, type := 3, pos := "l05_schema.go:111", after := #[{ on := 0, ground := Ground.data }, { on := 5, ground := Ground.data }], guard := none }) rfl (fun K hK => ?_) (AllReadyH.nil)
        go_simp
        refine (CA.out _ x (hbel.trans (BD.mono hbel.size))).mono ?_
        rintro e w6 ⟨rfl, hb⟩
        have D6 : Below wr.heap.size wr w6 := BD.trans (hb.mono BD.size)
        clear hb
        clear hHeld
        refine hK.out _ _ ?_ (fun hHeld => ?_)
        · (try dsimp only)
          first | exact SK.out _ (by assumption) | exact SK.out _ BD | exact SK.out _ (more' (by assumption) _) | exact SK.out _ (more' BD _)
        clear hK K
        (try simp only [Act.put, List.setIfInBounds_toArray, List.set_cons_zero, List.set_cons_succ])
        refine wpAnyH_take (i := 7) (oi := { dst := some 47, op := Op.binOp BinOp.lss 3 (Operand.tmp 46) (Operand.const (Value.int IntKind.i64 0)) 3, type := 4, pos := "l05_schema.go:111", after := #[{ on := 6, ground := Ground.data }], guard := none }) (v := ?_) rfl (by kernel_rfl) (by kernel_rfl) (by kernel_rfl) (fun _ _ _ h => h) (Or.inl ⟨by rfl, ?_⟩) (by assumption) ?_
        rotate_left
        · intro w hSw; (try dsimp only at hSw); go_simp; (try with_reducible rfl)
        (try simp only [Act.put, List.setIfInBounds_toArray, List.set_cons_zero, List.set_cons_succ])
        refine wpAnyH_done (by kernel_rfl) ?_ _
        clear SK
        have b6 := hbel.trans (D6.mono hbel.size)
        have E6 := Lib.hid (HBE.out.below D6); have C6 := Lib.hid (HBC.out.below D6)
        clear BD hHeld D6 HBE HBC HCX cz1
        by_cases hneg : atI l x < 0
        · have HN2 : Hid (¬ checkR X (r :: d) l = some true) := Lib.hid (by rw [HE.out, HX.out hneg]; simp)
          generalize atI l x = q at *
          go_wp2
          go_ret
          exact ⟨rfl, b6⟩
        · have HN2 : Hid (besideV (c.must.take (k + 1)) (namesA l) = []) := Lib.hid (by rw [HN.out, if_neg hneg, HBS.out]; rfl)
          generalize atI l x = q at *
          go_wp2
          go_roundw
          case rel => exact ⟨k + 1, by omega, by go_num, HN2.out, b6, E6.out, C6.out⟩
          case measure => simp [intOf]; omega
      · obtain rfl : k = c.must.length := by omega
        have HB0 : Hid (besideV c.must (namesA l) = []) := Lib.hid (by have h := HBS.out; rw [List.take_length] at h; exact h)
        clear HBS CA
        have HS2 : Hid (namesOk c l = (strayV c l).isEmpty) := Lib.hid (by unfold namesOk; rw [HB0.out]; rfl)
        obtain ⟨wo, hwo⟩ : ∃ x, x = wr := ⟨_, rfl⟩
        subst hwo
        go_wp2_with fail
        go_loopw [8] (fun i wq => ∃ j : Nat, j ≤ l.length ∧ i = .int .i64 (j : Int) ∧ AllOk c l j ∧ Below w.heap.size w wq ∧ Blk wq w.heap.size [.slice (some ⟨p, off, none⟩) (r :: d).length ca, .slice bo l.length cb] ∧ Blk wq w2.heap.size [.string c.nm, .slice o1 c.must.length k1, .slice o2 c.may.length k2, .slice o3 c.one.length k3]) (fun i _ => l.length - (intOf i).toNat)
        case atStart => exact ⟨0, Nat.zero_le _, rfl, AllOk.zero _ _, hbel, HBE.out, HBC.out⟩
        case round =>
          obtain ⟨j, hj, rfl, hall, hb, hbe2, hbc2⟩ := hrel
          have HA2 := Lib.hid hall; have HF2 := Lib.hid hbe2; have HC2 := Lib.hid hbc2
          clear hall hbe2 hbc2 hbel HBE HBC
          have ce1 := HF2.out.cell 1 rfl
          by_cases hlt2 : j < l.length
          · obtain ⟨pa, oa, vo, vc, rfl, hpa, hd1, hd2, hv⟩ := HL.out.at hlt2
            have a1 := (hb.cell (p := ⟨pa, oa + j * 2, none⟩) hpa).trans hd1
            have a2 := (hb.cell (p := ⟨pa, oa + j * 2 + 1, none⟩) hpa).trans hd2
            have HOY : Hid (ok2B c l[j] = true → AllOk c l (j + 1)) := Lib.hid (fun h => allV_take hlt2 HA2.out h)
            have HON : Hid (ok2B c l[j] = false → ¬ checkR X (r :: d) l = some true) := Lib.hid (fun h hc => by
              have h2 := allV_not hlt2 h
              rw [ok2_all] at h2
              rw [HE.out, HS2.out, HH.out] at hc
              have h3 := Option.some.inj hc
              rw [Bool.and_true, h2] at h3
              cases h3)
            have HDf : Hid (ok2B c l[j] = !((!(decide (l[j].1 = clsT)) && (!hasS c.must l[j].1 && !hasS c.may l[j].1)) || (decide (1 < l[j].2.length) && hasS c.one l[j].1))) := Lib.hid rfl
            have g2 : (0 : Int) ≤ (j : Int) := by omega
            have g3 : (j : Int) < (l.length : Int) := by omega
            clear hd1 hd2 hv HA2
            generalize ok2B c l[j] = rr at *
            generalize l[j].1 = A at *
            generalize l[j].2 = V at *
            have HBC3 := HC2.out.alloc (.cells #[.string A, .slice vo V.length vc] 141)
            have n1 := HBC3.cell 1 rfl; have n2 := HBC3.cell 2 rfl; have n3 := HBC3.cell 3 rfl
            have CT1 : Hid (Calls Tryz.prog 108 #[.slice o1 c.must.length k1, .string A] (wr.alloc (.cells #[.string A, .slice vo V.length vc] 141)) fun e w' => e = .returned (.bool (hasS c.must A)) ∧ w' = (wr.alloc (.cells #[.string A, .slice vo V.length vc] 141))) := Lib.hid (l04Has_any _ _ _ A _ (M1.out.below (more' hb _)) (by have := HF1.out.must.1; omega))
            have CT2 : Hid (Calls Tryz.prog 108 #[.slice o2 c.may.length k2, .string A] (wr.alloc (.cells #[.string A, .slice vo V.length vc] 141)) fun e w' => e = .returned (.bool (hasS c.may A)) ∧ w' = (wr.alloc (.cells #[.string A, .slice vo V.length vc] 141))) := Lib.hid (l04Has_any _ _ _ A _ (M2.out.below (more' hb _)) (by have := HF1.out.may.1; omega))
            have CT3 : Hid (Calls Tryz.prog 108 #[.slice o3 c.one.length k3, .string A] (wr.alloc (.cells #[.string A, .slice vo V.length vc] 141)) fun e w' => e = .returned (.bool (hasS c.one A)) ∧ w' = (wr.alloc (.cells #[.string A, .slice vo V.length vc] 141))) := Lib.hid (l04Has_any _ _ _ A _ (M3.out.below (more' hb _)) (by have := HF1.out.one.1; omega))
            have HT0 : Hid (A.toList = [99, 108, 97, 115, 115] ↔ decide (A = clsT) = true) := Lib.hid (by
              have hl : clsT.toList = [99, 108, 97, 115, 115] := by first | rfl | decide | simp [go_sem, clsT]
              rw [← name_eq A clsT, hl, beq_iff_eq])
            have hlen : decide ((1 : Int) < (V.length : Int)) = decide (1 < V.length) := by rw [decide_eq_decide]; omega
            have HW := Lib.hid (more' hb (.cells #[.string A, .slice vo V.length vc] 141))
            have HF3 := Lib.hid (HF2.out.alloc (.cells #[.string A, .slice vo V.length vc] 141))
            have HC3 := Lib.hid HBC3
            clear HBC3
            clear HE HH HS2 HB0 HL HD FD FL HF1 M1 M2 M3 hMl
            generalize decide (A = clsT) = b0 at *
            generalize hasS c.must A = b1 at *
            generalize hasS c.may A = b2 at *
            generalize hasS c.one A = b4 at *
            cases b0
            rotate_left
            · have hA := HT0.out.2 rfl
              clear HT0
              by_cases hbig : 1 < V.length
              · have hbig' : (1 : Int) < (V.length : Int) := by omega
                cases b4
                · have HDg : Hid (rr = true) := Lib.hid (by rw [HDf.out]; simp [hbig])
                  clear HDf hlen hbig
                  go_wp2_with (first
                    | (go_at_call 108; (with_reducible first | refine CT1.out.mono ?_ | refine CT2.out.mono ?_ | refine CT3.out.mono ?_); rintro e w1 ⟨rfl, rfl⟩)
                    | (fail "none"))
                  go_roundw
                  case rel => exact ⟨j + 1, by omega, by go_num, HOY.out HDg.out, HW.out, HF3.out, HC3.out⟩
                  case measure => simp [intOf]; omega
                · have HDg : Hid (rr = false) := Lib.hid (by rw [HDf.out]; simp [hbig])
                  have HN2 := Lib.hid (HON.out HDg.out)
                  clear HDf hlen hbig
                  go_wp2_with (first
                    | (go_at_call 108; (with_reducible first | refine CT1.out.mono ?_ | refine CT2.out.mono ?_ | refine CT3.out.mono ?_); rintro e w1 ⟨rfl, rfl⟩)
                    | (fail "none"))
                  go_ret
                  exact ⟨rfl, HW.out⟩
              · have hbig' : ¬ (1 : Int) < (V.length : Int) := by omega
                have HDg : Hid (rr = true) := Lib.hid (by rw [HDf.out]; simp [hbig])
                clear HDf hlen hbig
                go_wp2_with (first
                  | (go_at_call 108; (with_reducible first | refine CT1.out.mono ?_ | refine CT2.out.mono ?_ | refine CT3.out.mono ?_); rintro e w1 ⟨rfl, rfl⟩)
                  | (fail "none"))
                go_roundw
                case rel => exact ⟨j + 1, by omega, by go_num, HOY.out HDg.out, HW.out, HF3.out, HC3.out⟩
                case measure => simp [intOf]; omega
            have hA : ¬ A.toList = [99, 108, 97, 115, 115] := fun h => Bool.noConfusion (HT0.out.1 h)
            clear HT0
            cases b1
            rotate_left
            · skip
              by_cases hbig : 1 < V.length
              · have hbig' : (1 : Int) < (V.length : Int) := by omega
                cases b4
                · have HDg : Hid (rr = true) := Lib.hid (by rw [HDf.out]; simp [hbig])
                  clear HDf hlen hbig
                  go_wp2_with (first
                    | (go_at_call 108; (with_reducible first | refine CT1.out.mono ?_ | refine CT2.out.mono ?_ | refine CT3.out.mono ?_); rintro e w1 ⟨rfl, rfl⟩)
                    | (fail "none"))
                  go_roundw
                  case rel => exact ⟨j + 1, by omega, by go_num, HOY.out HDg.out, HW.out, HF3.out, HC3.out⟩
                  case measure => simp [intOf]; omega
                · have HDg : Hid (rr = false) := Lib.hid (by rw [HDf.out]; simp [hbig])
                  have HN2 := Lib.hid (HON.out HDg.out)
                  clear HDf hlen hbig
                  go_wp2_with (first
                    | (go_at_call 108; (with_reducible first | refine CT1.out.mono ?_ | refine CT2.out.mono ?_ | refine CT3.out.mono ?_); rintro e w1 ⟨rfl, rfl⟩)
                    | (fail "none"))
                  go_ret
                  exact ⟨rfl, HW.out⟩
              · have hbig' : ¬ (1 : Int) < (V.length : Int) := by omega
                have HDg : Hid (rr = true) := Lib.hid (by rw [HDf.out]; simp [hbig])
                clear HDf hlen hbig
                go_wp2_with (first
                  | (go_at_call 108; (with_reducible first | refine CT1.out.mono ?_ | refine CT2.out.mono ?_ | refine CT3.out.mono ?_); rintro e w1 ⟨rfl, rfl⟩)
                  | (fail "none"))
                go_roundw
                case rel => exact ⟨j + 1, by omega, by go_num, HOY.out HDg.out, HW.out, HF3.out, HC3.out⟩
                case measure => simp [intOf]; omega
            cases b2
            rotate_left
            · skip
              by_cases hbig : 1 < V.length
              · have hbig' : (1 : Int) < (V.length : Int) := by omega
                cases b4
                · have HDg : Hid (rr = true) := Lib.hid (by rw [HDf.out]; simp [hbig])
                  clear HDf hlen hbig
                  go_wp2_with (first
                    | (go_at_call 108; (with_reducible first | refine CT1.out.mono ?_ | refine CT2.out.mono ?_ | refine CT3.out.mono ?_); rintro e w1 ⟨rfl, rfl⟩)
                    | (fail "none"))
                  go_roundw
                  case rel => exact ⟨j + 1, by omega, by go_num, HOY.out HDg.out, HW.out, HF3.out, HC3.out⟩
                  case measure => simp [intOf]; omega
                · have HDg : Hid (rr = false) := Lib.hid (by rw [HDf.out]; simp [hbig])
                  have HN2 := Lib.hid (HON.out HDg.out)
                  clear HDf hlen hbig
                  go_wp2_with (first
                    | (go_at_call 108; (with_reducible first | refine CT1.out.mono ?_ | refine CT2.out.mono ?_ | refine CT3.out.mono ?_); rintro e w1 ⟨rfl, rfl⟩)
                    | (fail "none"))
                  go_ret
                  exact ⟨rfl, HW.out⟩
              · have hbig' : ¬ (1 : Int) < (V.length : Int) := by omega
                have HDg : Hid (rr = true) := Lib.hid (by rw [HDf.out]; simp [hbig])
                clear HDf hlen hbig
                go_wp2_with (first
                  | (go_at_call 108; (with_reducible first | refine CT1.out.mono ?_ | refine CT2.out.mono ?_ | refine CT3.out.mono ?_); rintro e w1 ⟨rfl, rfl⟩)
                  | (fail "none"))
                go_roundw
                case rel => exact ⟨j + 1, by omega, by go_num, HOY.out HDg.out, HW.out, HF3.out, HC3.out⟩
                case measure => simp [intOf]; omega
            have HDg : Hid (rr = false) := Lib.hid (by rw [HDf.out]; rfl)
            have HN2 := Lib.hid (HON.out HDg.out)
            clear HDf hlen
            go_wp2_with (first
              | (go_at_call 108; (with_reducible first | refine CT1.out.mono ?_ | refine CT2.out.mono ?_ | refine CT3.out.mono ?_); rintro e w1 ⟨rfl, rfl⟩)
              | (fail "none"))
            go_ret
            exact ⟨rfl, HW.out⟩
          · obtain rfl : j = l.length := by omega
            have hall : (l.take l.length).all (ok2B c) = true := HA2.out
            rw [List.take_length, ok2_all] at hall
            have HK : Hid (checkR X (r :: d) l = some true) := Lib.hid (by rw [HE.out, HS2.out, HH.out, Bool.and_true, hall])
            clear hall
            go_wp2_with fail
            go_ret
            exact ⟨rfl, hb⟩
end Go.Proofs.YtohcdpoffpnfhaaGreatDoor
/- errors.Is by its contracts: a sentinel, nil, and a violation whose Unwrap gives a sentinel. -/
namespace Go.Proofs.YtohcdpoffpnfhaaGreatDoor
open Go.RowKit Go.Extern.Stop Go.Stop Go.Extern
set_option linter.unusedVariables false

theorem Tryz.isTypeOf (v : Value) (w : World) : (Extern.ReflectliteType.typeOf #[.iface 270 v]).run Tryz.prog w = .ok (.iface 191 (.agg #[.pointer (some ⟨3, 270, none⟩)])) w := by kernel_rfl
theorem Tryz.isComp : (Tryz.prog.info? 270).map (·.comparable) = some true := by kernel_rfl
theorem Tryz.isSize : (Tryz.prog.info? 295).map (·.size) = some 1 := by kernel_rfl
theorem Tryz.noIsE (v : Value) (xT : TypeId) (w : World) : (Instr.typeAssert (.iface 270 v) xT 193 true).run Tryz.prog w = .ok (.tuple #[.nilIface, .bool false]) w := run_typeAssert_lacksB Tryz.underlying193 (by kernel_rfl) (by kernel_rfl) v xT w
theorem Tryz.noUnwrapE (v : Value) (xT : TypeId) (w : World) : (Instr.typeAssert (.iface 270 v) xT 196 true).run Tryz.prog w = .ok (.tuple #[.nilIface, .bool false]) w := run_typeAssert_lacksB Tryz.underlying196 (by kernel_rfl) (by kernel_rfl) v xT w
theorem Tryz.noUnwrapsE (v : Value) (xT : TypeId) (w : World) : (Instr.typeAssert (.iface 270 v) xT 198 true).run Tryz.prog w = .ok (.tuple #[.nilIface, .bool false]) w := run_typeAssert_lacksB Tryz.underlying198 (by kernel_rfl) (by kernel_rfl) v xT w
theorem Tryz.noIsV (v : Value) (xT : TypeId) (w : World) : (Instr.typeAssert (.iface 183 v) xT 193 true).run Tryz.prog w = .ok (.tuple #[.nilIface, .bool false]) w := run_typeAssert_lacksB Tryz.underlying193 (by kernel_rfl) (by kernel_rfl) v xT w
theorem Tryz.hasUnwrapV (v : Value) (xT : TypeId) (w : World) : (Instr.typeAssert (.iface 183 v) xT 196 true).run Tryz.prog w = .ok (.tuple #[.iface 183 v, .bool true]) w := run_typeAssert_hasB Tryz.underlying196 (by kernel_rfl) v xT w

theorem Tryz.callComparable (w : World) : (callFunc 283 #[.agg #[.pointer (some ⟨3, 270, none⟩)]]).run Tryz.prog w = .ok (.value (.bool true)) w := by
  have h32 := @run_callFunc_extern Tryz.prog 283 _ (Extern.ReflectliteType.method fun t => do Extern.Rtype.noPackHeld "Comparable" t; pure (.bool (← typeInfo t).comparable)) Tryz.func283 (by kernel_rfl) (by kernel_rfl) (by kernel_rfl) (by kernel_rfl)
  have hv : ((Extern.ReflectliteType.method fun t => do Extern.Rtype.noPackHeld "Comparable" t; pure (.bool (← typeInfo t).comparable)) #[.agg #[.pointer (some ⟨3, 270, none⟩)]]).run Tryz.prog w = .ok (.bool true) w := by kernel_rfl
  rw [h32, hv]
  rfl
theorem Tryz.isMethodComparable (v : Value) (w : World) : (Go.method 407 191 v "Comparable").run Tryz.prog w = .ok (283, v) w := by kernel_rfl
theorem Tryz.methodUnwrapV (v : Value) (w : World) : (Go.method 407 183 v "Unwrap").run Tryz.prog w = .ok (279, v) w := by kernel_rfl
set_option maxRecDepth 100000 in
theorem is_same (a : Addr) (w : World) :
    Calls Tryz.prog 54 #[.iface 270 (.pointer (some a)), .iface 270 (.pointer (some a))] w fun e w' => e = .returned (.bool true) ∧ w' = w := by
  obtain ⟨i, hi, hcmp⟩ := Option.map_eq_some_iff.1 Tryz.isComp
  obtain ⟨j, hj, hjs⟩ := Option.map_eq_some_iff.1 Tryz.isSize
  have h8 := @run_callFunc_extern Tryz.prog 114 _ Extern.ReflectliteType.typeOf Tryz.func114 (by kernel_rfl) (by kernel_rfl) (by kernel_rfl) (by kernel_rfl)
  have tT := Tryz.isTypeOf
  have cT := Tryz.callComparable
  have mR := Tryz.isMethodComparable
  have heq := run_eql_iface_ptr_same (P := Tryz.prog) w a Tryz.underlying89 Tryz.underlying270 hi hcmp hj
  go_enter Tryz.func54, Tryz.ntmps54
  go_wp2
  refine wp_loop_rounds 1 ?_
  rw [rounds_succ]
  go_wp2
  go_ret
  exact ⟨rfl, rfl⟩
set_option maxRecDepth 100000 in
theorem is_nil (b : Addr) (w : World) :
    Calls Tryz.prog 54 #[.nilIface, .iface 270 (.pointer (some b))] w fun e w' => e = .returned (.bool false) ∧ w' = w := by
  have hn := run_eql_iface_nil_left (P := Tryz.prog) w 270 (.pointer (some b)) Tryz.underlying89
  go_enter Tryz.func54, Tryz.ntmps54
  go_wp2
  go_ret
  exact ⟨rfl, rfl⟩
set_option maxRecDepth 100000 in
theorem is_viol_same (t1 t2 : ByteArray) (b : Addr) (w : World) (h1 : w.cell? ⟨1, 0, none⟩ = some (.iface 270 (.pointer (some b)))) :
    Calls Tryz.prog 54 #[.iface 183 (.agg #[.string t1, .string t2]), .iface 270 (.pointer (some b))] w fun e w' => e = .returned (.bool true) ∧ Below w.heap.size w w' := by
  obtain ⟨i, hi, hcmp⟩ := Option.map_eq_some_iff.1 Tryz.isComp
  obtain ⟨j, hj, hjs⟩ := Option.map_eq_some_iff.1 Tryz.isSize
  have h8 := @run_callFunc_extern Tryz.prog 114 _ Extern.ReflectliteType.typeOf Tryz.func114 (by kernel_rfl) (by kernel_rfl) (by kernel_rfl) (by kernel_rfl)
  have tT := Tryz.isTypeOf
  have cT := Tryz.callComparable
  have mR := Tryz.isMethodComparable
  have nV := Tryz.noIsV
  have uV := Tryz.hasUnwrapV
  have mU := Tryz.methodUnwrapV
  have heq := run_eql_iface_ptr_same (P := Tryz.prog) w b Tryz.underlying89 Tryz.underlying270 hi hcmp hj
  have hty := run_eql_iface_types (P := Tryz.prog) 183 270 (.agg #[.string t1, .string t2]) (.pointer (some b)) Tryz.underlying89 (by decide) w
  have bel : Below w.heap.size w (w.alloc (.cells #[.string t1, .string t2] 183)) := more' (Below.refl _ _) _
  have h1' := (bel.cell (p := ⟨1, 0, none⟩) (World.block_lt_of_cell? _ _ h1)).trans h1
  have heq' := run_eql_iface_ptr_same (P := Tryz.prog) (w.alloc (.cells #[.string t1, .string t2] 183)) b Tryz.underlying89 Tryz.underlying270 hi hcmp hj
  clear heq
  have BEL := Lib.hid bel; clear bel
  go_enter Tryz.func54, Tryz.ntmps54
  go_wp2
  refine wp_loop_rounds 2 ?_
  rw [rounds_succ]
  go_wp2
  rw [rounds_succ]
  go_wp2
  go_ret
  exact ⟨rfl, BEL.out⟩
set_option maxRecDepth 100000 in
theorem is_viol_other (t1 t2 : ByteArray) (a b : Addr) (ca cb : Array Value) (ta tb : TypeId) (w : World) (hne : b ≠ a) (hb : w.heap[b.block]? = some (.cells cb tb (0, 0))) (ha : w.heap[a.block]? = some (.cells ca ta (0, 0))) (h1 : w.cell? ⟨1, 0, none⟩ = some (.iface 270 (.pointer (some b)))) :
    Calls Tryz.prog 54 #[.iface 183 (.agg #[.string t1, .string t2]), .iface 270 (.pointer (some a))] w fun e w' => e = .returned (.bool false) ∧ Below w.heap.size w w' := by
  obtain ⟨i, hi, hcmp⟩ := Option.map_eq_some_iff.1 Tryz.isComp
  obtain ⟨j, hj, hjs⟩ := Option.map_eq_some_iff.1 Tryz.isSize
  have h8 := @run_callFunc_extern Tryz.prog 114 _ Extern.ReflectliteType.typeOf Tryz.func114 (by kernel_rfl) (by kernel_rfl) (by kernel_rfl) (by kernel_rfl)
  have tT := Tryz.isTypeOf
  have cT := Tryz.callComparable
  have mR := Tryz.isMethodComparable
  have nV := Tryz.noIsV
  have uV := Tryz.hasUnwrapV
  have mU := Tryz.methodUnwrapV
  have nE := Tryz.noIsE
  have uE := Tryz.noUnwrapE
  have vE := Tryz.noUnwrapsE
  have hty := run_eql_iface_types (P := Tryz.prog) 183 270 (.agg #[.string t1, .string t2]) (.pointer (some a)) Tryz.underlying89 (by decide) w
  have bel : Below w.heap.size w (w.alloc (.cells #[.string t1, .string t2] 183)) := more' (Below.refl _ _) _
  have h1' := (bel.cell (p := ⟨1, 0, none⟩) (World.block_lt_of_cell? _ _ h1)).trans h1
  have hb' := (bel.block _ (Array.getElem?_eq_some_iff.1 hb).1).trans hb
  have ha' := (bel.block _ (Array.getElem?_eq_some_iff.1 ha).1).trans ha
  have heq' := run_eql_iface_ptr_other (P := Tryz.prog) (w.alloc (.cells #[.string t1, .string t2] 183)) Tryz.underlying89 Tryz.underlying270 hi hcmp hj (by rw [hjs]; decide) hne hb' ha'
  clear hb ha hb' ha'
  have BEL := Lib.hid bel; clear bel
  go_enter Tryz.func54, Tryz.ntmps54
  go_wp2
  refine wp_loop_rounds 2 ?_
  rw [rounds_succ]
  go_wp2
  rw [rounds_succ]
  go_wp2
  go_ret
  exact ⟨rfl, BEL.out⟩
end Go.Proofs.YtohcdpoffpnfhaaGreatDoor
/- Check: what the program returns. -/
namespace Go.Proofs.YtohcdpoffpnfhaaGreatDoor
open Go.RowKit
set_option linter.unusedVariables false
attribute [local go_sem ↓] Go.wp_at_zero Go.wp_at_succ

/-- the two errors that the program keeps are as they were made -/
def Sent2 (w : World) : Prop := ∃ (a0 a1 : Addr) (c0 c1 : Array Value) (t0 t1 : TypeId), w.cell? ⟨0, 0, none⟩ = some (.iface 270 (.pointer (some a0))) ∧ w.cell? ⟨1, 0, none⟩ = some (.iface 270 (.pointer (some a1))) ∧ a0 ≠ a1 ∧ w.heap[a0.block]? = some (.cells c0 t0 (0, 0)) ∧ w.heap[a1.block]? = some (.cells c1 t1 (0, 0))
theorem Sent2.below {w w' : World} (h : Sent2 w) (hb : Below w.heap.size w w') : Sent2 w' := by
  obtain ⟨a0, a1, c0, c1, t0, t1, h0, h1, hne, r0, r1⟩ := h
  exact ⟨a0, a1, c0, c1, t0, t1, (hb.cell (p := ⟨0, 0, none⟩) (World.block_lt_of_cell? _ _ h0)).trans h0, (hb.cell (p := ⟨1, 0, none⟩) (World.block_lt_of_cell? _ _ h1)).trans h1, hne, (hb.block _ (Array.getElem?_eq_some_iff.1 r0).1).trans r0, (hb.block _ (Array.getElem?_eq_some_iff.1 r1).1).trans r1⟩
theorem Sent2.one {w : World} (h : Sent2 w) : Sent w := by
  obtain ⟨a0, _, _, _, _, _, h0, _⟩ := h
  exact ⟨a0, h0⟩
noncomputable def codeR (s : List ClassT) (d : RdnL) (l : List AttrV) : Int :=
  if 400 < s.length then 2 else match checkR (s.map toCV) d l with | none => 1 | some false => 12 | some true => 0
theorem codeR_big {s : List ClassT} {d : RdnL} {l : List AttrV} (h : 400 < s.length) : codeR s d l = 2 := by unfold codeR; rw [if_pos h]
theorem codeR_in {s : List ClassT} {d : RdnL} {l : List AttrV} (h : ¬ 400 < s.length) : codeR s d l = match checkR (s.map toCV) d l with | none => 1 | some false => 12 | some true => 0 := by unfold codeR; rw [if_neg h]
set_option maxRecDepth 100000 in
set_option maxHeartbeats 4000000 in
theorem Check_any {S1 S2 S3 : Bs} (so : Option Addr) (s : List ClassT) (cs : Nat) (ao bo : Option Addr) (d : RdnL) (l : List AttrV) (ca cb : Nat) (w : World) (hs : SlAt classE S1 w s (.slice so s.length cs)) (hd : SlAt rdnE S2 w d (.slice ao d.length ca)) (hl : SlAt attrE S3 w l (.slice bo l.length cb)) (hzs : s.length + szL classE s ≤ 1048576) (hzd : d.length + szL rdnE d ≤ 1048576) (hzl : l.length + szL attrE l ≤ 1048576) (hS : Sent2 w) :
    Calls Tryz.prog 14 #[.slice so s.length cs, .agg #[.slice ao d.length ca, .slice bo l.length cb]] w fun e w' => e = .returned (.int .i64 (codeR s d l)) ∧ Below w.heap.size w w' := by
  by_cases c0 : 400 < s.length
  · have HR := Lib.hid (codeR_big (d := d) (l := l) c0)
    have c0' : (400 : Int) < (s.length : Int) := by omega
    clear hs hd hl hzs hzd hzl hS
    go_enter Tryz.func14, Tryz.ntmps14
    go_wp2_with fail
    go_ret
    exact ⟨by rw [HR.out]; rfl, more' (Below.refl _ _) _⟩
  have c0' : ¬ (400 : Int) < (s.length : Int) := by omega
  have HR := Lib.hid (codeR_in (d := d) (l := l) c0)
  have CE : Hid (∀ W : World, Below w.heap.size w W → Calls Tryz.prog 53 #[.slice so s.length cs, .agg #[.slice ao d.length ca, .slice bo l.length cb]] W (GivesK W (checkR (s.map toCV) d l))) := Lib.hid (fun W b => checkEntry_any so s cs ao bo d l ca cb W (hs.frame (Same.of_below' b)) (hd.frame (Same.of_below' b)) (hl.frame (Same.of_below' b)) hzs hzd hzl (hS.one.below b))
  have HS2 := Lib.hid hS
  clear hs hd hl hzs hzd hzl hS c0
  go_enter Tryz.func14, Tryz.ntmps14
  go_wp2_with fail
  refine calls_by (fun W => Below w.heap.size w W ∧ Blk W w.heap.size [.slice ao d.length ca, .slice bo l.length cb]) ⟨more' (Below.refl _ _) _, Blk.new _ _ _⟩ ?_
  rintro W1 ⟨b1, e1⟩
  refine (CE.out W1 b1).mono ?_
  rintro e w2 ⟨hb, hm⟩
  have B2 := Lib.hid (b1.trans (hb.mono b1.size))
  obtain ⟨a0, a1, r0, r1, t0, t1, g0, g1, hne, k0, k1⟩ := HS2.out.below B2.out
  have HB := Lib.hid hb
  clear e1 hb CE HS2
  cases hM : checkR (s.map toCV) d l with
  | none =>
    rw [hM] at hm
    have HE : Hid (codeR s d l = 1) := Lib.hid (by rw [HR.out, hM])
    clear hM
    obtain ⟨a, rfl, ha⟩ := hm
    have hae : a = a0 := by
      have h1 := (HB.out.cell (p := ⟨0, 0, none⟩) (World.block_lt_of_cell? _ _ ha)).trans ha
      have h2 := h1.symm.trans g0
      injection h2 with h2; injection h2 with _ h2; injection h2 with h2; injection h2
    subst hae
    clear ha
    go_wp2_with fail
    refine (is_same a _).mono ?_
    rintro e w3 ⟨rfl, rfl⟩
    go_wp2_with fail
    go_ret
    exact ⟨by rw [HE.out]; rfl, B2.out⟩
  | some q =>
    rw [hM] at hm
    cases q
    · have HE : Hid (codeR s d l = 12) := Lib.hid (by rw [HR.out, hM])
      clear hM
      obtain ⟨x1, x2, rfl⟩ := hm
      go_wp2_with fail
      refine (is_viol_other x1 x2 a0 a1 _ _ _ _ w2 (fun h => hne h.symm) k1 k0 g1).mono ?_
      rintro e w3 ⟨rfl, hb3⟩
      have g1' := (hb3.cell (p := ⟨1, 0, none⟩) (World.block_lt_of_cell? _ _ g1)).trans g1
      have B3 := Lib.hid (B2.out.trans (hb3.mono B2.out.size))
      clear hb3 g0 g1 k0 k1
      go_wp2_with fail
      refine (is_viol_same x1 x2 a1 w3 g1').mono ?_
      rintro e w4 ⟨rfl, hb4⟩
      have B4 := Lib.hid (B3.out.trans (hb4.mono B3.out.size))
      clear hb4 g1'
      go_wp2_with fail
      go_ret
      exact ⟨by rw [HE.out]; rfl, B4.out⟩
    · have HE : Hid (codeR s d l = 0) := Lib.hid (by rw [HR.out, hM])
      clear hM
      obtain rfl := hm
      go_wp2_with fail
      refine (is_nil a0 _).mono ?_
      rintro e w3 ⟨rfl, rfl⟩
      go_wp2_with fail
      refine (is_nil a1 _).mono ?_
      rintro e w3 ⟨rfl, rfl⟩
      go_wp2_with fail
      go_ret
      exact ⟨by rw [HE.out]; rfl, B2.out⟩
end Go.Proofs.YtohcdpoffpnfhaaGreatDoor
/- Check: what the specification returns. -/
namespace Go.Proofs.YtohcdpoffpnfhaaGreatDoor
open Go.RowKit
set_option linter.unusedVariables false
attribute [local go_sem ↓] Go.wp_at_zero Go.wp_at_succ

theorem checkR_no {X : List ClassV} {d : RdnL} {l : List AttrV} (h : schemaB X = false ∨ rightB d l = false) : checkR X d l = none := by
  unfold checkR
  rw [mine_no h]
theorem codeR_right {s : List ClassT} {d : RdnL} {l : List AttrV} (h : ¬ 400 < s.length) (h1 : schemaB (s.map toCV) = true) (h2 : rightB d l = true) : codeR s d l = if checkR (s.map toCV) d l = some true then 0 else 12 := by
  rw [codeR_in h]
  have hn : checkR (s.map toCV) d l ≠ none := by
    unfold checkR
    rw [mine_right h1 h2]
    cases mineC (s.map toCV) l <;> simp
  cases hc : checkR (s.map toCV) d l with
  | none => exact absurd hc hn
  | some q => cases q <;> rfl
set_option maxRecDepth 100000 in
set_option maxHeartbeats 4000000 in
theorem SpecCheck_any {S1 S2 S3 : Bs} (so : Option Addr) (s : List ClassT) (cs : Nat) (ao bo : Option Addr) (d : RdnL) (l : List AttrV) (ca cb : Nat) (w : World) (hs : SlAt classE S1 w s (.slice so s.length cs)) (hd : SlAt rdnE S2 w d (.slice ao d.length ca)) (hl : SlAt attrE S3 w l (.slice bo l.length cb)) (hzs : s.length + szL classE s ≤ 1048576) (hzd : d.length + szL rdnE d ≤ 1048576) (hzl : l.length + szL attrE l ≤ 1048576) :
    Calls Tryz.prog 11 #[.slice so s.length cs, .agg #[.slice ao d.length ca, .slice bo l.length cb]] w fun e w' => e = .returned (.int .i64 (codeR s d l)) ∧ Below w.heap.size w w' := by
  by_cases c0 : 400 < s.length
  · have HR := Lib.hid (codeR_big (d := d) (l := l) c0)
    have c0' : (400 : Int) < (s.length : Int) := by omega
    clear hs hd hl hzs hzd hzl
    go_enter Tryz.func11, Tryz.ntmps11
    go_wp2_with fail
    go_ret
    exact ⟨by rw [HR.out]; rfl, more' (Below.refl _ _) _⟩
  have c0' : ¬ (400 : Int) < (s.length : Int) := by omega
  have CS : Hid (∀ W : World, Below w.heap.size w W → Calls Tryz.prog 48 #[.slice so s.length cs] W fun e w' => e = .returned (.bool (schemaB (s.map toCV))) ∧ Below W.heap.size W w') := Lib.hid (fun W b => by
    have h1 := SpecSchemaRight_any so (s.map toCV) cs W ((classes_of hs).below b) (fits_classes hzs)
    rw [List.length_map] at h1
    exact h1)
  have CE : Hid (∀ W : World, Below w.heap.size w W → Calls Tryz.prog 49 #[.agg #[.slice ao d.length ca, .slice bo l.length cb]] W fun e w' => e = .returned (.bool (rightB d l)) ∧ Below W.heap.size W w') := Lib.hid (fun W b => SpecEntryRight_any ao bo d l ca cb W ((dn_of hd).below b) ((attrs_of hl).below b) (fits_dn hzd) (fits_attrs hzl))
  have CX : Hid (schemaB (s.map toCV) = true → rightB d l = true → ∀ W : World, Below w.heap.size w W → Calls Tryz.prog 50 #[.slice so s.length cs, .agg #[.slice ao d.length ca, .slice bo l.length cb]] W fun e w' => e = .returned (.int .i64 (codeR s d l)) ∧ Below W.heap.size W w') := Lib.hid (fun h1 h2 W b => by
    have h3 := l05Check_any so (s.map toCV) cs ao bo d l ca cb W ((classes_of hs).below b) (fits_classes hzs) ((dn_of hd).below b) ((attrs_of hl).below b) (fits_dn hzd) (fits_attrs hzl) h1 h2
    rw [List.length_map, ← codeR_right c0 h1 h2] at h3
    exact h3)
  have HN : Hid (schemaB (s.map toCV) = false ∨ rightB d l = false → codeR s d l = 1) := Lib.hid (fun h => by rw [codeR_in c0, checkR_no h])
  clear hs hd hl hzs hzd hzl c0
  generalize codeR s d l = R at *
  go_enter Tryz.func11, Tryz.ntmps11
  go_wp2_with fail
  refine calls_by (fun W => Below w.heap.size w W ∧ Blk W w.heap.size [.slice ao d.length ca, .slice bo l.length cb]) ⟨more' (Below.refl _ _) _, Blk.new _ _ _⟩ ?_
  rintro W1 ⟨b1, e1⟩
  refine (CS.out W1 b1).mono ?_
  rintro e w2 ⟨rfl, hb⟩
  have B2 := Lib.hid (b1.trans (hb.mono b1.size)); have E2 := Lib.hid (e1.below hb)
  clear b1 e1 hb CS
  obtain ⟨r, hr⟩ : ∃ r, r = schemaB (s.map toCV) := ⟨_, rfl⟩
  rw [← hr]
  have HR := Lib.hid hr
  clear hr
  cases r
  · have HE := Lib.hid (HN.out (.inl HR.out.symm))
    go_wp2_with fail
    go_ret
    exact ⟨by rw [HE.out]; rfl, B2.out⟩
  have cz0 := E2.out.cell 0 rfl; have cz1 := E2.out.cell 1 rfl
  go_wp2_with fail
  refine (CE.out w2 B2.out).mono ?_
  rintro e w3 ⟨rfl, hb⟩
  have B3 := Lib.hid (B2.out.trans (hb.mono B2.out.size)); have E3 := Lib.hid (E2.out.below hb)
  clear hb B2 E2 cz0 cz1 CE
  obtain ⟨r, hr⟩ : ∃ r, r = rightB d l := ⟨_, rfl⟩
  rw [← hr]
  have HRE := Lib.hid hr
  clear hr
  cases r
  · have HE := Lib.hid (HN.out (.inr HRE.out.symm))
    go_wp2_with fail
    go_ret
    exact ⟨by rw [HE.out]; rfl, B3.out⟩
  have cz0 := E3.out.cell 0 rfl; have cz1 := E3.out.cell 1 rfl
  go_wp2_with fail
  refine (CX.out HR.out.symm HRE.out.symm w3 B3.out).mono ?_
  rintro e w4 ⟨rfl, hb⟩
  have B4 := Lib.hid (B3.out.trans (hb.mono B3.out.size))
  clear hb CX cz0 cz1
  go_wp2_with fail
  go_ret
  exact ⟨rfl, B4.out⟩
end Go.Proofs.YtohcdpoffpnfhaaGreatDoor
/- Check: the contracts by shapes. -/
namespace Go.Proofs.YtohcdpoffpnfhaaGreatDoor
open Go.RowKit

theorem entry_szs' {a : RdnL} {b : List AttrV} (h : entryE.sz (a, b) ≤ 1048576) : a.length + szL rdnE a ≤ 1048576 ∧ b.length + szL attrE b ≤ 1048576 := by
  have e : entryE.sz (a, b) = (a.length + szL rdnE a) + (b.length + szL attrE b) := rfl
  omega
theorem Check_own {S0 S1 S2 : Bs} (v0 : Value) (s : List ClassT) (v1 v2 : Value) (a : RdnL) (b : List AttrV) (w : World) (h0 : SlAt classE S0 w s v0) (h1 : SlAt rdnE S1 w a v1) (h2 : SlAt attrE S2 w b v2) (z0 : s.length + szL classE s ≤ 1048576) (z1 : entryE.sz (a, b) ≤ 1048576) (hS : Sent2 w) :
    Calls Tryz.prog 14 #[v0, .agg #[v1, v2]] w fun e w' => e = .returned (.int .i64 (codeR s a b)) ∧ Below w.heap.size w w' := by
  obtain ⟨so, cs, rfl⟩ := h0.sl
  obtain ⟨ao, ca, rfl⟩ := h1.sl
  obtain ⟨bo, cb, rfl⟩ := h2.sl
  exact Check_any so s cs ao bo a b ca cb w h0 h1 h2 z0 (entry_szs' z1).1 (entry_szs' z1).2 hS
theorem SpecCheck_own {S0 S1 S2 : Bs} (v0 : Value) (s : List ClassT) (v1 v2 : Value) (a : RdnL) (b : List AttrV) (w : World) (h0 : SlAt classE S0 w s v0) (h1 : SlAt rdnE S1 w a v1) (h2 : SlAt attrE S2 w b v2) (z0 : s.length + szL classE s ≤ 1048576) (z1 : entryE.sz (a, b) ≤ 1048576) :
    Calls Tryz.prog 11 #[v0, .agg #[v1, v2]] w fun e w' => e = .returned (.int .i64 (codeR s a b)) ∧ Below w.heap.size w w' := by
  obtain ⟨so, cs, rfl⟩ := h0.sl
  obtain ⟨ao, ca, rfl⟩ := h1.sl
  obtain ⟨bo, cb, rfl⟩ := h2.sl
  exact SpecCheck_any so s cs ao bo a b ca cb w h0 h1 h2 z0 (entry_szs' z1).1 (entry_szs' z1).2
end Go.Proofs.YtohcdpoffpnfhaaGreatDoor
/- The helpers of the laws: sizes. -/
namespace Go.Proofs.YtohcdpoffpnfhaaGreatDoor
open Go.RowKit
attribute [local go_sem ↓] Go.wp_at_zero Go.wp_at_succ

set_option maxRecDepth 100000 in
set_option maxHeartbeats 4000000 in
theorem szStringS_at {S : Bs} (v : Value) (d : List ByteArray) (left : Int) (w : World) (hd : SlAt strE S w d v) (hf : (slE strE).long d) (h0 : 0 ≤ left) (h1 : left ≤ 1048576) :
    Calls Tryz.prog 101 #[v, .int .i64 left] w fun e w' => e = .returned (.int .i64 (leftR (d.length + szL strE d) left)) ∧ Below w.heap.size w w' := by
  obtain ⟨ao, cap, rfl⟩ := hd.sl
  have hl : d.length ≤ 9223372036854775807 := hf.1
  have HD := Lib.hid hd; have HF := Lib.hid hf; clear hd hf
  by_cases g : (d.length : Int) ≤ left
  · have c1 : ¬ left - (d.length : Int) < 0 := by omega
    go_enter Tryz.func101, Tryz.ntmps101
    go_wp2
    go_loopw [1, 5] (fun t i wr => ∃ k : Nat, k ≤ d.length ∧ i = .int .i64 k ∧ ((d.length + szL strE (d.take k) : Nat) : Int) ≤ left ∧ t = .int .i64 (left - (d.length + szL strE (d.take k) : Nat)) ∧ Below w.heap.size w wr) (fun _ i _ => d.length - (intOf i).toNat)
    case atStart => exact ⟨0, Nat.zero_le _, rfl, by simp [szL]; omega, by simp [szL], Below.refl _ _⟩
    case round =>
      clear c1
      obtain ⟨k, hk, rfl, hle, rfl, hbel⟩ := hrel
      have hsz := hbel.size
      by_cases hlt : k < d.length
      · obtain ⟨b, off, A, rfl, _, hb0, hx, hc1⟩ := str_row (HD.out.frame (Same.of_below' hbel)) hlt
        have hz : A.size ≤ maxLen := by have := HF.out.2 _ (List.getElem_mem hlt); rw [hx] at this; exact this
        unfold maxLen at hz
        have HT : Hid (szL strE (d.take (k + 1)) = szL strE (d.take k) + A.size) := Lib.hid (by rw [szL_take strE d k hlt, hx]; rfl)
        have HTl := Lib.hid (szL_le strE d (k + 1))
        clear hx
        generalize hq : d.length + szL strE (d.take k) = q at *
        have Hq := Lib.hid hq; clear hq
        by_cases hfit : ((A.size : Nat) : Int) ≤ left - (q : Int)
        · have c2 : ¬ left - (q : Int) - (A.size : Int) < 0 := by omega
          go_wp2
          go_roundw
          case rel =>
            have e := HT.out
            have e3 := Hq.out
            exact ⟨k + 1, by omega, by go_num, by omega, by rw [e]; congr 1; omega, hbel⟩
          case measure => simp [intOf]; omega
        · have c2 : left - (q : Int) - (A.size : Int) < 0 := by omega
          have HR : Hid (leftR (d.length + szL strE d) left = -1) := Lib.hid (leftR_neg (by
            have := HT.out; have := HTl.out; have := Hq.out; omega))
          go_wp2
          go_ret
          exact ⟨ret_int (by rw [HR.out]), hbel⟩
      · have HR : Hid (leftR (d.length + szL strE d) left = left - (d.length + szL strE (d.take k) : Nat)) := Lib.hid (by
          rw [List.take_of_length_le (by omega)] at hle ⊢
          exact leftR_pos hle)
        go_wp2
        go_ret
        exact ⟨ret_int (by rw [HR.out]), hbel⟩
  · have HR : Hid (leftR (d.length + szL strE d) left = -1) := Lib.hid (leftR_neg (by omega))
    have c1 : left - (d.length : Int) < 0 := by omega
    go_enter Tryz.func101, Tryz.ntmps101
    go_wp2
    go_ret
    exact ⟨ret_int (by rw [HR.out]), Below.refl _ _⟩
end Go.Proofs.YtohcdpoffpnfhaaGreatDoor
/- The helpers of the laws: sizes. -/
namespace Go.Proofs.YtohcdpoffpnfhaaGreatDoor
open Go.RowKit
attribute [local go_sem ↓] Go.wp_at_zero Go.wp_at_succ

set_option maxRecDepth 100000 in
set_option maxHeartbeats 4000000 in
theorem szClass_at {S : Bs} (a0 : ByteArray) (a1 : (List ByteArray)) (a2 : (List ByteArray)) (a3 : (List ByteArray)) (v1 v2 v3 : Value) (left : Int) (w : World) (h1 : SlAt strE S w a1 v1) (h2 : SlAt strE S w a2 v2) (h3 : SlAt strE S w a3 v3) (hl : classE.long (a0, a1, a2, a3)) (g0 : 0 ≤ left) (g1 : left ≤ 1048576) :
    Calls Tryz.prog 46 #[.agg #[.string a0, v1, v2, v3], .int .i64 left] w fun e w' => e = .returned (.int .i64 (leftR (classE.sz (a0, a1, a2, a3)) left)) ∧ Below w.heap.size w w' := by
  have HE : Hid (classE.sz (a0, a1, a2, a3) = a0.size + ((a1.length + szL strE a1) + ((a2.length + szL strE a2) + ((a3.length + szL strE a3))))) := Lib.hid rfl
  have z0 : a0.size ≤ 9223372036854775807 := by have := hl.1; simp only [strE, maxLen] at this; omega
  have C1 : Hid (∀ (l : Int) (W : World), Below w.heap.size w W → 0 ≤ l → l ≤ 1048576 → Calls Tryz.prog 101 #[v1, .int .i64 l] W fun e w' => e = .returned (.int .i64 (leftR (a1.length + szL strE a1) l)) ∧ Below W.heap.size W w') := Lib.hid (fun l W b p q => szStringS_at v1 a1 l W (h1.frame (Same.of_below' b)) hl.2.1 p q)
  have C2 : Hid (∀ (l : Int) (W : World), Below w.heap.size w W → 0 ≤ l → l ≤ 1048576 → Calls Tryz.prog 101 #[v2, .int .i64 l] W fun e w' => e = .returned (.int .i64 (leftR (a2.length + szL strE a2) l)) ∧ Below W.heap.size W w') := Lib.hid (fun l W b p q => szStringS_at v2 a2 l W (h2.frame (Same.of_below' b)) hl.2.2.1 p q)
  have C3 : Hid (∀ (l : Int) (W : World), Below w.heap.size w W → 0 ≤ l → l ≤ 1048576 → Calls Tryz.prog 101 #[v3, .int .i64 l] W fun e w' => e = .returned (.int .i64 (leftR (a3.length + szL strE a3) l)) ∧ Below W.heap.size W w') := Lib.hid (fun l W b p q => szStringS_at v3 a3 l W (h3.frame (Same.of_below' b)) hl.2.2.2 p q)
  obtain ⟨o1, k1, rfl⟩ := h1.sl
  obtain ⟨o2, k2, rfl⟩ := h2.sl
  obtain ⟨o3, k3, rfl⟩ := h3.sl
  clear h1 h2 h3
  clear hl
  generalize classE.sz (a0, a1, a2, a3) = z at *
  generalize (a1.length + szL strE a1) = r1 at *
  generalize (a2.length + szL strE a2) = r2 at *
  generalize (a3.length + szL strE a3) = r3 at *
  generalize a1.length = m1 at *
  generalize a2.length = m2 at *
  generalize a3.length = m3 at *
  by_cases g2 : (a0.size : Int) ≤ left
  · have c0 : ¬ left - (a0.size : Int) < 0 := by omega
    go_enter Tryz.func46, Tryz.ntmps46
    go_wp2_with fail
    refine calls_by (fun W => Below w.heap.size w W ∧ Blk W w.heap.size [.string a0, .slice o1 m1 k1, .slice o2 m2 k2, .slice o3 m3 k3]) ⟨more' (Below.refl _ _) _, Blk.new _ _ _⟩ ?_
    rintro w1 ⟨b1, t1⟩
    have T1 := Lib.hid t1; clear t1
    refine (C1.out _ w1 b1 (by omega) (by omega)).mono ?_
    rintro e w2 ⟨rfl, hb⟩
    have T2 := Lib.hid (T1.out.below hb); have b2 := b1.trans (hb.mono b1.size)
    clear hb b1 T1 C1
    by_cases g3 : (r1 : Int) ≤ left - (a0.size : Int)
    · rw [leftR_pos g3]
      have c1 : ¬ left - (a0.size : Int) - (r1 : Int) < 0 := by omega
      have q0 := T2.out.cell 0 rfl
      have q1 := T2.out.cell 1 rfl
      have q2 := T2.out.cell 2 rfl
      have q3 := T2.out.cell 3 rfl
      go_wp2_with fail
      refine (C2.out _ w2 b2 (by omega) (by omega)).mono ?_
      rintro e w3 ⟨rfl, hb⟩
      have T3 := Lib.hid (T2.out.below hb); have b3 := b2.trans (hb.mono b2.size)
      clear hb b2 T2 C2 q0 q1 q2 q3
      by_cases g4 : (r2 : Int) ≤ left - (a0.size : Int) - (r1 : Int)
      · rw [leftR_pos g4]
        have c2 : ¬ left - (a0.size : Int) - (r1 : Int) - (r2 : Int) < 0 := by omega
        have q0 := T3.out.cell 0 rfl
        have q1 := T3.out.cell 1 rfl
        have q2 := T3.out.cell 2 rfl
        have q3 := T3.out.cell 3 rfl
        go_wp2_with fail
        refine (C3.out _ w3 b3 (by omega) (by omega)).mono ?_
        rintro e w4 ⟨rfl, hb⟩
        have T4 := Lib.hid (T3.out.below hb); have b4 := b3.trans (hb.mono b3.size)
        clear hb b3 T3 C3 q0 q1 q2 q3
        by_cases g5 : (r3 : Int) ≤ left - (a0.size : Int) - (r1 : Int) - (r2 : Int)
        · rw [leftR_pos g5]
          have c3 : ¬ left - (a0.size : Int) - (r1 : Int) - (r2 : Int) - (r3 : Int) < 0 := by omega
          have q0 := T4.out.cell 0 rfl
          have q1 := T4.out.cell 1 rfl
          have q2 := T4.out.cell 2 rfl
          have q3 := T4.out.cell 3 rfl
          have HR : Hid (leftR z left = left - (a0.size : Int) - (r1 : Int) - (r2 : Int) - (r3 : Int)) := Lib.hid (by rw [leftR_pos (by rw [HE.out]; omega), HE.out]; omega)
          go_wp2
          go_ret
          exact ⟨ret_int (by rw [HR.out]), b4⟩
        · rw [leftR_neg g5]
          have HR : Hid (leftR z left = -1) := Lib.hid (leftR_neg (by rw [HE.out]; omega))
          go_wp2
          go_ret
          exact ⟨ret_int (by rw [HR.out]), b4⟩
      · rw [leftR_neg g4]
        have HR : Hid (leftR z left = -1) := Lib.hid (leftR_neg (by rw [HE.out]; omega))
        go_wp2
        go_ret
        exact ⟨ret_int (by rw [HR.out]), b3⟩
    · rw [leftR_neg g3]
      have HR : Hid (leftR z left = -1) := Lib.hid (leftR_neg (by rw [HE.out]; omega))
      go_wp2
      go_ret
      exact ⟨ret_int (by rw [HR.out]), b2⟩
  · have c0 : left - (a0.size : Int) < 0 := by omega
    have HR : Hid (leftR z left = -1) := Lib.hid (leftR_neg (by rw [HE.out]; omega))
    go_enter Tryz.func46, Tryz.ntmps46
    go_wp2
    go_ret
    exact ⟨ret_int (by rw [HR.out]), (Below.refl _ _).alloc (Nat.le_refl _) _⟩
set_option maxRecDepth 100000 in
set_option maxHeartbeats 4000000 in
theorem szClassS_at {S : Bs} (v : Value) (d : List ClassT) (left : Int) (w : World) (hd : SlAt classE S w d v) (hf : (slE classE).long d) (h0 : 0 ≤ left) (h1 : left ≤ 1048576) :
    Calls Tryz.prog 9 #[v, .int .i64 left] w fun e w' => e = .returned (.int .i64 (leftR (d.length + szL classE d) left)) ∧ Below w.heap.size w w' := by
  obtain ⟨ao, cap, rfl⟩ := hd.sl
  have hl : d.length ≤ 9223372036854775807 := hf.1
  have HD := Lib.hid hd; have HF := Lib.hid hf; clear hd hf
  by_cases g : (d.length : Int) ≤ left
  · have c1 : ¬ left - (d.length : Int) < 0 := by omega
    go_enter Tryz.func9, Tryz.ntmps9
    go_wp2
    go_loopw [1, 5] (fun t i wr => ∃ k : Nat, k ≤ d.length ∧ i = .int .i64 k ∧ ((d.length + szL classE (d.take k) : Nat) : Int) ≤ left ∧ t = .int .i64 (left - (d.length + szL classE (d.take k) : Nat)) ∧ Below w.heap.size w wr) (fun _ i _ => d.length - (intOf i).toNat)
    case atStart => exact ⟨0, Nat.zero_le _, rfl, by simp [szL]; omega, by simp [szL], Below.refl _ _⟩
    case round =>
      clear c1
      obtain ⟨k, hk, rfl, hle, rfl, hbel⟩ := hrel
      have hsz := hbel.size
      by_cases hlt : k < d.length
      · obtain ⟨b, off, a0, a1, a2, a3, v1, v2, v3, rfl, _, hb0, hx, ⟨hc0, hc1, hc2, hc3⟩, s1, s2, s3, _⟩ := class_row (HD.out.frame (Same.of_below' hbel)) hlt
        have HV1 := Lib.hid s1; clear s1
        have HV2 := Lib.hid s2; clear s2
        have HV3 := Lib.hid s3; clear s3
        have HZ : Hid (classE.long (a0, a1, a2, a3)) := Lib.hid (by have := HF.out.2 _ (List.getElem_mem hlt); rw [hx] at this; exact this)
        have HT : Hid (szL classE (d.take (k + 1)) = szL classE (d.take k) + classE.sz (a0, a1, a2, a3)) := Lib.hid (by rw [szL_take classE d k hlt, hx])
        have HTl := Lib.hid (szL_le classE d (k + 1))
        clear hx
        generalize hq : d.length + szL classE (d.take k) = q at *
        have Hq := Lib.hid hq; clear hq
        have HC := Lib.hid (szClass_at a0 a1 a2 a3 v1 v2 v3 (left - (q : Int)) wr HV1.out HV2.out HV3.out HZ.out (by omega) (by omega))
        generalize classE.sz (a0, a1, a2, a3) = r at *
        go_wp2_with fail
        refine HC.out.mono ?_
        rintro e w2 ⟨rfl, hb2⟩
        have B2 := Lib.hid (hbel.trans (hb2.mono hsz)); clear hb2
        by_cases hfit : (r : Int) ≤ left - (q : Int)
        · rw [leftR_pos hfit]
          have c2 : ¬ left - (q : Int) - (r : Int) < 0 := by omega
          go_wp2
          go_roundw
          case rel =>
            have e := HT.out
            have e3 := Hq.out
            exact ⟨k + 1, by omega, by go_num, by omega, by rw [e]; congr 1; omega, B2.out⟩
          case measure => simp [intOf]; omega
        · rw [leftR_neg hfit]
          have HR : Hid (leftR (d.length + szL classE d) left = -1) := Lib.hid (leftR_neg (by
            have := HT.out; have := HTl.out; have := Hq.out; omega))
          go_wp2
          go_ret
          exact ⟨ret_int (by rw [HR.out]), B2.out⟩
      · have HR : Hid (leftR (d.length + szL classE d) left = left - (d.length + szL classE (d.take k) : Nat)) := Lib.hid (by
          rw [List.take_of_length_le (by omega)] at hle ⊢
          exact leftR_pos hle)
        go_wp2
        go_ret
        exact ⟨ret_int (by rw [HR.out]), hbel⟩
  · have HR : Hid (leftR (d.length + szL classE d) left = -1) := Lib.hid (leftR_neg (by omega))
    have c1 : left - (d.length : Int) < 0 := by omega
    go_enter Tryz.func9, Tryz.ntmps9
    go_wp2
    go_ret
    exact ⟨ret_int (by rw [HR.out]), Below.refl _ _⟩
end Go.Proofs.YtohcdpoffpnfhaaGreatDoor
/- The helpers of the laws: copies. -/
namespace Go.Proofs.YtohcdpoffpnfhaaGreatDoor
open Go.RowKit
attribute [local go_sem ↓] Go.wp_at_zero Go.wp_at_succ

theorem Tryz.infoTString : (Tryz.prog.info? 9).map (fun i => (i.zero, i.size, i.bytes)) = some (some (.string ByteArray.empty), 1, 16) := by kernel_rfl
theorem mkString (n : Nat) (hn : n ≤ 1048576) (W : World) : ∃ C : Array Value, C.size = n * 1 ∧
    (Instr.makeSlice 79 (.int .i64 (n : Int)) (.int .i64 (n : Int))).run Tryz.prog W = .ok (.slice (some ⟨W.heap.size, 0, none⟩) n n) (W.alloc (.cells C 9)) := by
  obtain ⟨i0, hi, hz0, hz1, hz2⟩ := info_parts Tryz.infoTString
  have := run_make (P := Tryz.prog) W 79 9 i0 _ Tryz.underlying79 hi hz0 .i64 .i64 (n : Int) (n : Int) (by omega) (by omega) (by rw [hz2]; omega) (by omega)
  rw [hz1] at this
  refine ⟨madeCells (Value.cells (.string ByteArray.empty)) (n * 1), size_madeCells _ _, ?_⟩
  simpa using this
set_option maxRecDepth 100000 in
set_option maxHeartbeats 4000000 in
theorem toStringS_at {S : Bs} (v : Value) (d : List ByteArray) (w : World) (hd : SlAt strE S w d v) (hz : d.length + szL strE d ≤ 1048576) :
    Calls Tryz.prog 109 #[v] w fun e w' => ∃ u, e = .returned u ∧ SlOwn strE (Fresh w w') w' d u ∧ Below w.heap.size w w' := by
  obtain ⟨ao, cap, rfl⟩ := hd.sl
  have HD := Lib.hid hd; clear hd
  have HL := Lib.hid hz
  have hl : d.length ≤ 1048576 := by omega
  clear hz
  obtain ⟨C, hC, hmk⟩ := mkString d.length hl w
  have HC := Lib.hid hC; clear hC
  go_enter Tryz.func109, Tryz.ntmps109
  go_wp2
  clear hmk
  go_loopw [4] (fun i wr => ∃ k : Nat, k ≤ d.length ∧ i = .int .i64 k ∧ Build strE wr w.heap.size d.length (d.take k) ∧ Below w.heap.size w wr) (fun i _ => d.length - (intOf i).toNat)
  case atStart => exact ⟨0, Nat.zero_le _, rfl, Build.new _ _ _ _ HC.out, (Below.refl _ _).alloc (Nat.le_refl _) _⟩
  case round =>
    obtain ⟨k, hk, rfl, hR, hbel⟩ := hrel
    have HR := Lib.hid hR; clear hR
    have hsz := hbel.size
    by_cases hlt : k < d.length
    · obtain ⟨b, off, A, rfl, _, hb0, hx, hc1⟩ := str_row (HD.out.frame (Same.of_below' hbel)) hlt
      have HT : Hid (d.take (k + 1) = d.take k ++ [A]) := Lib.hid (by rw [List.take_succ_eq_append_getElem hlt, hx])
      have HK : Hid ((d.take k).length = k) := Lib.hid (by rw [List.length_take]; omega)
      clear hx
      obtain ⟨x, c0⟩ := HR.out.cell (k := k) (u := 0) hlt (by decide)
      have c0 : wr.cell? ⟨w.heap.size, k, none⟩ = some x := by have e1 : k * strE.n + 0 = k := by (show k * 1 + 0 = k); omega
                                                               rw [e1] at c0; exact c0
      have f0 := HR.out.soft k
      go_wp2
      go_roundw
      case rel => exact ⟨k + 1, by omega, by go_num, by rw [HT.out]; exact HR.out.row (o := k) (cs := [.string A]) (by rw [HK.out]; exact hlt) (by rw [HK.out]; show k = k * 1; omega) (Below.refl _ _) rfl, hbel.setCell (Nat.le_refl _) _⟩
      case measure => simp [intOf]; omega
    · have e : d.take k = d := List.take_of_length_le (by omega)
      rw [e] at HR
      clear e
      go_wp2
      go_ret
      exact ⟨_, rfl, HR.out.own, hbel⟩
end Go.Proofs.YtohcdpoffpnfhaaGreatDoor
