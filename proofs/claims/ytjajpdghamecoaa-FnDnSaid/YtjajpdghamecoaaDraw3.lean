/- The draws of names: one pair. -/
import Derived.Test.YtjajpdghamecoaaDraw2
namespace Go.Proofs.Ytjajpdghamecoaa
open Go.RowKit

/-- some pair of short strings -/
def SomeRdn (e : Ending) : Prop := ∃ A V : ByteArray, e = .returned (.agg #[.string A, .string V]) ∧ A.size ≤ 41 ∧ V.size ≤ 41
theorem calls_any {P : Program} {f : Nat} {args : Array Value} {w : World} {Q : Ending → World → Prop} (R : World → Prop) (h : R w) (k : ∀ W, R W → Calls P f args W Q) : Calls P f args w Q := k w h
/-- a pair lies in block R -/
def PairAt (w : World) (R : Nat) (A V : ByteArray) : Prop := w.heap[R]? = some (.cells #[.string A, .string V] 61)
theorem PairAt.cells {w : World} {R : Nat} {A V : ByteArray} (h : PairAt w R A V) : (w.cell? ⟨R, 0, none⟩ = some (.string A) ∧ w.cell? ⟨R, 1, none⟩ = some (.string V)) ∧ (w.frozen? ⟨R, 0, none⟩ = false ∧ w.frozen? ⟨R, 1, none⟩ = false) := by
  refine ⟨⟨?_, ?_⟩, ⟨?_, ?_⟩⟩
  all_goals first | (unfold World.cell?; rw [h]; rfl) | (unfold World.frozen?; rw [h]; rfl)
theorem PairAt.lt {w : World} {R : Nat} {A V : ByteArray} (h : PairAt w R A V) : R < w.heap.size := (Array.getElem?_eq_some_iff.1 h).1
theorem PairAt.on {q : Nat} {w w' : World} {R : Nat} {A V : ByteArray} (h : PairAt w R A V) (hs : Still q w w') (hR : R ≠ q) : PairAt w' R A V := (hs.2.block R h.lt (fun e => hR (Option.some.inj e))).trans h
theorem PairAt.set {w : World} {R : Nat} {A V : ByteArray} (h : PairAt w R A V) (A' V' : ByteArray) : PairAt ((w.setCell ⟨R, 0, none⟩ (.string A')).setCell ⟨R, 1, none⟩ (.string V')) R A' V' := by
  unfold PairAt; rw [heap_set _ (heap_set _ h)]; rfl
theorem Still.set {q : Nat} {w wr : World} (h : Still q w wr) (hq : q < w.heap.size) {R j : Nat} (hR : w.heap.size ≤ R) (v : Value) : Still q w (wr.setCell ⟨R, j, none⟩ v) :=
  h.later (g := some R) (grown_set wr R j v) hq (fun k e => by have := Option.some.inj e; omega)

theorem look_y1 (W : World) (o x y : Obj) : (((W.alloc o).alloc x).alloc y).heap[W.heap.size]? = some o := look_old _ y _ o (look_z2 W o x)
theorem look_y2 (W : World) (o x y : Obj) : (((W.alloc x).alloc o).alloc y).heap[W.heap.size + 1]? = some o := look_old _ y _ o (look_z3 W o x)
theorem look_y3 (W : World) (o x y : Obj) : (((W.alloc x).alloc y).alloc o).heap[W.heap.size + 1 + 1]? = some o := look_new _ o _ (by rw [size_up, size_up])

/-- a row of n short texts -/
def Texts (C : Array Value) (n : Nat) : Prop := ∃ l : List ByteArray, C = (l.map Value.string).toArray ∧ l.length = n ∧ ∀ t ∈ l, t.size ≤ 41
theorem pick_gen (q b n : Nat) (C : Array Value) (T : TypeId) (fr : Nat × Nat) (w0 W : World) (hs : Still q w0 W) (hb : b ≠ q) (hh : W.heap[b]? = some (.cells C T fr)) (hC : Texts C n) (hn : 1 < n) (hn2 : n ≤ 100) :
    Calls Try.prog 55 #[.pointer (some ⟨q, 0, none⟩), .slice (some ⟨b, 0, none⟩) n n] W fun e w' => TextTo 41 e ∧ Still q w0 w' ∧ Still q W w' := by
  obtain ⟨l, h1, h2, h3⟩ := hC
  exact (pick_both q b n l C T fr w0 W hs hb hh h1 h2 hn hn2).mono fun e w' ⟨⟨t, ht, he⟩, h⟩ => ⟨⟨t, he, h3 t ht⟩, h⟩

set_option maxRecDepth 100000 in
set_option maxHeartbeats 30000000 in
theorem drawRdn_any (q : Nat) (w : World) (hg : Good w q) :
    Calls Try.prog 85 #[.pointer (some ⟨q, 0, none⟩)] w fun e w' => SomeRdn e ∧ Still q w w' := by
  have hq := hg.lt
  have HQ := Lib.hid hq
  have HS := Lib.hid (Still.refl hg); clear hg
  go_enter Try.func85, Try.ntmps85
  go_wp2_with fail
  refine (pick_both q _ 3 [⟨#[99, 110]⟩, ⟨#[111, 117]⟩, ⟨#[100, 99]⟩] _ 9 (0, 0) w _ ((HS.out.alloc hq _ _).alloc hq _ _) (by omega) (look_z3 w _ _) rfl rfl (by decide) (by decide)).mono ?_
  rintro e w1 ⟨⟨A, hA, rfl⟩, hs1, hk1⟩
  have HS1 := Lib.hid hs1
  have HP1 : Hid (PairAt w1 w.heap.size ⟨#[]⟩ ⟨#[]⟩) := Lib.hid (PairAt.on (look_z2 w _ _) hk1 (by omega))
  have hA' : A.size ≤ 41 := by
    clear hs1 hk1
    simp at hA
    rcases hA with rfl | rfl | rfl <;> decide
  clear hs1 hk1 hA
  go_wp2_with fail
  refine (pick_both q _ 9 [⟨#[97, 110, 110]⟩, ⟨#[65, 110, 110]⟩, ⟨#[98, 111, 98, 32, 32, 98]⟩, ⟨#[120]⟩, ⟨#[97, 44, 98]⟩, ⟨#[35, 49]⟩, ⟨#[32, 121, 32]⟩, ⟨#[61]⟩, ⟨#[92]⟩] _ 9 (0, 0) w _ (HS1.out.alloc hq _ _) (by have := HS1.out.1.lt; omega) (look_z1 w1 _) rfl rfl (by decide) (by decide)).mono ?_
  rintro e w2 ⟨⟨V, hV, rfl⟩, hs2, hk2⟩
  have HS2 := Lib.hid hs2
  have HP2 : Hid (PairAt w2 w.heap.size ⟨#[]⟩ ⟨#[]⟩) := Lib.hid (PairAt.on (look_old _ _ _ _ HP1.out) hk2 (by omega))
  have hV' : V.size ≤ 41 := by
    clear hs2 hk2
    simp at hV
    rcases hV with rfl | rfl | rfl | rfl | rfl | rfl | rfl | rfl | rfl <;> decide
  clear hs2 hk2 hV HP1 HS1
  go_wp2_with fail
  refine calls_any (fun W => Still q w W ∧ PairAt W w.heap.size ⟨#[]⟩ ⟨#[]⟩ ∧ PairAt W w2.heap.size A V) ⟨HS2.out.alloc hq _ _, look_old _ _ _ _ HP2.out, look_z1 w2 _⟩ ?_
  have hR : w.heap.size < w2.heap.size := HP2.out.lt
  generalize w2.heap.size = R at *
  clear HP2 HS2
  rintro W ⟨hsW, hpW, hrW⟩
  have HSW := Lib.hid hsW; have HPW := Lib.hid hpW; have HRW := Lib.hid hrW; clear hsW hpW hrW
  refine (one_any q 30 W HSW.out.1 (by decide) (by decide)).mono ?_
  rintro e w3 ⟨⟨b, rfl⟩, hs3⟩
  have HS3 := Lib.hid (HSW.out.trans hs3)
  have HP3 := Lib.hid (HPW.out.on hs3 (by omega))
  have HR3 := Lib.hid (HRW.out.on hs3 (by omega))
  clear hs3 HSW HPW HRW
  cases b
  · obtain ⟨⟨c0, c1⟩, ⟨f0, f1⟩⟩ := HR3.out.cells
    obtain ⟨⟨d0, d1⟩, ⟨g0, g1⟩⟩ := HP3.out.cells
    go_wp2
    refine bodyPost_ret (v := .agg #[.string A, .string V]) (by simp [results, Try.results85, go_sem, d0, d1]) rfl ⟨⟨A, V, rfl, hA', hV'⟩, ?_⟩
    exact (HS3.out.set hq (Nat.le_refl _) _).set hq (Nat.le_refl _) _
  · have hq3 : q < w3.heap.size := HS3.out.1.lt
    have HQ3 := Lib.hid hq3
    have HS4 := Lib.hid (Still.refl HS3.out.1)
    obtain ⟨Z, hZ, hZs⟩ : ∃ Z : ByteArray, Z = ⟨(List.replicate 41 (0 : UInt8)).toArray⟩ ∧ Z.size = 41 := ⟨_, rfl, rfl⟩
    have hmk : ∀ W : World, (Instr.makeSlice 22 (.int .i64 41) (.int .i64 41)).run Try.prog W = .ok (.slice (some ⟨W.heap.size, 0, none⟩) 41 41) (W.alloc (.cells (madeCells #[.int .u8 0] 41) 5)) := fun W => zero_make 41 (by decide) W
    have hcv := zero_conv 41
    have hcd := zero_conv_d 41
    have hco := zero_conv_o 41
    have hcod := zero_conv_od 41
    have hcv2 := zero_conv 41 (w3.alloc (.cells #[.string ⟨#[99, 110]⟩, .string ⟨#[65]⟩, .string ⟨#[]⟩] 9))
    have hcd2 := zero_conv_d 41 (w3.alloc (.cells #[.string ⟨#[99, 110]⟩, .string ⟨#[65]⟩, .string ⟨#[]⟩] 9))
    rw [size_up] at hcv2 hcd2
    have hne1 : w3.heap.size ≠ q := by omega
    have hne2 : w3.heap.size + 1 ≠ q := by omega
    have hne3 : w.heap.size ≠ q := by omega
    have hne4 : R ≠ q := by omega
    have ZN := fun (g : Nat) (W W' : World) => zero_next (q := q) (g := g) (n := 41) (W := W) (W' := W')
    rw [← hZ] at hcv2 hcd2
    simp only [← hZ] at hcv hcd hco hcod ZN
    clear hZ
    have HL3 : Hid (Texts #[.string ⟨#[99, 110]⟩, .string ⟨#[65]⟩, .string ⟨#[]⟩] 3) := Lib.hid ⟨[⟨#[99, 110]⟩, ⟨#[65]⟩, ⟨#[]⟩], rfl, rfl, by intro t ht; simp at ht; rcases ht with rfl | rfl | rfl <;> decide⟩
    have HL4 : Hid (Texts #[.string ⟨#[]⟩, .string ⟨#[32]⟩, .string ⟨#[10]⟩, .string Z] 4) := Lib.hid ⟨[⟨#[]⟩, ⟨#[32]⟩, ⟨#[10]⟩, Z], rfl, rfl, by intro t ht; simp at ht; rcases ht with rfl | rfl | rfl | rfl <;> first | decide | omega⟩
    clear hZs
    go_wp2_with fail
    go_region_with (first
      | (go_at_call 55; refine (pick_gen q _ _ ?_ ?_ ?_ w3 _ ?_ ?_ ?_ ?_ (by decide) (by decide)).mono ?_; rotate_left 5; (focus (first | exact look_z1 w3 _ | exact look_z2 w3 _ _ | exact look_z3 w3 _ _ | exact look_y1 w3 _ _ _ | exact look_y2 w3 _ _ _ | exact look_y3 w3 _ _ _ | exact look_z1 w4 _ | exact look_z3 w4 _ _ | (refine (HK4.out.2.block _ ?_ ?_).trans ?_; rotate_left 2; (focus (first | exact look_z1 w3 _ | exact look_z2 w3 _ _ | exact look_z3 w3 _ _ | exact look_y1 w3 _ _ _ | exact look_y2 w3 _ _ _ | exact look_y3 w3 _ _ _)); (focus (simp; done)); (focus (intro e; have := Option.some.inj e; omega))))); (focus (first | exact HL3.out | exact HL4.out)); rotate_left 1; (focus (repeat (first | exact HS4.out | refine Still.alloc ?_ HQ3.out _ _ | refine Still.drew ?_))); (focus (first | omega | (have := HS4.out.1.lt; omega) | (have := HS4.out.1.lt; simp; omega))); rintro e w4 ⟨⟨t, rfl, ht⟩, hs4, hk4⟩; have HS4 := Lib.hid hs4; have HK4 := Lib.hid hk4; obtain ⟨⟨c0, c1⟩, ⟨f0, f1⟩⟩ := (HR3.out.on hs4 hne4).cells; obtain ⟨⟨d0, d1⟩, ⟨g0, g1⟩⟩ := (HP3.out.on hs4 hne3).cells; have hz4 := ZN w3.heap.size _ _ hk4 hne1; have hz5 := ZN (w3.heap.size + 1) _ _ hk4 hne2; (try simp only [drew_heap, look_z1, look_z2, look_z3, look_y1, look_y2, look_y3, eq_self, true_implies, forall_const] at hz4); (try simp only [drew_heap, look_z1, look_z2, look_z3, look_y1, look_y2, look_y3, eq_self, true_implies, forall_const] at hz5); clear hs4 hk4)
      | (fail "none"))
    all_goals
      go_wp2
      refine bodyPost_ret (v := .agg #[.string _, .string _]) (by simp [results, Try.results85, go_sem, d0, d1]; first | done | exact ⟨rfl, rfl⟩) rfl ⟨⟨_, _, rfl, by assumption, by assumption⟩, ?_⟩
      exact ((((HS3.out.trans HS4.out).set hq (by omega) _).set hq (by omega) _).set hq (Nat.le_refl _) _).set hq (Nat.le_refl _) _
end Go.Proofs.Ytjajpdghamecoaa
