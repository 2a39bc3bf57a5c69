/- The draw of a text to be normalized; a number out of a code. -/
import Derived.Test.YtadbjpfgjkicaaaDraw1
import Derived.Test.YtadbjpfgjkicaaaText
namespace Go.Proofs.Ytadbjpfgjkicaaa
open Go.RowKit

theorem grown_fresh {w w1 w2 : World} {q : Nat} (h : w.grownBy w1 none) (g : w1.grownBy w2 (some q)) (hq : w.heap.size ≤ q) : w.grownBy w2 none :=
  ⟨g.os.trans h.os, g.tape.trans h.tape, g.output.trans h.output, Nat.le_trans h.size g.size, fun k hk _ => (g.block k (Nat.lt_of_lt_of_le hk h.size) (fun e => by have := Option.some.inj e; omega)).trans (h.block k hk (by simp))⟩
theorem grown_of_below {w w' : World} (h : Below w.heap.size w w') : w.grownBy w' none := ⟨h.os, h.tape, h.output, h.size, fun k hk _ => h.block k hk⟩
theorem below_of_grown {w w' : World} (h : w.grownBy w' none) : Below w.heap.size w w' := ⟨h.os, h.tape, h.output, h.size, fun k hk => h.block k hk (by simp)⟩
theorem Row.on {w w' : World} {ao : Option Addr} {len : Nat} (h : Row w w.heap.size ao len) (hg : w.grownBy w' none) : Row w' w'.heap.size ao len := by
  rcases h with h | ⟨b, off, h1, h2, h4⟩
  · exact .inl h
  · exact .inr ⟨b, off, h1, Nat.lt_of_lt_of_le h2 hg.size, fun j hj => by
      obtain ⟨v, hv, hv1⟩ := h4 j hj
      exact ⟨v, hg.cell hv (by simp), hv1⟩⟩
theorem Still.alloc {q : Nat} {w wr : World} (h : Still q w wr) (hq : q < w.heap.size) (C : Array Value) (T : TypeId) : Still q w (wr.alloc (.cells C T)) := h.later (g := none) (World.grownBy_alloc _ _ _) hq (fun k e => by cases e)

theorem zero_make (n : Nat) (hj : n ≤ 1000000) (W : World) :
    (Instr.makeSlice 22 (.int .i64 (n : Int)) (.int .i64 (n : Int))).run Try.prog W = .ok (.slice (some ⟨W.heap.size, 0, none⟩) n n) (W.alloc (.cells (madeCells #[.int .u8 0] n) 5)) :=
  run_make_row' (P := Try.prog) 22 5 (.int .u8 0) 1 Try.underlying22 Try.info5 rfl .i64 .i64 n (by omega) (by omega) W
theorem zero_at {W : World} {g n : Nat} (hh : W.heap[g]? = some (.cells (madeCells #[.int .u8 0] n) 5)) :
    (convert 22 9 (.slice (some ⟨g, 0, none⟩) n n)).run Try.prog W = .ok (.string ⟨(List.replicate n (0 : UInt8)).toArray⟩) W := by
  refine str22 _ ⟨g, 0, none⟩ n (List.replicate n 0) n (by simp) fun j hj => ?_
  rw [add_plain]
  unfold World.cell?
  rw [hh]
  simp at hj
  simp [madeCells, hj]
  rw [Nat.mod_one]; rfl
theorem zero_conv (n : Nat) (W : World) :
    (convert 22 9 (.slice (some ⟨W.heap.size, 0, none⟩) n n)).run Try.prog (W.alloc (.cells (madeCells #[.int .u8 0] n) 5)) = .ok (.string ⟨(List.replicate n (0 : UInt8)).toArray⟩) (W.alloc (.cells (madeCells #[.int .u8 0] n) 5)) := zero_at (heap_alloc_new W _)
theorem zero_conv_d (n : Nat) (W : World) :
    (convert 22 9 (.slice (some ⟨W.heap.size, 0, none⟩) n n)).run Try.prog (W.alloc (.cells (madeCells #[.int .u8 0] n) 5)).drew = .ok (.string ⟨(List.replicate n (0 : UInt8)).toArray⟩) (W.alloc (.cells (madeCells #[.int .u8 0] n) 5)).drew := by
  refine str22 _ ⟨W.heap.size, 0, none⟩ n (List.replicate n 0) n (by simp) fun j hj => ?_
  rw [add_plain]
  show (W.alloc (.cells (madeCells #[.int .u8 0] n) 5)).cell? _ = _
  rw [World.cell?_alloc_mark]
  simp at hj
  simp [madeCells, hj]
  rw [Nat.mod_one]; rfl
theorem zero_conv_o (n : Nat) (W : World) (C : Array Value) :
    (convert 22 9 (.slice (some ⟨W.heap.size, 0, none⟩) n n)).run Try.prog ((W.alloc (.cells (madeCells #[.int .u8 0] n) 5)).alloc (.cells C 9)) = .ok (.string ⟨(List.replicate n (0 : UInt8)).toArray⟩) ((W.alloc (.cells (madeCells #[.int .u8 0] n) 5)).alloc (.cells C 9)) := zero_at ((heap_alloc_old _ _ (r := W.heap.size) (by simp)).trans (heap_alloc_new W _))
theorem zero_conv_od (n : Nat) (W : World) (C : Array Value) :
    (convert 22 9 (.slice (some ⟨W.heap.size, 0, none⟩) n n)).run Try.prog ((W.alloc (.cells (madeCells #[.int .u8 0] n) 5)).alloc (.cells C 9)).drew = .ok (.string ⟨(List.replicate n (0 : UInt8)).toArray⟩) ((W.alloc (.cells (madeCells #[.int .u8 0] n) 5)).alloc (.cells C 9)).drew := zero_at (W := ((W.alloc (.cells (madeCells #[.int .u8 0] n) 5)).alloc (.cells C 9)).drew) ((heap_alloc_old _ _ (r := W.heap.size) (by simp)).trans (heap_alloc_new W _))
/-- behind a draw the zeros are as they were -/
theorem zero_after {q g n : Nat} {W W' : World} (hs : Still q W W') (hg : g ≠ q) (hh : W.heap[g]? = some (.cells (madeCells #[.int .u8 0] n) 5)) :
    (convert 22 9 (.slice (some ⟨g, 0, none⟩) n n)).run Try.prog W' = .ok (.string ⟨(List.replicate n (0 : UInt8)).toArray⟩) W' ∧ (convert 22 9 (.slice (some ⟨g, 0, none⟩) n n)).run Try.prog W'.drew = .ok (.string ⟨(List.replicate n (0 : UInt8)).toArray⟩) W'.drew :=
  have h : W'.heap[g]? = some (.cells (madeCells #[.int .u8 0] n) 5) := (hs.2.block g (Array.getElem?_eq_some_iff.1 hh).1 (fun e => hg (Option.some.inj e))).trans hh
  ⟨zero_at h, zero_at (W := W'.drew) h⟩
theorem Still.drew {q : Nat} {w wr : World} (h : Still q w wr) : Still q w wr.drew := ⟨h.1.same fun _ _ => rfl, grown_drew h.2⟩
theorem pick_from (q b n : Nat) (l : List ByteArray) (C : Array Value) (T : TypeId) (fr : Nat × Nat) (w0 W : World) (hs : Still q w0 W) (hb : b ≠ q) (hh : W.heap[b]? = some (.cells C T fr)) (hC : C = (l.map Value.string).toArray) (hl : l.length = n) (hn : 1 < n) (hn2 : n ≤ 100) :
    Calls Try.prog 55 #[.pointer (some ⟨q, 0, none⟩), .slice (some ⟨b, 0, none⟩) n n] W fun e w' => OneOf l e ∧ Still q w0 w' :=
  (pick_any q b n l C T fr W hs.1 hb hh hC hl hn hn2).mono fun _ _ h => ⟨h.1, hs.trans h.2⟩
theorem pick_both (q b n : Nat) (l : List ByteArray) (C : Array Value) (T : TypeId) (fr : Nat × Nat) (w0 W : World) (hs : Still q w0 W) (hb : b ≠ q) (hh : W.heap[b]? = some (.cells C T fr)) (hC : C = (l.map Value.string).toArray) (hl : l.length = n) (hn : 1 < n) (hn2 : n ≤ 100) :
    Calls Try.prog 55 #[.pointer (some ⟨q, 0, none⟩), .slice (some ⟨b, 0, none⟩) n n] W fun e w' => OneOf l e ∧ Still q w0 w' ∧ Still q W w' :=
  (pick_any q b n l C T fr W hs.1 hb hh hC hl hn hn2).mono fun _ _ h => ⟨h.1, hs.trans h.2, h.2⟩
theorem size_up (W : World) (o : Obj) : (W.alloc o).heap.size = W.heap.size + 1 := Array.size_push ..
theorem look_new (W : World) (o : Obj) (b : Nat) (hb : b = W.heap.size) : (W.alloc o).heap[b]? = some o := by subst hb; exact heap_alloc_new W o
theorem look_old (W : World) (o : Obj) (b : Nat) (x : Obj) (h : W.heap[b]? = some x) : (W.alloc o).heap[b]? = some x := (heap_alloc_old W o (r := b) (Array.getElem?_eq_some_iff.1 h).1).trans h
theorem zero_next {q g n : Nat} {W W' : World} (hs : Still q W W') (hg : g ≠ q) (hh : W.heap[g]? = some (.cells (madeCells #[.int .u8 0] n) 5)) :
    (convert 22 9 (.slice (some ⟨g, 0, none⟩) n n)).run Try.prog W' = .ok (.string ⟨(List.replicate n (0 : UInt8)).toArray⟩) W' := (zero_after hs hg hh).1
theorem drew_heap (W : World) : W.drew.heap = W.heap := rfl
theorem look_z1 (W : World) (o : Obj) : (W.alloc o).heap[W.heap.size]? = some o := heap_alloc_new W o
theorem look_z2 (W : World) (o x : Obj) : ((W.alloc o).alloc x).heap[W.heap.size]? = some o := look_old _ x _ o (heap_alloc_new W o)
theorem look_z3 (W : World) (o x : Obj) : ((W.alloc x).alloc o).heap[W.heap.size + 1]? = some o := look_new _ o _ (size_up W x).symm
/-- some string of at most n bytes -/
def TextTo (n : Nat) (e : Ending) : Prop := ∃ t : ByteArray, e = .returned (.string t) ∧ t.size ≤ n


set_option maxRecDepth 100000 in
set_option maxHeartbeats 1000000 in
theorem DrawNorm_any (ao : Option Addr) (len cap : Nat) (w : World) (hR : Row w w.heap.size ao len) (hl : len ≤ 1048576) :
    Calls Try.prog 16 #[.slice ao len cap] w fun e w' => TextTo 20 e ∧ w.grownBy w' none := by
  have HR := Lib.hid hR; clear hR
  go_enter Try.func16, Try.ntmps16
  go_wp2_with fail
  refine (l01Source_any ao len cap w HR.out hl).mono ?_
  rintro e w1 ⟨rfl, hg1, hw1⟩
  have HG1 := Lib.hid hg1; have HW1 := Lib.hid hw1; clear hg1 hw1
  go_wp2_with fail
  refine (one_any _ 8 w1 HG1.out (by decide) (by decide)).mono ?_
  rintro e w2 ⟨⟨b, rfl⟩, hs2⟩
  have HQ : Hid (w.heap.size < w1.heap.size) := Lib.hid HG1.out.lt
  have HS2 := Lib.hid hs2; clear hs2
  cases b
  · go_wp2_with fail
    have HSa := Lib.hid (HS2.out.alloc HQ.out #[.string ⟨#[]⟩, .string ⟨#[32, 32]⟩, .string ⟨#[65, 110, 110, 32, 32, 66, 32]⟩, .string ⟨#[32, 97, 90]⟩, .string ⟨#[120]⟩, .string ⟨#[97, 32, 98, 32, 32, 32, 99]⟩] 9)
    refine (pick_any w.heap.size w2.heap.size 6 [⟨#[]⟩, ⟨#[32, 32]⟩, ⟨#[65, 110, 110, 32, 32, 66, 32]⟩, ⟨#[32, 97, 90]⟩, ⟨#[120]⟩, ⟨#[97, 32, 98, 32, 32, 32, 99]⟩] _ _ _ _ HSa.out.1 (by have := HS2.out.1.lt; omega) (heap_alloc_new w2 _) rfl rfl (by decide) (by decide)).mono ?_
    rintro e w3 ⟨⟨t, ht, rfl⟩, hs3⟩
    have HS3 := Lib.hid (HSa.out.trans hs3)
    have ht' : t.size ≤ 7 := by
      clear hs3
      simp at ht
      rcases ht with rfl | rfl | rfl | rfl | rfl | rfl <;> decide
    clear hs3 ht HSa
    go_wp2_with fail
    have HSb := Lib.hid (HS3.out.alloc HQ.out #[.string ⟨#[]⟩, .string ⟨#[32]⟩, .string ⟨#[81]⟩] 9)
    refine (pick_any w.heap.size w3.heap.size 3 [⟨#[]⟩, ⟨#[32]⟩, ⟨#[81]⟩] _ _ _ _ HSb.out.1 (by have := HS3.out.1.lt; omega) (heap_alloc_new w3 _) rfl rfl (by decide) (by decide)).mono ?_
    rintro e w4 ⟨⟨u, hu, rfl⟩, hs4⟩
    have HS4 := Lib.hid (HSb.out.trans hs4)
    have hu' : u.size ≤ 7 := by
      clear hs4
      simp at hu
      rcases hu with rfl | rfl | rfl <;> decide
    clear hs4 hu HSb
    have hcat := cat t u (by omega)
    go_wp2
    go_ret
    exact ⟨⟨_, rfl, by simp; omega⟩, grown_fresh HW1.out HS4.out.2 (Nat.le_refl _)⟩
  · have hmk : ∀ W : World, (Instr.makeSlice 22 (.int .i64 3) (.int .i64 3)).run Try.prog W = .ok (.slice (some ⟨W.heap.size, 0, none⟩) 3 3) (W.alloc (.cells (madeCells #[.int .u8 0] 3) 5)) := fun W => zero_make 3 (by decide) W
    have hcv := zero_conv 3
    have hcd := zero_conv_d 3
    have hq2 : w.heap.size < w2.heap.size := HS2.out.1.lt
    have hne1 : w2.heap.size ≠ w.heap.size := by omega
    have hne2 : w2.heap.size + 1 ≠ w.heap.size := by omega
    have ct := fun t h => cat ⟨#[0, 0, 0]⟩ t (show _ ≤ 1000000000 from h)
    have hcv2 := zero_conv 3 (w2.alloc (.cells #[.string ⟨#[]⟩, .string ⟨#[97]⟩] 9))
    have hcd2 := zero_conv_d 3 (w2.alloc (.cells #[.string ⟨#[]⟩, .string ⟨#[97]⟩] 9))
    rw [size_up] at hcv2 hcd2
    have hco := zero_conv_o 3
    have hcod := zero_conv_od 3
    go_wp2_with fail
    go_region_with (first | (go_at_call 55; refine (pick_both w.heap.size _ 2 [⟨#[]⟩, ⟨#[97]⟩] #[.string ⟨#[]⟩, .string ⟨#[97]⟩] 9 (0, 0) w1 _ ?_ ?_ ?_ rfl rfl (by decide) (by decide)).mono ?_; (focus (repeat (first | exact HS2.out | refine Still.alloc ?_ HQ.out _ _ | refine Still.drew ?_))); (focus (first | omega | (simp; omega))); (focus (first | exact look_new w2 _ _ (by first | rfl | (simp; done)) | exact look_new (w2.alloc _) _ _ (by first | rfl | (simp; done)) | exact look_old (w2.alloc _) _ _ _ (look_new w2 _ _ (by first | rfl | (simp; done))))); rintro e w3 ⟨⟨t, ht, rfl⟩, hs3, hz3⟩; have HS3 := Lib.hid hs3; have hz4 := zero_next (g := w2.heap.size) (n := 3) hz3 hne1; have hz5 := zero_next (g := w2.heap.size + 1) (n := 3) hz3 hne2; (try simp only [drew_heap, look_z1, look_z2, look_z3, eq_self, true_implies, forall_const] at hz4); (try simp only [drew_heap, look_z1, look_z2, look_z3, eq_self, true_implies, forall_const] at hz5); have hc3 := ct t (by simp at ht; rcases ht with rfl | rfl <;> decide); clear hs3 hz3) | (fail "none"))
    all_goals
      go_wp2
      go_ret
      exact ⟨⟨_, rfl, by simp at ht; rcases ht with rfl | rfl <;> decide⟩, grown_fresh HW1.out (show Still _ w1 _ by (repeat (first | exact HS3.out | refine Still.alloc ?_ HQ.out _ _ | refine Still.drew ?_))).2 (Nat.le_refl _)⟩

set_option maxRecDepth 100000 in
set_option maxHeartbeats 1000000 in
theorem lwAt_zero (ao : Option Addr) (len cap : Nat) (x y : Int) (w : World) (hl : len ≤ 1048576) (h : y ≤ 1 ∨ len = 0) :
    Calls Try.prog 19 #[.slice ao len cap, .int .i64 x, .int .i64 y] w fun e w' => e = .returned (.int .i64 0) ∧ w = w' := by
  by_cases hy : y ≤ 1
  · go_enter Try.func19, Try.ntmps19
    go_wp2
    go_ret
    exact ⟨rfl, rfl⟩
  · have h0 : len = 0 := by omega
    subst h0
    go_enter Try.func19, Try.ntmps19
    go_wp2
    go_ret
    exact ⟨rfl, rfl⟩
set_option maxRecDepth 100000 in
set_option maxHeartbeats 1000000 in
theorem lwAt_row (b off len cap x : Nat) (y v : Int) (w : World) (hl : len ≤ 1048576) (hx : x ≤ 1000) (hy : 1 < y) (hy2 : y ≤ 1000000) (h0 : 0 < len) (hc : w.cell? ⟨b, off + x % len, none⟩ = some (.int .u8 v)) (hv0 : 0 ≤ v) (hv1 : v ≤ 255) :
    Calls Try.prog 19 #[.slice (some ⟨b, off, none⟩) len cap, .int .i64 x, .int .i64 y] w fun e w' => InRange y e ∧ w = w' := by
  have hz : ((len : Int) == 0) = false := by rw [beq_eq_false_iff_ne]; omega
  have hm : x % len < len := Nat.mod_lt _ h0
  go_enter Try.func19, Try.ntmps19
  go_wp2
  go_ret
  exact ⟨⟨_, rfl, Int.emod_nonneg v (by omega), Int.emod_lt_of_pos v (by omega)⟩, rfl⟩
theorem lwAt_any (q : Nat) (ao : Option Addr) (len cap x : Nat) (y : Int) (w : World) (hR : Row w q ao len) (hl : len ≤ 1048576) (hx : x ≤ 1000) (hy : 1 ≤ y) (hy2 : y ≤ 1000000) :
    Calls Try.prog 19 #[.slice ao len cap, .int .i64 x, .int .i64 y] w fun e w' => InRange y e ∧ w = w' := by
  by_cases h : y ≤ 1 ∨ len = 0
  · exact (lwAt_zero ao len cap x y w hl h).mono fun e w' ⟨he, hw⟩ => ⟨⟨0, he, by omega, by omega⟩, hw⟩
  · rcases hR with h0 | ⟨b, off, rfl, hb, hc⟩
    · omega
    · have h0 : 0 < len := by omega
      obtain ⟨v, hv, hv0, hv1⟩ := hc (x % len) (Nat.mod_lt _ h0)
      exact lwAt_row b off len cap x y v w hl hx (by omega) hy2 h0 hv hv0 hv1
end Go.Proofs.Ytadbjpfgjkicaaa
