/- Merged texts: QuadT, RowT, SrtI, TyN, ClsR2, ClsR3, AclR, AclR2, NdR, ClJ, ClM, ClsB. -/
import Derived.Test.YtlgafmgohinkbaaM3
import Derived.Test.YtlgafmgohinkbaaM1
import Derived.Test.YtlgafmgohinkbaaM2
import Derived.Test.YtlgafmgohinkbaaM4
/- Blocks of two and of four cells. -/
namespace Go.Proofs.Ytlgafmgohinkbaa
open Go.RowKit

def Two (w : World) (g : Nat) (T : TypeId) (a b : Value) : Prop := w.heap[g]? = some (.cells #[a, b] T (0, 0))
theorem Two.cells {w : World} {g : Nat} {T : TypeId} {a b : Value} (h : Two w g T a b) : (w.cell? ⟨g, 0, none⟩ = some a ∧ w.cell? ⟨g, 1, none⟩ = some b) ∧ (w.frozen? ⟨g, 0, none⟩ = false ∧ w.frozen? ⟨g, 1, none⟩ = false) := by
  unfold Two at h
  refine ⟨⟨?_, ?_⟩, ?_, ?_⟩
  · rw [cell_of_row w g _ _ T (0, 0) h]; rfl
  · rw [cell_of_row w g _ _ T (0, 0) h]; rfl
  · simp [World.frozen?, h]
  · simp [World.frozen?, h]
theorem Two.lt {w : World} {g : Nat} {T : TypeId} {a b : Value} (h : Two w g T a b) : g < w.heap.size := (Array.getElem?_eq_some_iff.1 h).1
theorem Two.below {w w' : World} {g : Nat} {T : TypeId} {a b : Value} (h : Two w g T a b) (hb : Below w.heap.size w w') : Two w' g T a b := (hb.block g h.lt).trans h
theorem Two.set0 {w : World} {g : Nat} {T : TypeId} {a b : Value} (h : Two w g T a b) (v : Value) : Two (w.setCell ⟨g, 0, none⟩ v) g T v b := heap_set v h
theorem Two.set1 {w : World} {g : Nat} {T : TypeId} {a b : Value} (h : Two w g T a b) (v : Value) : Two (w.setCell ⟨g, 1, none⟩ v) g T a v := heap_set v h
theorem Two.far {w : World} {g R j : Nat} {T : TypeId} {a b : Value} (h : Two w g T a b) (hne : g ≠ R) (v : Value) : Two (w.setCell ⟨R, j, none⟩ v) g T a b := (Below.heap_setCell _ _ _ _ hne).trans h
theorem twoNew (w : World) (T : TypeId) (a b : Value) : Two (w.alloc (.cells #[a, b] T)) w.heap.size T a b := heap_alloc_new w _
theorem Two.alloc {w : World} {g : Nat} {T : TypeId} {a b : Value} (h : Two w g T a b) (o : Obj) : Two (w.alloc o) g T a b := (heap_alloc_old w o h.lt).trans h
def Quad (w : World) (g : Nat) (T : TypeId) (a b c d : Value) : Prop := w.heap[g]? = some (.cells #[a, b, c, d] T (0, 0))
theorem Quad.cells {w : World} {g : Nat} {T : TypeId} {a b c d : Value} (h : Quad w g T a b c d) : w.cell? ⟨g, 0, none⟩ = some a ∧ w.cell? ⟨g, 1, none⟩ = some b ∧ w.cell? ⟨g, 2, none⟩ = some c ∧ w.cell? ⟨g, 3, none⟩ = some d := by
  unfold Quad at h
  refine ⟨?_, ?_, ?_, ?_⟩ <;> (rw [cell_of_row w g _ _ T (0, 0) h]; rfl)
theorem Quad.soft {w : World} {g : Nat} {T : TypeId} {a b c d : Value} (h : Quad w g T a b c d) : w.frozen? ⟨g, 0, none⟩ = false ∧ w.frozen? ⟨g, 1, none⟩ = false ∧ w.frozen? ⟨g, 2, none⟩ = false ∧ w.frozen? ⟨g, 3, none⟩ = false := by
  unfold Quad at h
  refine ⟨?_, ?_, ?_, ?_⟩ <;> simp [World.frozen?, h]
theorem Quad.lt {w : World} {g : Nat} {T : TypeId} {a b c d : Value} (h : Quad w g T a b c d) : g < w.heap.size := (Array.getElem?_eq_some_iff.1 h).1
theorem Quad.below {w w' : World} {g : Nat} {T : TypeId} {a b c d : Value} (h : Quad w g T a b c d) (hb : Below w.heap.size w w') : Quad w' g T a b c d := (hb.block g h.lt).trans h
theorem Quad.set0 {w : World} {g : Nat} {T : TypeId} {a b c d : Value} (h : Quad w g T a b c d) (v : Value) : Quad (w.setCell ⟨g, 0, none⟩ v) g T v b c d := heap_set v h
theorem Quad.set1 {w : World} {g : Nat} {T : TypeId} {a b c d : Value} (h : Quad w g T a b c d) (v : Value) : Quad (w.setCell ⟨g, 1, none⟩ v) g T a v c d := heap_set v h
theorem Quad.set2 {w : World} {g : Nat} {T : TypeId} {a b c d : Value} (h : Quad w g T a b c d) (v : Value) : Quad (w.setCell ⟨g, 2, none⟩ v) g T a b v d := heap_set v h
theorem Quad.set3 {w : World} {g : Nat} {T : TypeId} {a b c d : Value} (h : Quad w g T a b c d) (v : Value) : Quad (w.setCell ⟨g, 3, none⟩ v) g T a b c v := heap_set v h
theorem Quad.far {w : World} {g R j : Nat} {T : TypeId} {a b c d : Value} (h : Quad w g T a b c d) (hne : g ≠ R) (v : Value) : Quad (w.setCell ⟨R, j, none⟩ v) g T a b c d := (Below.heap_setCell _ _ _ _ hne).trans h
theorem Quad.alloc {w : World} {g : Nat} {T : TypeId} {a b c d : Value} (h : Quad w g T a b c d) (o : Obj) : Quad (w.alloc o) g T a b c d := (heap_alloc_old w o h.lt).trans h
theorem quadNew (w : World) (T : TypeId) (a b c d : Value) : Quad (w.alloc (.cells #[a, b, c, d] T)) w.heap.size T a b c d := heap_alloc_new w _
end Go.Proofs.Ytlgafmgohinkbaa
/- Rows of texts that may be written; texts of one norm. -/
namespace Go.Proofs.Ytlgafmgohinkbaa
open Go.RowKit
attribute [local go_sem ↓] Go.wp_at_zero Go.wp_at_succ

/-- a block of texts, the first of them known -/
def RowS (w : World) (g n : Nat) (l : List ByteArray) : Prop := ∃ C : Array Value, w.heap[g]? = some (.cells C 9 (0, 0)) ∧ C.size = n ∧ ∀ i (h : i < l.length), C[i]? = some (.string l[i])
theorem RowS.at {w : World} {g n k : Nat} {l : List ByteArray} (h : RowS w g n l) (hk : k < n) : (∃ x, w.cell? ⟨g, k, none⟩ = some x) ∧ w.frozen? ⟨g, k, none⟩ = false := by
  obtain ⟨C, h1, h2, _⟩ := h
  refine ⟨⟨C[k]'(by omega), ?_⟩, ?_⟩
  · rw [cell_of_row w g _ C 9 (0, 0) h1]; exact Array.getElem?_eq_getElem (by omega)
  · simp [World.frozen?, h1]
theorem RowS.set {w : World} {g n k : Nat} {l : List ByteArray} (h : RowS w g n l) (hl : l.length = k) (hk : k < n) (s : ByteArray) : RowS (w.setCell ⟨g, k, none⟩ (.string s)) g n (l ++ [s]) := by
  obtain ⟨C, h1, h2, h3⟩ := h
  refine ⟨_, heap_set _ h1, by simp [h2], fun i hi => ?_⟩
  rw [Array.getElem?_setIfInBounds]
  by_cases e : k = i
  · subst e
    rw [if_pos rfl, if_pos (by omega), List.getElem_append_right (by omega)]
    simp
  · have hi' : i < l.length := by simp at hi; omega
    rw [if_neg e, List.getElem_append_left hi']
    exact h3 i hi'
theorem RowS.strs {w : World} {g n : Nat} {l : List ByteArray} (h : RowS w g n l) : StrsAt w (some ⟨g, 0, none⟩) l := by
  obtain ⟨C, h1, h2, h3⟩ := h
  refine .inr ⟨g, 0, rfl, (Array.getElem?_eq_some_iff.1 h1).1, fun i hi => ?_⟩
  rw [cell_of_row w g _ C 9 (0, 0) h1, Nat.zero_add]
  exact h3 i hi
/-- a block of n texts -/
def StrSh (w : World) (b n : Nat) : Prop := ∃ C : Array Value, w.heap[b]? = some (.cells C 9 (0, 0)) ∧ C.size = n
theorem RowS.sh {w : World} {g n : Nat} {l : List ByteArray} (h : RowS w g n l) : StrSh w g n := by obtain ⟨C, h1, h2, _⟩ := h; exact ⟨C, h1, h2⟩
theorem StrSh.lt {w : World} {b n : Nat} (h : StrSh w b n) : b < w.heap.size := by obtain ⟨C, h1, _⟩ := h; exact (Array.getElem?_eq_some_iff.1 h1).1
theorem RowS.below {w w' : World} {g n : Nat} {l : List ByteArray} (h : RowS w g n l) (hb : Below w.heap.size w w') : RowS w' g n l := by
  obtain ⟨C, h1, h2⟩ := h
  exact ⟨C, (hb.block g (Array.getElem?_eq_some_iff.1 h1).1).trans h1, h2⟩
theorem RowS.far {w : World} {g n R j : Nat} {l : List ByteArray} (h : RowS w g n l) (hne : g ≠ R) (v : Value) : RowS (w.setCell ⟨R, j, none⟩ v) g n l := by
  obtain ⟨C, h1, h2⟩ := h
  exact ⟨C, (Below.heap_setCell _ _ _ _ hne).trans h1, h2⟩
def normEq (x y : ByteArray) : Bool := (normS x).toList == (normS y).toList
set_option maxHeartbeats 1000000 in
theorem sameNorm_any (w0 : World) (a b : ByteArray) (w : World) (ha : a.size ≤ maxLen) (hb : b.size ≤ maxLen) (hB : Below w0.heap.size w0 w) :
    Calls Try.prog 224 #[.string a, .string b] w fun e w' => e = .returned (.bool (normEq a b)) ∧ Below w0.heap.size w0 w' := by
  have HE : Hid (normEq a b = ((normS a).toList == (normS b).toList)) := Lib.hid rfl
  have HN : Hid (∀ (s : ByteArray) W, s.size ≤ maxLen → Below w0.heap.size w0 W → Calls Try.prog 188 #[.string s] W fun e w' => e = .returned (.string (normS s)) ∧ Below w0.heap.size w0 w') :=
    Lib.hid (fun s W hs h => (Norm_any s W hs).mono fun _ _ g => ⟨g.1, h.trans (g.2.mono h.size)⟩)
  go_enter Try.func224, Try.ntmps224
  go_wp2_with (first
    | (go_at_call 188; refine (HN.out _ _ ha hB).mono ?_; rintro e w1 ⟨rfl, hb1⟩; clear hB)
    | (go_at_call 188; refine (HN.out _ _ hb hb1).mono ?_; rintro e w2 ⟨rfl, hb2⟩; clear hb1)
    | (fail "none"))
  go_ret
  exact ⟨ret_bool HE.out.symm, hb2⟩
end Go.Proofs.Ytlgafmgohinkbaa
/- Texts sorted, each once, in new memory. -/
namespace Go.Proofs.Ytlgafmgohinkbaa
open Go.RowKit
attribute [local go_sem ↓] Go.wp_at_zero Go.wp_at_succ

theorem own_zeroS (w : World) {B g : Nat} (hg : g = w.heap.size) (hB : B ≤ g) : (w.alloc (.cells #[] 9)).ownsRow B 9 1 (.slice (some ⟨g, 0, none⟩) 0 0) ([] : List ByteArray).length (ss []) := by
  subst hg
  exact ⟨rfl, .inr ⟨w.heap.size, 0, #[], rfl, hB, heap_alloc_new w _, by simp, by unfold maxLen; simp, rfl, rfl⟩⟩
theorem eqnilS (n c : Nat) (w : World) : (binOp .eql 29 (.slice none n c) (.slice none 0 0)).run Try.prog w = .ok (.bool true) w := by kernel_rfl
theorem eqsomeS (a : Addr) (n c : Nat) (w : World) : (binOp .eql 29 (.slice (some a) n c) (.slice none 0 0)).run Try.prog w = .ok (.bool false) w := by kernel_rfl
set_option maxRecDepth 100000 in
set_option maxHeartbeats 1000000 in
theorem cloneS_any (a : Addr) (V : List ByteArray) (vc : Nat) (w : World) (hv : StrsAt w (some a) V) (hl : V.length ≤ 100000000) :
    Calls Try.prog 134 #[.slice (some a) V.length vc] w (GivesV w V) := by
  have O1 := own_zeroS w (B := w.heap.size) rfl (Nat.le_refl _)
  have B1 := more (Below.refl w.heap.size w) (.cells #[] 9)
  have HV1 := hv.below B1
  have hlen : ([] : List ByteArray).length + V.length ≤ 1000000000 := by simp; omega
  have hs3 := B1.size
  have he := eqsomeS a V.length vc
  clear hv
  go_enter Try.func134, Try.ntmps134
  go_wp2_with (first
      | (at_builtin; refine append_strs w.heap.size rfl _ _ rfl _ [] rfl O1 (some a) V vc _ rfl rfl HV1 (fun e => by cases e) hlen hs3 B1 ?_; intro v4 w4 hown4 hbel4)
      | (fail "none"))
  go_ret
  exact ⟨⟨_, rfl, hown4⟩, hbel4⟩
/-- sorted texts in new memory -/
def GivesZ (w : World) (V : List ByteArray) (e : Ending) (w' : World) : Prop := (∃ (g cap : Nat) (zs : List (List UInt8)), e = .returned (.slice (some ⟨g, 0, none⟩) zs.length cap) ∧ zs.Perm (V.map bl) ∧ (∀ i j, i < j → j < zs.length → Op.bytesLess zs.toArray[j]! zs.toArray[i]! = false) ∧ w'.ownsRow w.heap.size 9 1 (.slice (some ⟨g, 0, none⟩) zs.length cap) zs.length (zs.map encStr)) ∧ Below w.heap.size w w'
set_option maxRecDepth 100000 in
set_option maxHeartbeats 1000000 in
theorem sorted_any (a : Addr) (V : List ByteArray) (vc : Nat) (w : World) (hv : StrsAt w (some a) V) (hl : V.length ≤ 100000000) (h0 : 0 < V.length) :
    Calls Try.prog 78 #[.slice (some a) V.length vc, .func (.func 79) #[] #[]] w (GivesZ w V) := by
  have HV := Lib.hid hv; clear hv
  go_enter Try.func78, Try.ntmps78
  go_wp2_with fail
  refine (cloneS_any a V vc w HV.out hl).mono ?_
  rintro e w1 ⟨⟨v, rfl, o1⟩, b1⟩
  obtain ⟨g, cp, hv, _, _⟩ := o1.form h0
  subst hv
  have O1 := Lib.hid o1; clear o1
  go_wp2_with fail
  refine (sortS_any w.heap.size g cp V w1 O1.out hl).mono ?_
  rintro e w2 ⟨rfl, ⟨zs, hp, hs, o2⟩, hg⟩
  have hzl : zs.length = V.length := by rw [hp.length_eq]; simp
  have B2 : Hid (Below w.heap.size w w2) := Lib.hid (b1.grown hg b1.size (fun k hk => by injection hk with hk; subst hk; exact (O1.out.lt g rfl).1))
  have HF : Hid (∃ zs : List (List UInt8), zs.length = V.length ∧ zs.Perm (V.map bl) ∧ (∀ i j, i < j → j < zs.length → Op.bytesLess zs.toArray[j]! zs.toArray[i]! = false) ∧ w2.ownsRow w.heap.size 9 1 (.slice (some ⟨g, 0, none⟩) zs.length cp) zs.length (zs.map encStr)) := Lib.hid ⟨zs, hzl, hp, hs, o2⟩
  clear hp hs o2 hg b1 O1 hzl
  go_wp2
  go_ret
  obtain ⟨zs, hzl, hp, hs, o2⟩ := HF.out
  exact ⟨⟨g, cp, zs, by rw [hzl]; rfl, hp, hs, o2⟩, B2.out⟩
theorem sb_bl (s : ByteArray) : sb (bl s) = s := rfl
/-- what is sorted, and each once -/
theorem sorted_set {V : List ByteArray} {zs : List (List UInt8)} (hp : zs.Perm (V.map bl)) (hs : ∀ i j, i < j → j < zs.length → Op.bytesLess zs.toArray[j]! zs.toArray[i]! = false) : (Lib.compact zs).map sb = putAll [] V := by
  obtain ⟨h1, h2⟩ := compact_ok zs.toArray (by simpa using hs) zs.length (by simp)
  refine set_of ?_ ?_
  · unfold Inc
    rw [List.pairwise_map]
    refine h1.imp fun {a b} h => ?_
    unfold strLt sb
    rw [ByteArray.toList_eq, ByteArray.toList_eq]
    exact h
  · intro y
    have hm : ∀ z, z ∈ Lib.compact zs ↔ z ∈ zs := by
      intro z
      unfold Lib.compact
      rw [h2]
      constructor
      · rintro ⟨j, hj, rfl⟩
        have : zs.toArray[j]! = zs[j] := by simp [hj]
        rw [this]; exact List.getElem_mem hj
      · intro hz
        obtain ⟨i, hi, rfl⟩ := List.getElem_of_mem hz
        exact ⟨i, hi, by simp [hi]⟩
    rw [List.mem_map]
    constructor
    · rintro ⟨z, hz, rfl⟩
      have h3 := hp.mem_iff.1 ((hm z).1 hz)
      obtain ⟨s, hs', rfl⟩ := List.mem_map.1 h3
      rw [sb_bl]; exact hs'
    · intro hy
      refine ⟨bl y, (hm _).2 (hp.mem_iff.2 (List.mem_map_of_mem hy)), sb_bl y⟩
end Go.Proofs.Ytlgafmgohinkbaa
/- The shape of a node lies with the others. -/
/- SchemaRight: classes in order. -/
namespace Go.Proofs.Ytlgafmgohinkbaa
open Go.RowKit
attribute [local go_sem ↓] Go.wp_at_zero Go.wp_at_succ

def clsLt (x y : ClassV) : Bool := Op.bytesLess x.nm.toList y.nm.toList
def IsSl (v : Value) : Prop := ∃ o n c, v = .slice o n c
theorem SlV.sl {w : World} {v : Value} {l : List ByteArray} (h : SlV w v l) : IsSl v := by obtain ⟨vo, vc, rfl, _⟩ := h; exact ⟨_, _, _, rfl⟩
set_option maxHeartbeats 1000000 in
theorem compareClass_any (w0 : World) (x y : ClassV) (v1 v2 v3 u1 u2 u3 : Value) (w : World) (i1 : IsSl v1) (i2 : IsSl v2) (i3 : IsSl v3) (j1 : IsSl u1) (j2 : IsSl u2) (j3 : IsSl u3) (hBel : Below w0.heap.size w0 w) :
    Calls Try.prog 159 #[.agg #[.string x.nm, v1, v2, v3], .agg #[.string y.nm, u1, u2, u3]] w fun e w' => (∃ c : Int, e = .returned (.int .i64 c) ∧ decide (0 ≤ c) = !(clsLt x y)) ∧ Below w0.heap.size w0 w' := by
  obtain ⟨_, _, _, rfl⟩ := i1
  obtain ⟨_, _, _, rfl⟩ := i2
  obtain ⟨_, _, _, rfl⟩ := i3
  obtain ⟨_, _, _, rfl⟩ := j1
  obtain ⟨_, _, _, rfl⟩ := j2
  obtain ⟨_, _, _, rfl⟩ := j3
  have HC : Hid (decide (0 ≤ Lib.compareBytes x.nm.data.toList y.nm.data.toList) = !(clsLt x y)) := Lib.hid (by rw [compare_less]; unfold clsLt; rw [Lib.toList_data, Lib.toList_data])
  have HB := Lib.hid hBel; clear hBel
  generalize clsLt x y = r at *
  generalize x.nm = a at *
  generalize y.nm = b at *
  go_enter Try.func159, Try.ntmps159
  go_wp2_with (first
    | (go_at_call 79; refine (Try.strings_Compare _ _ _).mono ?_; rintro e w3 ⟨rfl, rfl⟩)
    | (fail "none"))
  go_ret
  exact ⟨⟨_, rfl, HC.out⟩, more (more HB.out _) _⟩
set_option maxRecDepth 100000 in
set_option maxHeartbeats 2000000 in
theorem incClass_any (ao : Option Addr) (l : List ClassV) (cap : Nat) (w : World) (hd : ClassesAt w ao l) (hl : l.length ≤ 1048576) :
    Calls Try.prog 158 #[.slice ao l.length cap, .func (.func 159) #[] #[]] w fun e w' => e = .returned (.bool (incB clsLt l)) ∧ Below w.heap.size w w' := by
  have HD := Lib.hid hd; clear hd
  go_enter Try.func158, Try.ntmps158
  go_wp2
  go_loopw [5] (fun i wr => ∃ m : Nat, m ≤ l.length ∧ i = .int .i64 ((m : Int) + 1) ∧ (∀ j (h : j + 1 < l.length), j < m → clsLt l[j] l[j + 1] = true) ∧ Below w.heap.size w wr) (fun i _ => l.length + 1 - (intOf i).toNat)
  case atStart => exact ⟨0, Nat.zero_le _, rfl, fun j _ h => absurd h (Nat.not_lt_zero _), Below.refl _ _⟩
  case round =>
    obtain ⟨m, hm, rfl, ha, hbel⟩ := hrel
    have Ha := Lib.hid ha; clear ha
    have hsz := hbel.size
    by_cases hlt : m + 1 < l.length
    · have hm0 : m < l.length := by omega
      obtain ⟨b, off, v1, v2, v3, rfl, hw0, hx⟩ := HD.out.at hm0
      obtain ⟨b', off', u1, u2, u3, e, _, hy⟩ := HD.out.at hlt
      cases e
      obtain ⟨d0, d1, d2, d3, s1, s2, s3⟩ := hx
      obtain ⟨e0, e1, e2, e3, t1, t2, t3⟩ := hy
      have g1 : (m : Int) + 1 < (l.length : Int) := by omega
      have g2 : (0 : Int) ≤ (m : Int) := by omega
      have g3 : (m : Int) < (l.length : Int) := by omega
      have g4 : (0 : Int) ≤ (m : Int) + 1 := by omega
      have HN : Hid (∀ j (h : j + 1 < l.length), j < m + 1 → clsLt l[m] l[m + 1] = true → clsLt l[j] l[j + 1] = true) := Lib.hid (fun j h hj hn => by
        by_cases e : j = m
        · subst e; exact hn
        · exact Ha.out j h (by omega))
      have HX : Hid (clsLt l[m] l[m + 1] = false → incB clsLt l = false) := Lib.hid (fun h => incB_no hlt h)
      generalize hx : l[m] = X at *
      generalize hy : l[m + 1] = Y at *
      clear hx hy
      have CC : Hid (∀ W : World, Below w.heap.size w W → Calls Try.prog 159 #[.agg #[.string X.nm, v1, v2, v3], .agg #[.string Y.nm, u1, u2, u3]] W fun e w' => (∃ c : Int, e = .returned (.int .i64 c) ∧ decide (0 ≤ c) = !(clsLt X Y)) ∧ Below w.heap.size w w') := Lib.hid (fun W h => compareClass_any w X Y v1 v2 v3 u1 u2 u3 W s1.sl s2.sl s3.sl t1.sl t2.sl t3.sl h)
      clear s1 s2 s3 t1 t2 t3
      have SK : Hid (∀ W : World, Below w.heap.size w W → (Below w.heap.size w W ∧ (W.cell? ⟨b, off + m * 4, none⟩ = some (.string X.nm) ∧ W.cell? ⟨b, off + m * 4 + 1, none⟩ = some v1 ∧ W.cell? ⟨b, off + m * 4 + 2, none⟩ = some v2 ∧ W.cell? ⟨b, off + m * 4 + 3, none⟩ = some v3) ∧ (W.cell? ⟨b, off + (m + 1) * 4, none⟩ = some (.string Y.nm) ∧ W.cell? ⟨b, off + (m + 1) * 4 + 1, none⟩ = some u1 ∧ W.cell? ⟨b, off + (m + 1) * 4 + 2, none⟩ = some u2 ∧ W.cell? ⟨b, off + (m + 1) * 4 + 3, none⟩ = some u3))) :=
        Lib.hid (fun W h => ⟨h, ⟨(h.cell (p := ⟨b, _, none⟩) hw0).trans d0, (h.cell (p := ⟨b, _, none⟩) hw0).trans d1, (h.cell (p := ⟨b, _, none⟩) hw0).trans d2, (h.cell (p := ⟨b, _, none⟩) hw0).trans d3⟩, ⟨(h.cell (p := ⟨b, _, none⟩) hw0).trans e0, (h.cell (p := ⟨b, _, none⟩) hw0).trans e1, (h.cell (p := ⟨b, _, none⟩) hw0).trans e2, (h.cell (p := ⟨b, _, none⟩) hw0).trans e3⟩⟩)
      have hbd := hbel.drew
      have hwr : IntKind.i64.wrap (m : Int) = (m : Int) := IntWalk.i64_in _ (by omega)
      have hwr2 : IntKind.i64.wrap ((m : Int) + 1 - 1) = (m : Int) := by rw [Int.add_sub_cancel]; exact hwr
      clear d0 d1 d2 d3 e0 e1 e2 e3
      cases hn : clsLt X Y
      · have HX' := Lib.hid (HX.out hn)
        go_wp2_with fail
        go_region_held3 (fun W => Below w.heap.size w W ∧ (W.cell? ⟨b, off + m * 4, none⟩ = some (.string X.nm) ∧ W.cell? ⟨b, off + m * 4 + 1, none⟩ = some v1 ∧ W.cell? ⟨b, off + m * 4 + 2, none⟩ = some v2 ∧ W.cell? ⟨b, off + m * 4 + 3, none⟩ = some v3) ∧ (W.cell? ⟨b, off + (m + 1) * 4, none⟩ = some (.string Y.nm) ∧ W.cell? ⟨b, off + (m + 1) * 4 + 1, none⟩ = some u1 ∧ W.cell? ⟨b, off + (m + 1) * 4 + 2, none⟩ = some u2 ∧ W.cell? ⟨b, off + (m + 1) * 4 + 3, none⟩ = some u3))
          (exact SK.out _ (by assumption))
          (first | (go_at_call 159; refine (CC.out _ (by assumption)).mono ?_; rintro e w1 ⟨⟨c, rfl, hc⟩, hb1⟩; rw [hn] at hc; have hc0 : 0 ≤ c := (by simpa using hc); clear hc) | (fail "none"))
        all_goals
          go_wp2
          go_ret
          exact ⟨ret_bool (by rw [HX'.out]), hb1⟩
      · skip
        go_wp2_with fail
        go_region_held3 (fun W => Below w.heap.size w W ∧ (W.cell? ⟨b, off + m * 4, none⟩ = some (.string X.nm) ∧ W.cell? ⟨b, off + m * 4 + 1, none⟩ = some v1 ∧ W.cell? ⟨b, off + m * 4 + 2, none⟩ = some v2 ∧ W.cell? ⟨b, off + m * 4 + 3, none⟩ = some v3) ∧ (W.cell? ⟨b, off + (m + 1) * 4, none⟩ = some (.string Y.nm) ∧ W.cell? ⟨b, off + (m + 1) * 4 + 1, none⟩ = some u1 ∧ W.cell? ⟨b, off + (m + 1) * 4 + 2, none⟩ = some u2 ∧ W.cell? ⟨b, off + (m + 1) * 4 + 3, none⟩ = some u3))
          (exact SK.out _ (by assumption))
          (first | (go_at_call 159; refine (CC.out _ (by assumption)).mono ?_; rintro e w1 ⟨⟨c, rfl, hc⟩, hb1⟩; rw [hn] at hc; have hc0 : ¬ 0 ≤ c := (by simpa using hc); clear hc) | (fail "none"))
        all_goals
          go_wp2
          go_roundw
          case rel => exact ⟨m + 1, by omega, by go_num, fun j h hj => HN.out j h hj hn, hb1⟩
          case measure => simp [intOf]; omega
    · have HT : Hid (incB clsLt l = true) := Lib.hid (incB_yes fun j h => Ha.out j h (by omega))
      have g1 : ¬ (m : Int) + 1 < (l.length : Int) := by omega
      go_wp2
      go_ret
      exact ⟨ret_bool (by rw [HT.out]), hbel⟩
end Go.Proofs.Ytlgafmgohinkbaa
/- Names among others: what slices.Contains and the specification's look-up return. -/
namespace Go.Proofs.Ytlgafmgohinkbaa
open Go.RowKit
attribute [local go_sem ↓] Go.wp_at_zero Go.wp_at_succ

def hasS (l : List ByteArray) (x : ByteArray) : Bool := l.any fun y => y.toList == x.toList
theorem hasS_yes {l : List ByteArray} {x : ByteArray} {k : Nat} (hk : k < l.length) (h : (l[k].toList == x.toList) = true) : hasS l x = true := by
  unfold hasS
  rw [List.any_eq_true]
  exact ⟨l[k], List.getElem_mem hk, h⟩
theorem hasS_no {l : List ByteArray} {x : ByteArray} (h : ∀ j (h : j < l.length), (l[j].toList == x.toList) = false) : hasS l x = false := by
  unfold hasS
  rw [List.any_eq_false]
  intro y hy
  obtain ⟨i, hi, rfl⟩ := List.getElem_of_mem hy
  rw [h i hi]; simp
theorem beq_swap (a b : ByteArray) : (a.toList == b.toList) = (b.toList == a.toList) := by
  rw [Bool.eq_iff_iff]; simp only [beq_iff_eq]; exact ⟨Eq.symm, Eq.symm⟩
set_option maxRecDepth 100000 in
set_option maxHeartbeats 1000000 in
theorem index_any (ao : Option Addr) (l : List ByteArray) (cap : Nat) (x : ByteArray) (w : World) (hd : StrsAt w ao l) (hl : l.length ≤ 10000000) :
    Calls Try.prog 230 #[.slice ao l.length cap, .string x] w fun e w' => (∃ n : Int, e = .returned (.int .i64 n) ∧ decide (0 ≤ n) = hasS l x) ∧ w' = w := by
  have HD := Lib.hid hd; clear hd
  go_enter Try.func230, Try.ntmps230
  go_wp2
  go_loopw [5, 8] (fun _ i wr => ∃ k : Nat, k ≤ l.length ∧ i = .int .i64 k ∧ (∀ j (h : j < l.length), j < k → (l[j].toList == x.toList) = false) ∧ wr = w) (fun _ i _ => l.length - (intOf i).toNat)
  case atStart => exact ⟨0, Nat.zero_le _, rfl, fun j _ h => absurd h (Nat.not_lt_zero _), by trivial⟩
  case round =>
    obtain ⟨k, hk, rfl, ha, rfl⟩ := hrel
    have Ha := Lib.hid ha; clear ha
    by_cases hlt : k < l.length
    · obtain ⟨b, off, rfl, hb0, hc1⟩ := HD.out.at hlt
      have HY : Hid ((l[k].toList == x.toList) = true → hasS l x = true) := Lib.hid (fun h => hasS_yes hlt h)
      have HN : Hid ((l[k].toList == x.toList) = false → ∀ j (h : j < l.length), j < k + 1 → (l[j].toList == x.toList) = false) := Lib.hid (fun hn j h hj => by
        by_cases e : j = k
        · subst e; exact hn
        · exact Ha.out j h (by omega))
      generalize l[k] = A at *
      have hsw := beq_swap x A
      cases hq : (A.toList == x.toList)
      · rw [hq] at hsw
        have HN' := Lib.hid (HN.out hq)
        go_wp2
        go_roundw
        case rel => exact ⟨k + 1, by omega, by go_num, HN'.out, trivial⟩
        case measure => simp [intOf]; omega
      · rw [hq] at hsw
        have HY' := Lib.hid (HY.out hq)
        go_wp2
        go_ret
        exact ⟨⟨_, rfl, by rw [HY'.out]; exact decide_eq_true (by omega)⟩, rfl⟩
    · have HN' : Hid (hasS l x = false) := Lib.hid (hasS_no fun j h => Ha.out j h (by omega))
      go_wp2
      go_ret
      exact ⟨⟨_, rfl, by rw [HN'.out]; rfl⟩, rfl⟩
set_option maxHeartbeats 1000000 in
theorem contains_any (ao : Option Addr) (l : List ByteArray) (cap : Nat) (x : ByteArray) (w : World) (hd : StrsAt w ao l) (hl : l.length ≤ 10000000) :
    Calls Try.prog 197 #[.slice ao l.length cap, .string x] w fun e w' => e = .returned (.bool (hasS l x)) ∧ w' = w := by
  have HD := Lib.hid hd; clear hd
  go_enter Try.func197, Try.ntmps197
  go_wp2_with fail
  refine (index_any ao l cap x w HD.out hl).mono ?_
  rintro e w' ⟨⟨n, rfl, hn⟩, rfl⟩
  have HN := Lib.hid hn; clear hn
  by_cases h : 0 ≤ n
  · have HR : Hid (hasS l x = true) := Lib.hid (by rw [← HN.out]; exact decide_eq_true h)
    go_wp2
    go_ret
    exact ⟨ret_bool (by rw [HR.out]), rfl⟩
  · have HR : Hid (decide (0 ≤ n) = hasS l x) := HN
    go_wp2
    go_ret
    exact ⟨ret_bool HR.out, rfl⟩
set_option maxRecDepth 100000 in
set_option maxHeartbeats 1000000 in
theorem l04Has_any (ao : Option Addr) (l : List ByteArray) (cap : Nat) (x : ByteArray) (w : World) (hd : StrsAt w ao l) (hl : l.length ≤ 10000000) :
    Calls Try.prog 169 #[.slice ao l.length cap, .string x] w fun e w' => e = .returned (.bool (hasS l x)) ∧ w' = w := by
  have HD := Lib.hid hd; clear hd
  go_enter Try.func169, Try.ntmps169
  go_wp2
  go_loopw [5] (fun i wr => ∃ k : Nat, k ≤ l.length ∧ i = .int .i64 k ∧ (∀ j (h : j < l.length), j < k → (l[j].toList == x.toList) = false) ∧ wr = w) (fun i _ => l.length - (intOf i).toNat)
  case atStart => exact ⟨0, Nat.zero_le _, rfl, fun j _ h => absurd h (Nat.not_lt_zero _), by trivial⟩
  case round =>
    obtain ⟨k, hk, rfl, ha, rfl⟩ := hrel
    have Ha := Lib.hid ha; clear ha
    by_cases hlt : k < l.length
    · obtain ⟨b, off, rfl, hb0, hc1⟩ := HD.out.at hlt
      have HY : Hid ((l[k].toList == x.toList) = true → hasS l x = true) := Lib.hid (fun h => hasS_yes hlt h)
      have HN : Hid ((l[k].toList == x.toList) = false → ∀ j (h : j < l.length), j < k + 1 → (l[j].toList == x.toList) = false) := Lib.hid (fun hn j h hj => by
        by_cases e : j = k
        · subst e; exact hn
        · exact Ha.out j h (by omega))
      generalize l[k] = A at *
      cases hq : (A.toList == x.toList)
      · have HN' := Lib.hid (HN.out hq)
        go_wp2
        go_roundw
        case rel => exact ⟨k + 1, by omega, by go_num, HN'.out, trivial⟩
        case measure => simp [intOf]; omega
      · have HY' := Lib.hid (HY.out hq)
        go_wp2
        go_ret
        exact ⟨ret_bool (by rw [HY'.out]), rfl⟩
    · have HN' : Hid (hasS l x = false) := Lib.hid (hasS_no fun j h => Ha.out j h (by omega))
      go_wp2
      go_ret
      exact ⟨ret_bool (by rw [HN'.out]), rfl⟩
/-- those of the names that are not among the others -/
def besideV (l m : List ByteArray) : List ByteArray := l.filter fun x => !(hasS m x)
theorem besideV_succ (l m : List ByteArray) (k : Nat) (h : k < l.length) : besideV (l.take (k + 1)) m = besideV (l.take k) m ++ (if hasS m l[k] then [] else [l[k]]) := by
  unfold besideV
  rw [List.take_succ_eq_append_getElem h, List.filter_append]
  congr 1
  cases hq : hasS m l[k] <;> simp [hq]
theorem besideV_len (l m : List ByteArray) (k : Nat) : (besideV (l.take k) m).length ≤ l.length := by
  unfold besideV
  exact Nat.le_trans (List.length_filter_le _ _) (by rw [List.length_take]; omega)
set_option maxRecDepth 100000 in
set_option maxHeartbeats 2000000 in
theorem beside_any (ao bo : Option Addr) (l m : List ByteArray) (ca cb : Nat) (w : World) (hd : StrsAt w ao l) (he : StrsAt w bo m) (hl : l.length ≤ 1048576) (hm : m.length ≤ 10000000) :
    Calls Try.prog 196 #[.slice ao l.length ca, .slice bo m.length cb] w (GivesV w (besideV l m)) := by
  have HD := Lib.hid hd; have HE := Lib.hid he; clear hd he
  go_enter Try.func196, Try.ntmps196
  go_wp2_with fail
  go_loopw [5, 10] (fun v i wr => ∃ k : Nat, k ≤ l.length ∧ i = .int .i64 k ∧ wr.ownsRow w.heap.size 9 1 v (besideV (l.take k) m).length (ss (besideV (l.take k) m)) ∧ Below w.heap.size w wr) (fun _ i _ => l.length - (intOf i).toNat)
  case atStart => exact ⟨0, Nat.zero_le _, rfl, ⟨rfl, .inl ⟨rfl, rfl⟩⟩, Below.refl _ _⟩
  case round =>
    obtain ⟨k, hk, rfl, hown, hbel⟩ := hrel
    have hsz := hbel.size
    by_cases hlt : k < l.length
    · obtain ⟨p, off, rfl, hp0, hd1⟩ := HD.out.at hlt
      have c1 := (hbel.cell (p := ⟨p, off + k, none⟩) hp0).trans hd1
      have HN := Lib.hid (besideV_succ l m k hlt)
      have HL : Hid ((besideV (l.take k) m).length ≤ 1000000000) := Lib.hid (by have := besideV_len l m k; omega)
      have HE' := Lib.hid (HE.out.below hbel)
      have g1 : (0 : Int) ≤ (k : Int) := by omega
      have g2 : (k : Int) < (l.length : Int) := by omega
      clear hd1
      generalize l[k] = x at *
      generalize besideV (l.take k) m = pre at *
      cases hq : hasS m x
      · rw [hq] at HN
        go_wp2_with (first
          | (go_at_call 197; refine (contains_any bo m cb x wr HE'.out hm).mono ?_; rintro e w3 ⟨rfl, rfl⟩; rw [hq])
          | (at_builtin; refine append_str w.heap.size rfl _ _ rfl _ pre rfl hown _ rfl HL.out hsz hbel ?_; intro v4 w4 hown4 hbel4 hsz4 _ _)
          | (fail "none"))
        go_roundw
        case rel => exact ⟨k + 1, by omega, by go_num, by rw [HN.out]; exact hown4, hbel4⟩
        case measure => simp [intOf]; omega
      · rw [hq] at HN
        go_wp2_with (first
          | (go_at_call 197; refine (contains_any bo m cb x wr HE'.out hm).mono ?_; rintro e w3 ⟨rfl, rfl⟩; rw [hq])
          | (fail "none"))
        go_roundw
        case rel => exact ⟨k + 1, by omega, by go_num, by rw [HN.out]; simpa using hown, hbel⟩
        case measure => simp [intOf]; omega
    · obtain rfl : k = l.length := by omega
      have HO : Hid (wr.ownsRow w.heap.size 9 1 u5 (besideV l m).length (ss (besideV l m))) := Lib.hid (by have h := hown; rw [List.take_length] at h; exact h)
      clear hown
      go_wp2
      go_ret
      exact ⟨⟨_, rfl, HO.out⟩, hbel⟩
end Go.Proofs.Ytlgafmgohinkbaa
/- Access control: which rules are right: the program. -/
namespace Go.Proofs.Ytlgafmgohinkbaa
open Go.RowKit
attribute [local go_sem ↓] Go.wp_at_zero Go.wp_at_succ

def starB (s : ByteArray) : Bool := s.toList == [42]
def rtB (r : Int) : Bool := decide (1 ≤ r) && decide (r ≤ 4)
noncomputable def ruleB (x : RuleT) : Bool := (starB x.1 || nmL x.1) && (decide (x.2.2.1.length ≤ 8) && namesB x.2.2.1) && (dnB x.2.1 && rtB x.2.2.2.1)
noncomputable def aclB (l : List RuleT) : Bool := decide (l.length ≤ 10) && l.all ruleB
theorem isRight_any (r : Int) (w : World) : Calls Try.prog 166 #[.int .i64 r] w fun e w' => e = .returned (.bool (rtB r)) ∧ w' = w := by
  by_cases h1 : 1 ≤ r
  · by_cases h2 : r ≤ 4
    all_goals
      go_enter Try.func166, Try.ntmps166
      go_wp2
      go_ret
      exact ⟨ret_bool (by simp [rtB, h1, h2]), rfl⟩
  · go_enter Try.func166, Try.ntmps166
    go_wp2
    go_ret
    exact ⟨ret_bool (by simp [rtB, h1]; omega), rfl⟩
set_option maxRecDepth 100000 in
set_option maxHeartbeats 4000000 in
theorem ruleRight_any {S : Bs} (a0 : ByteArray) (a1 : List RdnT) (a2 : List ByteArray) (a3 : Int) (a4 : Bool) (v1 v2 : Value) (w : World) (h1 : SlAt rdnE S w a1 v1) (h2 : SlAt strE S w a2 v2) (hz : ruleE.sz (a0, a1, a2, a3, a4) ≤ 1048576) :
    Calls Try.prog 118 #[.agg #[.string a0, v1, v2, .int .i64 a3, .bool a4]] w fun e w' => e = .returned (.bool (ruleB (a0, a1, a2, a3, a4))) ∧ Below w.heap.size w w' := by
  have HE : ruleE.sz (a0, a1, a2, a3, a4) = a0.size + ((a1.length + szL rdnE a1) + ((a2.length + szL strE a2) + (0 + (0)))) := rfl
  rw [HE] at hz
  have HB : Hid (ruleB (a0, a1, a2, a3, a4) = ((starB a0 || nmL a0) && (decide (a2.length ≤ 8) && namesB a2) && (dnB a1 && rtB a3))) := Lib.hid rfl
  obtain ⟨o1, k1, rfl⟩ := h1.sl
  obtain ⟨o2, k2, rfl⟩ := h2.sl
  have CN : Hid (∀ W : World, Calls Try.prog 86 #[.string a0] W fun e w' => e = .returned (.bool (nmL a0)) ∧ W = w') := Lib.hid (fun W => NameRight_any a0 W (by unfold maxLen; omega))
  have CA : Hid (∀ W : World, Below w.heap.size w W → Calls Try.prog 170 #[.slice o2 a2.length k2] W fun e w' => e = .returned (.bool (namesB a2)) ∧ Below W.heap.size W w') := Lib.hid (fun W b => areNames_any o2 a2 k2 W ((strs_of h2).below b) (fits_str (by omega)))
  have CD : Hid (∀ W : World, Below w.heap.size w W → Calls Try.prog 165 #[.slice o1 a1.length k1] W fun e w' => e = .returned (.bool (dnB a1)) ∧ Below W.heap.size W w') := Lib.hid (fun W b => DnRight_any o1 a1 k1 W ((dn_of h1).below b) (fits_dn (by omega)))
  have hl2 : a2.length ≤ 1048576 := by omega
  clear h1 h2 hz HE
  generalize nmL a0 = nm at *
  generalize namesB a2 = nms at *
  generalize dnB a1 = dn at *
  generalize hs : starB a0 = st at *
  have hst : (a0.toList == [42]) = st := hs
  clear hs
  generalize ruleB (a0, a1, a2, a3, a4) = R at *
  have hcase : (st = false ∧ nm = false) ∨ (st || nm) = true := by cases st <;> cases nm <;> simp
  rcases hcase with ⟨e1, e2⟩ | hok
  · subst e1 e2
    go_enter Try.func118, Try.ntmps118
    go_wp2_with fail
    refine (CN.out _).mono ?_
    rintro e w1 ⟨rfl, rfl⟩
    go_wp2
    go_ret
    exact ⟨ret_bool (by rw [HB.out]; rfl), more' (Below.refl _ _) _⟩
  rw [hok] at HB
  have HB2 : Hid (R = ((decide (a2.length ≤ 8) && nms) && (dn && rtB a3))) := Lib.hid (by rw [HB.out]; simp)
  have CN2 : Hid (st = false → nm = true) := Lib.hid (fun h => by subst h; simpa using hok)
  clear HB hok
  by_cases h8 : a2.length ≤ 8
  rotate_left
  · have HR : Hid (R = false) := Lib.hid (by rw [HB2.out]; simp [h8])
    have h8' : (8 : Int) < (a2.length : Int) := by omega
    cases st
    all_goals
      first
        | (have hn := CN2.out rfl; rw [hn] at CN; clear CN2)
        | clear CN2
      go_enter Try.func118, Try.ntmps118
      go_wp2_with (first | (go_at_call 86; refine (CN.out _).mono ?_; rintro e w1 ⟨rfl, rfl⟩) | (fail "none"))
      go_ret
      exact ⟨ret_bool HR.out.symm, more' (Below.refl _ _) _⟩
  have HB3 : Hid (R = (nms && (dn && rtB a3))) := Lib.hid (by rw [HB2.out]; simp [h8])
  have h8' : ¬ (8 : Int) < (a2.length : Int) := by omega
  clear HB2
  cases st
  all_goals
    first
      | (have hn := CN2.out rfl; rw [hn] at CN; clear CN2)
      | clear CN2
    go_enter Try.func118, Try.ntmps118
    go_wp2_with (first | (go_at_call 86; refine (CN.out _).mono ?_; rintro e w1 ⟨rfl, rfl⟩) | (fail "none"))
    refine calls_by (fun W => Below w.heap.size w W ∧ Blk W w.heap.size [.string a0, .slice o1 a1.length k1, .slice o2 a2.length k2, .int .i64 a3, .bool a4]) ⟨more' (Below.refl _ _) _, Blk.new _ _ _⟩ ?_
    rintro W1 ⟨b1, t1⟩
    refine (CA.out W1 b1).mono ?_
    rintro e w2 ⟨rfl, hb⟩
    have b2 := b1.trans (hb.mono b1.size); have T2 := Lib.hid (t1.below hb)
    clear hb t1 b1
    cases nms
    · have HR : Hid (R = false) := Lib.hid (by rw [HB3.out]; rfl)
      go_wp2
      go_ret
      exact ⟨ret_bool HR.out.symm, b2⟩
    have m0 := T2.out.cell 0 rfl
    have m1 := T2.out.cell 1 rfl
    have m2 := T2.out.cell 2 rfl
    have m3 := T2.out.cell 3 rfl
    have m4 := T2.out.cell 4 rfl
    go_wp2_with fail
    refine (CD.out w2 b2).mono ?_
    rintro e w3 ⟨rfl, hb⟩
    have b3 := b2.trans (hb.mono b2.size); have T3 := Lib.hid (T2.out.below hb)
    clear hb T2 b2 m0 m1 m2 m3 m4
    cases dn
    · have HR : Hid (R = false) := Lib.hid (by rw [HB3.out]; rfl)
      go_wp2
      go_ret
      exact ⟨ret_bool HR.out.symm, b3⟩
    have HR : Hid (R = rtB a3) := Lib.hid (by rw [HB3.out]; rfl)
    have m3 := T3.out.cell 3 rfl
    go_wp2_with fail
    refine (isRight_any a3 w3).mono ?_
    rintro e w4 ⟨rfl, rfl⟩
    generalize rtB a3 = q at *
    go_wp2
    go_ret
    exact ⟨ret_bool HR.out.symm, b3⟩
end Go.Proofs.Ytlgafmgohinkbaa
/- Access control: which lists are right: the program. -/
namespace Go.Proofs.Ytlgafmgohinkbaa
open Go.RowKit
attribute [local go_sem ↓] Go.wp_at_zero Go.wp_at_succ

theorem aclB_long {l : List RuleT} (h : ¬ l.length ≤ 10) : aclB l = false := by unfold aclB; simp [h]
theorem aclB_bad {l : List RuleT} {k : Nat} (h : k < l.length) (hb : ruleB l[k] = false) : aclB l = false := by unfold aclB; rw [all_bad ruleB l k h hb]; simp
theorem aclB_all {l : List RuleT} (h1 : l.length ≤ 10) (h : l.all ruleB = true) : aclB l = true := by unfold aclB; rw [h]; simp [h1]
set_option maxRecDepth 100000 in
set_option maxHeartbeats 4000000 in
theorem AclRight_any {S : Bs} (v : Value) (d : List RuleT) (w : World) (hd : SlAt ruleE S w d v) (hz : d.length + szL ruleE d ≤ 1048576) :
    Calls Try.prog 51 #[v] w fun e w' => e = .returned (.bool (aclB d)) ∧ Below w.heap.size w w' := by
  obtain ⟨ao, ca, rfl⟩ := hd.sl
  have HD := Lib.hid hd; have HL := Lib.hid hz; clear hd
  have hl : d.length ≤ 1048576 := by omega
  clear hz
  by_cases h10 : d.length ≤ 10
  rotate_left
  · have HR := Lib.hid (aclB_long h10)
    have h10' : (10 : Int) < (d.length : Int) := by omega
    go_enter Try.func51, Try.ntmps51
    go_wp2
    go_ret
    exact ⟨ret_bool HR.out.symm, Below.refl _ _⟩
  have h10' : ¬ (10 : Int) < (d.length : Int) := by omega
  go_enter Try.func51, Try.ntmps51
  go_wp2
  go_loopw [10] (fun i wr => ∃ k : Nat, k ≤ d.length ∧ i = .int .i64 k ∧ (d.take k).all ruleB = true ∧ Below w.heap.size w wr) (fun i _ => d.length - (intOf i).toNat)
  case atStart => exact ⟨0, Nat.zero_le _, rfl, rfl, Below.refl _ _⟩
  case round =>
    obtain ⟨k, hk, rfl, ha, hbel⟩ := hrel
    have Ha := Lib.hid ha; clear ha
    have hsz := hbel.size
    by_cases hlt : k < d.length
    · obtain ⟨b, off, a0, a1, a2, a3, a4, v1, v2, rfl, _, hb0, hx, ⟨hc0, hc1, hc2, hc3, hc4⟩, s1, s2, _⟩ := rule_row (HD.out.frame (Same.of_below' hbel)) hlt
      have HZ : Hid (ruleE.sz (a0, a1, a2, a3, a4) ≤ 1048576) := Lib.hid (by have h1 := szL_mem ruleE (List.getElem_mem hlt); rw [hx] at h1; have := HL.out; omega)
      have HBad : Hid (ruleB (a0, a1, a2, a3, a4) = false → aclB d = false) := Lib.hid (fun h => aclB_bad hlt (by rw [hx]; exact h))
      have HT : Hid (ruleB (a0, a1, a2, a3, a4) = true → (d.take (k + 1)).all ruleB = true) := Lib.hid (fun h => by rw [all_take ruleB d k hlt, Ha.out, hx, h]; rfl)
      clear hx Ha
      have HC : Hid (∀ W : World, Below wr.heap.size wr W → Calls Try.prog 118 #[.agg #[.string a0, v1, v2, .int .i64 a3, .bool a4]] W fun e w' => e = .returned (.bool (ruleB (a0, a1, a2, a3, a4))) ∧ Below W.heap.size W w') := Lib.hid (fun W b => ruleRight_any a0 a1 a2 a3 a4 v1 v2 W (s1.frame (Same.of_below' b)) (s2.frame (Same.of_below' b)) HZ.out)
      obtain ⟨o1, k1, rfl⟩ := s1.sl
      obtain ⟨o2, k2, rfl⟩ := s2.sl
      clear s1 s2 HZ
      generalize ruleB (a0, a1, a2, a3, a4) = r at *
      have g1 : (0 : Int) ≤ (k : Int) := by omega
      have g2 : (k : Int) < (d.length : Int) := by omega
      go_wp2_with fail
      refine (HC.out _ (more' (Below.refl _ _) _)).mono ?_
      rintro e w2 ⟨rfl, hb2⟩
      have B2 := Lib.hid ((more' hbel _).trans (hb2.mono (more' hbel _).size)); clear hb2
      cases r
      · have HR := Lib.hid (HBad.out rfl)
        go_wp2
        go_ret
        exact ⟨ret_bool HR.out.symm, B2.out⟩
      · go_wp2
        go_roundw
        case rel => exact ⟨k + 1, by omega, by go_num, HT.out (by first | rfl | trivial), B2.out⟩
        case measure => simp [intOf]; omega
    · have HR : Hid (aclB d = true) := Lib.hid (aclB_all h10 (by have := Ha.out; rw [List.take_of_length_le (by omega)] at this; exact this))
      go_wp2
      go_ret
      exact ⟨ret_bool HR.out.symm, hbel⟩
end Go.Proofs.Ytlgafmgohinkbaa
/- A filter's node: which are right: the program. -/
namespace Go.Proofs.Ytlgafmgohinkbaa
open Go.RowKit
attribute [local go_sem ↓] Go.wp_at_zero Go.wp_at_succ

noncomputable def nodeI (x : NodeT) : Bool :=
  if x.1 = 1 ∨ x.1 = 2 then (x.2.1.toList.isEmpty && x.2.2.1.toList.isEmpty) && decide (1 ≤ x.2.2.2)
  else if x.1 = 3 then (x.2.1.toList.isEmpty && x.2.2.1.toList.isEmpty) && (x.2.2.2 == 1)
  else if x.1 = 5 then (nmL x.2.1 && x.2.2.1.toList.isEmpty) && (x.2.2.2 == 0)
  else if x.1 = 4 ∨ x.1 = 6 ∨ x.1 = 7 ∨ x.1 = 8 then (nmL x.2.1 && valB x.2.2.1) && (x.2.2.2 == 0)
  else false
set_option maxRecDepth 100000 in
set_option maxHeartbeats 4000000 in
theorem nodeRight_any (a0 : Int) (a1 a2 : ByteArray) (a3 : Int) (w : World) (h1 : a1.size ≤ 1048576) (h2 : a2.size ≤ 1048576) :
    Calls Try.prog 175 #[.agg #[.int .i64 a0, .string a1, .string a2, .int .i64 a3]] w fun e w' => e = .returned (.bool (nodeI (a0, a1, a2, a3))) ∧ Below w.heap.size w w' := by
  have CN : Hid (∀ W : World, Calls Try.prog 86 #[.string a1] W fun e w' => e = .returned (.bool (nmL a1)) ∧ W = w') := Lib.hid (fun W => NameRight_any a1 W (by unfold maxLen; omega))
  have CP : Hid (∀ W : World, Calls Try.prog 187 #[.string a2] W fun e w' => e = .returned (.bool (valB a2)) ∧ Below W.heap.size W w') := Lib.hid (fun W => isProperValue_any a2 W (by unfold maxLen; omega))
  by_cases e12 : a0 = 1 ∨ a0 = 2
  · have HR : Hid (nodeI (a0, a1, a2, a3) = ((a1.toList.isEmpty && a2.toList.isEmpty) && decide (1 ≤ a3))) := Lib.hid (by unfold nodeI; rw [if_pos e12])
    generalize nodeI (a0, a1, a2, a3) = r at *
    rcases e12 with rfl | rfl
    all_goals
      go_enter Try.func175, Try.ntmps175
      go_wp2
      all_goals
        go_ret
        exact ⟨ret_bool (by rw [HR.out]; simp [*]), more' (Below.refl _ _) _⟩
  by_cases e3 : a0 = 3
  · have HR : Hid (nodeI (a0, a1, a2, a3) = ((a1.toList.isEmpty && a2.toList.isEmpty) && (a3 == 1))) := Lib.hid (by unfold nodeI; rw [if_neg e12, if_pos e3])
    generalize nodeI (a0, a1, a2, a3) = r at *
    subst e3
    · go_enter Try.func175, Try.ntmps175
      go_wp2
      all_goals
        go_ret
        exact ⟨ret_bool (by rw [HR.out]; simp [*]), more' (Below.refl _ _) _⟩
  by_cases e5 : a0 = 5
  · have HR : Hid (nodeI (a0, a1, a2, a3) = ((nmL a1 && a2.toList.isEmpty) && (a3 == 0))) := Lib.hid (by unfold nodeI; rw [if_neg e12, if_neg e3, if_pos e5])
    generalize nodeI (a0, a1, a2, a3) = r at *
    generalize nmL a1 = n1 at *
    subst e5
    clear e12 e3
    go_enter Try.func175, Try.ntmps175
    go_wp2_with fail
    refine (CN.out _).mono ?_
    rintro e w2 ⟨rfl, rfl⟩
    cases n1
    · go_wp2
      all_goals
        go_ret
        exact ⟨ret_bool (by rw [HR.out]; simp [*]), more' (Below.refl _ _) _⟩
    · go_wp2
      all_goals
        go_ret
        exact ⟨ret_bool (by rw [HR.out]; simp [*]), more' (Below.refl _ _) _⟩
  by_cases e4 : a0 = 4 ∨ a0 = 6 ∨ a0 = 7 ∨ a0 = 8
  · have HR : Hid (nodeI (a0, a1, a2, a3) = ((nmL a1 && valB a2) && (a3 == 0))) := Lib.hid (by unfold nodeI; rw [if_neg e12, if_neg e3, if_neg e5, if_pos e4])
    generalize nodeI (a0, a1, a2, a3) = r at *
    generalize nmL a1 = n1 at *
    generalize valB a2 = n2 at *
    clear e12 e3 e5
    rcases e4 with rfl | rfl | rfl | rfl
    all_goals
      go_enter Try.func175, Try.ntmps175
      go_wp2_with fail
      refine calls_by (fun W => Below w.heap.size w W ∧ Blk W w.heap.size [_, .string a1, .string a2, .int .i64 a3]) ⟨more' (Below.refl _ _) _, Blk.new _ _ _⟩ ?_
      rintro W1 ⟨b1, t1⟩
      refine (CN.out W1).mono ?_
      rintro e w2 ⟨rfl, rfl⟩
      have T1 := Lib.hid t1
      have m2 := T1.out.cell 2 rfl
      clear t1
      cases n1
      · go_wp2
        go_ret
        exact ⟨ret_bool (by rw [HR.out]; simp), b1⟩
      go_wp2_with fail
      refine (CP.out W1).mono ?_
      rintro e w3 ⟨rfl, hb⟩
      have b3 := b1.trans (hb.mono b1.size)
      have m3 := (T1.out.below hb).cell 3 rfl
      clear hb m2
      cases n2
      · go_wp2
        go_ret
        exact ⟨ret_bool (by rw [HR.out]; simp), b3⟩
      · go_wp2
        go_ret
        exact ⟨ret_bool (by rw [HR.out]; simp), b3⟩
  have HR : Hid (nodeI (a0, a1, a2, a3) = false) := Lib.hid (by unfold nodeI; rw [if_neg e12, if_neg e3, if_neg e5, if_neg e4])
  generalize nodeI (a0, a1, a2, a3) = r at *
  have n1 : (a0 == 1) = false := by simp; omega
  have n2 : (a0 == 2) = false := by simp; omega
  have n3 : (a0 == 3) = false := by simp; omega
  have n4 : (a0 == 4) = false := by simp; omega
  have n5 : (a0 == 5) = false := by simp; omega
  have n6 : (a0 == 6) = false := by simp; omega
  have n7 : (a0 == 7) = false := by simp; omega
  have n8 : (a0 == 8) = false := by simp; omega
  clear e12 e3 e4 e5
  go_enter Try.func175, Try.ntmps175
  go_wp2
  go_ret
  exact ⟨ret_bool (by rw [HR.out]), more' (Below.refl _ _) _⟩
end Go.Proofs.Ytlgafmgohinkbaa
/- Filters: clauses, and how deep they are. -/
namespace Go.Proofs.Ytlgafmgohinkbaa
open Go.RowKit
attribute [local go_sem ↓] Go.wp_at_zero Go.wp_at_succ

/-- what a part is: its place, the place behind it, its depth -/
abbrev PartT := Nat × Nat × Nat
/-- parts that follow one another from a to b -/
def chainP : Nat → List PartT → Nat → Prop
  | a, [], b => a = b
  | a, x :: l, b => x.1 = a ∧ chainP x.2.1 l b
theorem chainP_snoc {a b : Nat} {l : List PartT} {x : PartT} (h : chainP a l x.1) (e : x.2.1 = b) : chainP a (l ++ [x]) b := by
  induction l generalizing a with
  | nil => exact ⟨h.symm, e⟩
  | cons y l ih => exact ⟨h.1, ih h.2⟩
def deepest (ds : List PartT) : Nat := (ds.map (fun x => x.2.2)).foldl max 0
/-- the clause that stands in a filter at a place, up to another, so deep -/
inductive ClP (f : List NodeT) (S : Bs) (w : World) : PartT → Value → Prop
  | leaf (k : Nat) (h : k < f.length) (a0 : Int) (a1 a2 : ByteArray) (a3 : Int) (hx : f[k] = (a0, a1, a2, a3)) (hn : nodeI f[k] = true) (ho : ¬ (a0 = 1 ∨ a0 = 2 ∨ a0 = 3)) : ClP f S w (k, k + 1, 1) (.iface 231 (.agg #[.int .i64 a0, .string a1, .string a2, .int .i64 a3]))
  | br (T : TypeId) (k p : Nat) (h : k < f.length) (hn : nodeI f[k] = true) (hT : (f[k].1 = 1 ∧ T = 227) ∨ (f[k].1 = 2 ∧ T = 228) ∨ (f[k].1 = 3 ∧ T = 229)) (ao : Option Addr) (cap : Nat) (ds : List PartT) (us : Nat → Value) (hl : ds.length ≤ 2000000) (hm : f[k].2.2.2 = (ds.length : Int)) (hch : chainP (k + 1) ds p) (hc : ∀ i, i < ds.length → ∃ b off, ao = some ⟨b, off, none⟩ ∧ S b ∧ b < w.heap.size ∧ w.cell? ⟨b, off + i, none⟩ = some (us i))
      (hr : ∀ i (h : i < ds.length), ClP f S w ds[i] (us i)) : ClP f S w (k, p, deepest ds + 1) (.iface T (.agg #[.slice ao ds.length cap]))
theorem ClP.frame {f : List NodeT} {S : Bs} {w w' : World} {d : PartT} {v : Value} (h : ClP f S w d v) (hs : Same S w w') : ClP f S w' d v := by
  induction h with
  | leaf k h a0 a1 a2 a3 hx hn ho => exact .leaf k h a0 a1 a2 a3 hx hn ho
  | br T k p h hn hT ao cap ds us hl hm hch hc hr ih => exact .br T k p h hn hT ao cap ds us hl hm hch (fun i hi => by
      obtain ⟨b, off, e1, e2, e3, e4⟩ := hc i hi
      exact ⟨b, off, e1, e2, lt_of_same e3 (hs b e2 e3), (World.cell?_of_block (hs b e2 e3)).trans e4⟩) ih
theorem ClP.wide {f : List NodeT} {S S' : Bs} {w : World} {d : PartT} {v : Value} (h : ClP f S w d v) (hs : ∀ b, S b → S' b) : ClP f S' w d v := by
  induction h with
  | leaf k h a0 a1 a2 a3 hx hn ho => exact .leaf k h a0 a1 a2 a3 hx hn ho
  | br T k p h hn hT ao cap ds us hl hm hch hc hr ih =>
    refine .br T k p h hn hT ao cap ds us hl hm hch (fun i hi => ?_) ih
    obtain ⟨b, off, e1, e2, e3, e4⟩ := hc i hi
    exact ⟨b, off, e1, hs b e2, e3, e4⟩
/-- clauses as data: of each its place and depth -/
def clE (f : List NodeT) : Enc PartT where
  n := 1
  At := fun S w d cs => ∃ u, cs = [u] ∧ ClP f S w d u
  Own := fun S w d cs => ∃ u, cs = [u] ∧ ClP f S w d u
  sz := fun _ => 0
  cnt := fun _ => 0
  mark := fun _ x => x
  long := fun _ => True
  c := 0
  len := fun ⟨u, h, _⟩ => by rw [h]; rfl
  frame := fun ⟨u, h, h1⟩ hs => ⟨u, h, h1.frame hs⟩
  wide := fun ⟨u, h, h1⟩ hs => ⟨u, h, h1.wide hs⟩
  ownAt := fun h => h
  ownFrame := fun ⟨u, h, h1⟩ hs => ⟨u, h, h1.frame hs⟩
  ownWide := fun ⟨u, h, h1⟩ hs => ⟨u, h, h1.wide hs⟩
  cntMk := fun _ _ => rfl
  cntLe := fun _ => by omega
/-- a clause with parts -/
theorem ClP.of {f : List NodeT} {S : Bs} {w : World} {ds : List PartT} {ao : Option Addr} {n cap : Nat} (h : SlAt (clE f) S w ds (.slice ao n cap)) (hl : ds.length ≤ 2000000) {T : TypeId} {k p : Nat} (hk : k < f.length) (hn : nodeI f[k] = true) (hT : (f[k].1 = 1 ∧ T = 227) ∨ (f[k].1 = 2 ∧ T = 228) ∨ (f[k].1 = 3 ∧ T = 229)) (hm : f[k].2.2.2 = (ds.length : Int)) (hch : chainP (k + 1) ds p) : ClP f S w (k, p, deepest ds + 1) (.iface T (.agg #[.slice ao n cap])) := by
  obtain ⟨ao', cap', e, _, _, hh⟩ := h
  injection e with e1 e2 e3
  subst e1 e2 e3
  rcases hh with h0 | ⟨b, off, e1, e2, e3, h4⟩
  · subst h0
    exact .br T k p hk hn hT _ _ [] (fun _ => .nilIface) (by simp) hm hch (fun i hi => by simp at hi) (fun i hi => by simp at hi)
  · have hx : ∀ i (h : i < ds.length), ∃ u, w.cell? ⟨b, off + i, none⟩ = some u ∧ ClP f S w ds[i] u := fun i hi => by
      obtain ⟨cs, q1, u, rfl, q2⟩ := h4 i hi
      have := q1 0 (by simp)
      exact ⟨u, by simpa [clE] using this, q2⟩
    refine .br T k p hk hn hT _ _ ds (fun i => if h : i < ds.length then (hx i h).choose else .nilIface) hl hm hch (fun i hi => ⟨b, off, e1, e2, e3, ?_⟩) (fun i hi => ?_)
    · simp only [dif_pos hi]; exact (hx i hi).choose_spec.1
    · simp only [dif_pos hi]; exact (hx i hi).choose_spec.2
theorem ops_leaf (x : Value) (w : World) : (method 336 231 x "loop.example/g00402/impl.operands").run Try.prog w = .ok (288, x) w := by kernel_rfl
theorem ops_conj (x : Value) (w : World) : (method 336 227 x "loop.example/g00402/impl.operands").run Try.prog w = .ok (282, x) w := by kernel_rfl
theorem ops_disj (x : Value) (w : World) : (method 336 228 x "loop.example/g00402/impl.operands").run Try.prog w = .ok (284, x) w := by kernel_rfl
theorem ops_neg (x : Value) (w : World) : (method 336 229 x "loop.example/g00402/impl.operands").run Try.prog w = .ok (286, x) w := by kernel_rfl
attribute [local go_sem] ops_leaf ops_conj ops_disj ops_neg
theorem opsLeaf_any (x : Value) (a0 : Int) (a1 a2 : ByteArray) (a3 : Int) (w : World) : Calls Try.prog 288 #[.agg #[.int .i64 a0, .string a1, .string a2, .int .i64 a3]] w fun e w' => e = .returned (.slice none 0 0) ∧ Below w.heap.size w w' := by
  go_enter Try.func288, Try.ntmps288
  go_wp2
  go_ret
  first | exact ⟨rfl, Below.refl _ _⟩ | exact ⟨rfl, more' (Below.refl _ _) _⟩
theorem opsConj_any (ao : Option Addr) (n cap : Nat) (w : World) : Calls Try.prog 282 #[.agg #[.slice ao n cap]] w fun e w' => e = .returned (.slice ao n cap) ∧ Below w.heap.size w w' := by
  go_enter Try.func282, Try.ntmps282
  go_wp2
  go_ret
  first | exact ⟨rfl, Below.refl _ _⟩ | exact ⟨rfl, more' (Below.refl _ _) _⟩
theorem opsDisj_any (ao : Option Addr) (n cap : Nat) (w : World) : Calls Try.prog 284 #[.agg #[.slice ao n cap]] w fun e w' => e = .returned (.slice ao n cap) ∧ Below w.heap.size w w' := by
  go_enter Try.func284, Try.ntmps284
  go_wp2
  go_ret
  first | exact ⟨rfl, Below.refl _ _⟩ | exact ⟨rfl, more' (Below.refl _ _) _⟩
theorem opsNeg_any (ao : Option Addr) (n cap : Nat) (w : World) : Calls Try.prog 286 #[.agg #[.slice ao n cap]] w fun e w' => e = .returned (.slice ao n cap) ∧ Below w.heap.size w w' := by
  go_enter Try.func286, Try.ntmps286
  go_wp2
  go_ret
  first | exact ⟨rfl, Below.refl _ _⟩ | exact ⟨rfl, more' (Below.refl _ _) _⟩
theorem max_le (ds : List Nat) : ∀ (m : Nat), m ≤ ds.foldl max m ∧ ∀ i (h : i < ds.length), ds[i] ≤ ds.foldl max m := by
  induction ds with
  | nil => intro m; exact ⟨Nat.le_refl _, fun i h => by simp at h⟩
  | cons x l ih =>
    intro m
    obtain ⟨h1, h2⟩ := ih (max m x)
    refine ⟨Nat.le_trans (Nat.le_max_left _ _) h1, fun i h => ?_⟩
    cases i with
    | zero => exact Nat.le_trans (Nat.le_max_right _ _) h1
    | succ i => exact h2 i (by simpa using h)
theorem max_take_le (ds : List Nat) (k : Nat) : (ds.take k).foldl max 0 ≤ ds.foldl max 0 := by
  have h : ds.foldl max 0 = (ds.drop k).foldl max ((ds.take k).foldl max 0) := by rw [← List.foldl_append, List.take_append_drop]
  rw [h]; exact (max_le _ _).1
theorem max_take (ds : List Nat) (k : Nat) (h : k < ds.length) : (ds.take (k + 1)).foldl max 0 = max ((ds.take k).foldl max 0) ds[k] := by
  rw [List.take_succ_eq_append_getElem h, List.foldl_append]; rfl
set_option maxRecDepth 100000 in
set_option maxHeartbeats 4000000 in
theorem depthOf_any {f : List NodeT} {S : Bs} {w : World} {d : PartT} {v : Value} (h : ClP f S w d v) : d.2.2 ≤ 1000000 → ∀ w' : World, Below w.heap.size w w' → Calls Try.prog 133 #[v] w' fun e w'' => e = .returned (.int .i64 (d.2.2 : Nat)) ∧ Below w'.heap.size w' w'' := by
  induction h with
  | leaf k hk a0 a1 a2 a3 hx hn ho =>
    clear hx hn ho
    intro _ w' _
    go_enter Try.func133, Try.ntmps133
    go_wp2_with fail
    refine (opsLeaf_any (.slice none 0 0) a0 a1 a2 a3 w').mono ?_
    rintro e w2 ⟨rfl, hb⟩
    go_wp2
    go_loopw [3, 9] (fun a i wr => a = .int .i64 0 ∧ i = .int .i64 0 ∧ Below w'.heap.size w' wr) (fun _ i _ => 0)
    case atStart => exact ⟨rfl, rfl, hb⟩
    case round =>
      obtain ⟨rfl, rfl, hbel⟩ := hrel
      go_wp2
      go_ret
      exact ⟨rfl, hbel⟩
  | br T k0 p0 hk0 hn hT ao cap es us hl hm hch hc hr ih =>
    intro hd w' hbw
    have HT' : T = 227 ∨ T = 228 ∨ T = 229 := by rcases hT with ⟨_, h⟩ | ⟨_, h⟩ | ⟨_, h⟩ <;> simp [h]
    clear hT hm hch hn
    have hT := HT'
    clear HT'
    unfold deepest at hd ⊢
    obtain ⟨ds, hds⟩ : ∃ ds : List Nat, ds = es.map (fun x => x.2.2) := ⟨_, rfl⟩
    have hel : es.length = ds.length := by rw [hds, List.length_map]
    have hget : ∀ i (h : i < ds.length), es[i].2.2 = ds[i] := fun i h => by simp [hds]
    rw [← hds] at hd ⊢
    have hd' : ds.foldl max 0 + 1 ≤ 1000000 := hd
    rw [hel] at hl ⊢
    obtain ⟨_, hmx⟩ := max_le ds 0
    have HC : Hid (∀ i, i < ds.length → ∃ b off, ao = some ⟨b, off, none⟩ ∧ S b ∧ b < w.heap.size ∧ w.cell? ⟨b, off + i, none⟩ = some (us i)) := Lib.hid (fun i hi => hc i (by omega)); have HMx := Lib.hid hmx
    have IH : Hid (∀ i (h : i < ds.length) (W : World), Below w'.heap.size w' W → Calls Try.prog 133 #[us i] W fun e w'' => e = .returned (.int .i64 (ds[i] : Nat)) ∧ Below W.heap.size W w'') := Lib.hid (fun i h W hb => by
      have h9 := ih i (by omega) (by rw [hget i h]; have := hmx i h; omega) W (hbw.trans (hb.mono hbw.size))
      rw [hget i h] at h9
      exact h9)
    clear hc hr ih hmx hds hget
    have hmd : ds.foldl max 0 < 1000000 := by omega
    have HMt : Hid (∀ k, k ≤ ds.length → (ds.take k).foldl max 0 < 1000000) := Lib.hid (fun k _ => Nat.lt_of_le_of_lt (max_take_le ds k) hmd)
    rcases hT with rfl | rfl | rfl
    all_goals
      go_enter Try.func133, Try.ntmps133
      go_wp2_with fail
      first
        | refine (opsConj_any ao ds.length cap w').mono ?_
        | refine (opsDisj_any ao ds.length cap w').mono ?_
        | refine (opsNeg_any ao ds.length cap w').mono ?_
      rintro e w2 ⟨rfl, hb⟩
      go_wp2
      go_loopw [3, 9] (fun a i wr => ∃ k : Nat, k ≤ ds.length ∧ a = .int .i64 ((ds.take k).foldl max 0 : Nat) ∧ i = .int .i64 k ∧ Below w'.heap.size w' wr) (fun _ i _ => ds.length - (intOf i).toNat)
      case atStart => exact ⟨0, Nat.zero_le _, rfl, rfl, hb⟩
      case round =>
        clear hb
        obtain ⟨k, hk, rfl, rfl, hbel⟩ := hrel
        by_cases hlt : k < ds.length
        · obtain ⟨b, off, rfl, _, hb0, hcell⟩ := HC.out k hlt
          have hc1 := ((hbw.trans (hbel.mono hbw.size)).cell (p := ⟨b, off + k, none⟩) hb0).trans hcell
          have HK := Lib.hid (IH.out k hlt wr hbel)
          have HT : Hid ((ds.take (k + 1)).foldl max 0 = max ((ds.take k).foldl max 0) ds[k]) := Lib.hid (max_take ds k hlt)
          have hm1 := HMt.out k hk
          have hm2 := HMx.out k hlt
          generalize (ds.take k).foldl max 0 = m at *
          generalize ds[k] = x at *
          generalize us k = u at *
          have g1 : (0 : Int) ≤ (k : Int) := by omega
          have g2 : (k : Int) < (ds.length : Int) := by omega
          go_wp2_with fail
          refine HK.out.mono ?_
          rintro e w3 ⟨rfl, hb3⟩
          have b3 := hbel.trans (hb3.mono hbel.size)
          clear hb3 hc1
          go_wp2
          exact ⟨⟨k + 1, by omega, by rw [HT.out]; congr 1; omega, by go_num, b3⟩, by simp [intOf]; omega⟩
        · have e : ds.take k = ds := List.take_of_length_le (by omega)
          rw [e]
          go_wp2
          go_ret
          exact ⟨rfl, hbel⟩
end Go.Proofs.Ytlgafmgohinkbaa
/- Filters: a clause is made. -/
namespace Go.Proofs.Ytlgafmgohinkbaa
open Go.RowKit
attribute [local go_sem ↓] Go.wp_at_zero Go.wp_at_succ

set_option maxRecDepth 100000 in
set_option maxHeartbeats 4000000 in
/-- a new clause: one with parts, so deep as they are and one more; or a condition -/
theorem newClause_any (a0 : Int) (a1 a2 : ByteArray) (a3 : Int) (ao : Option Addr) (n cap : Nat) (w : World) :
    Calls Try.prog 176 #[.agg #[.int .i64 a0, .string a1, .string a2, .int .i64 a3], .slice ao n cap] w fun e w' => (∃ T : TypeId, ((((a0 = 1 ∧ T = 227) ∨ (a0 = 2 ∧ T = 228) ∨ (a0 = 3 ∧ T = 229)) ∧ e = .returned (.iface T (.agg #[.slice ao n cap]))) ∨
      (¬ (a0 = 1 ∨ a0 = 2 ∨ a0 = 3) ∧ e = .returned (.iface 231 (.agg #[.int .i64 a0, .string a1, .string a2, .int .i64 a3]))))) ∧ Below w.heap.size w w' := by
  by_cases h : a0 = 1 ∨ a0 = 2 ∨ a0 = 3
  · rcases h with rfl | rfl | rfl
    · go_enter Try.func176, Try.ntmps176
      go_wp2
      go_ret
      exact ⟨⟨227, .inl ⟨by simp, rfl⟩⟩, more' (Below.refl _ _) _⟩
    · go_enter Try.func176, Try.ntmps176
      go_wp2
      go_ret
      exact ⟨⟨228, .inl ⟨by simp, rfl⟩⟩, more' (Below.refl _ _) _⟩
    · go_enter Try.func176, Try.ntmps176
      go_wp2
      go_ret
      exact ⟨⟨229, .inl ⟨by simp, rfl⟩⟩, more' (Below.refl _ _) _⟩
  · have n1 : (a0 == 1) = false := by simp; omega
    have n2 : (a0 == 2) = false := by simp; omega
    have n3 : (a0 == 3) = false := by simp; omega
    go_enter Try.func176, Try.ntmps176
    go_wp2
    go_ret
    exact ⟨⟨231, .inr ⟨h, rfl⟩⟩, more' (Below.refl _ _) _⟩
end Go.Proofs.Ytlgafmgohinkbaa
/- Which classes are right. -/
namespace Go.Proofs.Ytlgafmgohinkbaa
open Go.RowKit

theorem calls_any' {P : Program} {f : Nat} {args : Array Value} {w : World} {Q : Ending → World → Prop} (R : World → Prop) (h : R w) (k : ∀ W, R W → Calls P f args W Q) : Calls P f args w Q := k w h
def clsT : ByteArray := ⟨#[99, 108, 97, 115, 115]⟩
theorem hasS_append (a b : List ByteArray) (x : ByteArray) : hasS (a ++ b) x = (hasS a x || hasS b x) := by unfold hasS; rw [List.any_append]
theorem besideV_lt (l m : List ByteArray) : decide ((besideV l m).length < l.length) = !(l.all fun x => !(hasS m x)) := by
  rw [Bool.eq_iff_iff, decide_eq_true_eq, Bool.not_eq_true', List.all_eq_false]
  unfold besideV
  rw [List.length_filter_lt_length_iff_exists]
theorem besideV_zero (l m : List ByteArray) : decide ((besideV l m).length = 0) = l.all fun x => hasS m x := by
  rw [Bool.eq_iff_iff, decide_eq_true_eq, List.all_eq_true, List.length_eq_zero_iff]
  unfold besideV
  rw [List.filter_eq_nil_iff]
  simp
noncomputable def classB (c : ClassV) : Bool := nmL c.nm && (names10 c.must && (names10 c.may && (names10 c.one && ((c.must.all fun x => !(hasS c.may x)) && (!(hasS (c.must ++ c.may) clsT) && c.one.all fun x => hasS (c.must ++ c.may) x)))))
noncomputable def schemaB (l : List ClassV) : Bool := decide (l.length ≤ 6) && (l.all classB && incB clsLt l)
theorem schemaB_bad {l : List ClassV} {k : Nat} (h : k < l.length) (hb : classB l[k] = false) : schemaB l = false := by unfold schemaB; rw [all_bad classB l k h hb]; simp
theorem schemaB_inc {l : List ClassV} {m : Nat} (h : m + 1 < l.length) (hb : clsLt l[m] l[m + 1] = false) : schemaB l = false := by unfold schemaB; rw [incB_no h hb]; simp
theorem schemaB_all {l : List ClassV} (h : l.all classB = true) (hi : ∀ j (h : j + 1 < l.length), clsLt l[j] l[j + 1] = true) : schemaB l = decide (l.length ≤ 6) := by
  unfold schemaB; rw [h, incB_yes hi]; simp
end Go.Proofs.Ytlgafmgohinkbaa
