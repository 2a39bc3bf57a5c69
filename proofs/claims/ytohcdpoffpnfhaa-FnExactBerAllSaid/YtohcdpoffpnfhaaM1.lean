/- Merged texts: Name, Name2, NormMath, Bytes, Norm, Norm2, Join, BerMath, BerP. -/
import Derived.Test.YtohcdpoffpnfhaaRows
import Derived.WalkKit
import Derived.WalkSpells
import Derived.WalkLawsBesides
import Derived.Lib.Hide
import Derived.Laws.BytesArg
import Derived.Laws.OwnMore
import Derived.Deep.AppendLies
import Derived.Lib.BufferWrite
import Derived.Deep.OwnRows
import Derived.Laws.BitsLemmas
import Derived.IntWalk
import Derived.Deep.RegionHeld3
/- What the two texts of NameRight return. -/
namespace Go.Proofs.Ytohcdpoffpnfhaa
open Go.RowKit

def letB (c : Int) : Bool := decide (97 ≤ c) && decide (c ≤ 122)
def digB (c : Int) : Bool := decide (48 ≤ c) && decide (c ≤ 57)
def nameB (c : Int) : Bool := letB c || digB c || (c == 95)

end Go.Proofs.Ytohcdpoffpnfhaa
/- What the two texts of NameRight return. -/
namespace Go.Proofs.Ytohcdpoffpnfhaa
open Go.RowKit

def allB (l : List UInt8) : Bool := l.all (fun c => nameB (c.toNat : Int))
def nmL (s : ByteArray) : Bool := decide (1 ≤ s.size) && decide (s.size ≤ 20) && letB ((s.data.toList.getD 0 0).toNat : Int) && allB s.data.toList

theorem take_snoc (s : ByteArray) (k : Nat) (h : k < s.size) : s.data.toList.take (k + 1) = s.data.toList.take k ++ [s[k]] := by
  rw [List.take_succ_eq_append_getElem (by simpa using h)]; rfl
theorem allB_snoc (l : List UInt8) (c : UInt8) : allB (l ++ [c]) = (allB l && nameB (c.toNat : Int)) := by simp [allB]
theorem getD_zero (s : ByteArray) (h : 0 < s.size) : s.data.toList.getD 0 0 = s[0] := by
  have h' : 0 < s.data.toList.length := by simpa using h
  rw [List.getD_eq_getElem?_getD, List.getElem?_eq_getElem h']; rfl
theorem mem_get (s : ByteArray) (k : Nat) (h : k < s.size) : s[k] ∈ s.data.toList := by
  have : s.data.toList[k]'(by simpa using h) = s[k] := rfl
  rw [← this]; exact List.getElem_mem _
theorem allB_false (s : ByteArray) (k : Nat) (h : k < s.size) (hn : nameB (s[k].toNat : Int) = false) : allB s.data.toList = false := by
  unfold allB; rw [List.all_eq_false]; exact ⟨_, mem_get s k h, by simp [hn]⟩
theorem ret_bool {a b : Bool} (h : a = b) : Ending.returned (.bool a) = .returned (.bool b) := by rw [h]

end Go.Proofs.Ytohcdpoffpnfhaa
/- Norm: the plain mathematics. -/
namespace Go.Proofs.Ytohcdpoffpnfhaa
open Go.RowKit

/-- the small letter of a capital one -/
def low (c : UInt8) : UInt8 := if 65 ≤ c.toNat ∧ c.toNat ≤ 90 then UInt8.ofNat (c.toNat + 32) else c
theorem low_in (c : UInt8) (h : 65 ≤ c.toNat ∧ c.toNat ≤ 90) : ((low c).toNat : Int) = (c.toNat : Int) + 32 := by
  unfold low; rw [if_pos h]; simp; omega
theorem low_out (c : UInt8) (h : ¬ (65 ≤ c.toNat ∧ c.toNat ≤ 90)) : low c = c := by unfold low; rw [if_neg h]
theorem low_space (c : UInt8) : low c = 32 ↔ c = 32 := by
  by_cases h : 65 ≤ c.toNat ∧ c.toNat ≤ 90
  · constructor
    · intro e
      have h1 := low_in c h
      rw [e] at h1
      have : ((32 : UInt8).toNat : Int) = 32 := rfl
      omega
    · intro e; subst e; simp at h
  · rw [low_out c h]
/-- one byte more of a normalized text -/
def nstep (o : List UInt8) (c : UInt8) : List UInt8 := if c = 32 ∧ (o = [] ∨ o.getLast? = some 32) then o else o ++ [low c]
def nfold (l : List UInt8) : List UInt8 := l.foldl nstep []
def chop (o : List UInt8) : List UInt8 := if o.getLast? = some 32 then o.dropLast else o
def plainB (l : List UInt8) : Bool := l.all (fun c => decide (32 ≤ (c.toNat : Int)) && decide ((c.toNat : Int) ≤ 126))
def normL (l : List UInt8) : List UInt8 := if l.length ≤ 100 ∧ plainB l = true then chop (nfold l) else []
def normS (s : ByteArray) : ByteArray := ⟨(normL s.data.toList).toArray⟩

theorem nstep_skip {o : List UInt8} {c : UInt8} (h1 : c = 32) (h2 : o = [] ∨ o.getLast? = some 32) : nstep o c = o := by unfold nstep; rw [if_pos ⟨h1, h2⟩]
theorem nstep_add {o : List UInt8} {c : UInt8} (h : ¬ (c = 32 ∧ (o = [] ∨ o.getLast? = some 32))) : nstep o c = o ++ [low c] := by unfold nstep; rw [if_neg h]
theorem nfold_snoc (l : List UInt8) (c : UInt8) : nfold (l ++ [c]) = nstep (nfold l) c := by simp [nfold]
theorem nfold_len (l : List UInt8) : (nfold l).length ≤ l.length := by
  have : ∀ (l o : List UInt8), (l.foldl nstep o).length ≤ o.length + l.length := by
    intro l
    induction l with
    | nil => intro o; simp
    | cons c l ih =>
      intro o
      rw [List.foldl_cons]
      refine Nat.le_trans (ih _) ?_
      unfold nstep
      split <;> simp <;> omega
  simpa [nfold] using this l []
theorem chop_len (o : List UInt8) : (chop o).length ≤ o.length := by unfold chop; split <;> simp
theorem normL_len (l : List UInt8) : (normL l).length ≤ 100 := by
  unfold normL
  split
  · rename_i h
    exact Nat.le_trans (chop_len _) (Nat.le_trans (nfold_len l) h.1)
  · simp
theorem normL_le (l : List UInt8) : (normL l).length ≤ l.length := by
  unfold normL
  split
  · exact Nat.le_trans (chop_len _) (nfold_len l)
  · simp
theorem normL_long {l : List UInt8} (h : ¬ l.length ≤ 100) : normL l = [] := by unfold normL; rw [if_neg (fun g => h g.1)]
theorem normL_odd {l : List UInt8} (h : plainB l = false) : normL l = [] := by unfold normL; rw [if_neg (fun g => by rw [h] at g; cases g.2)]
theorem normL_in {l : List UInt8} (h : l.length ≤ 100) (g : plainB l = true) : normL l = chop (nfold l) := by unfold normL; rw [if_pos ⟨h, g⟩]
theorem plainB_snoc (l : List UInt8) (c : UInt8) : plainB (l ++ [c]) = (plainB l && (decide (32 ≤ (c.toNat : Int)) && decide ((c.toNat : Int) ≤ 126))) := by simp [plainB]
theorem plainB_false (s : ByteArray) (k : Nat) (h : k < s.size) (hn : ¬ (32 ≤ (s[k].toNat : Int) ∧ (s[k].toNat : Int) ≤ 126)) : plainB s.data.toList = false := by
  unfold plainB; rw [List.all_eq_false]; exact ⟨_, mem_get s k h, by simp; omega⟩
end Go.Proofs.Ytohcdpoffpnfhaa
/- Rows of bytes that a call owns, and the strings made of them. -/
namespace Go.Proofs.Ytohcdpoffpnfhaa
open Go.RowKit

theorem Try.size5 (w : World) : (sizeOf 5).run Try.prog w = .ok 1 w := by kernel_rfl
theorem Try.info5 : (Try.prog.info? 5).map (fun i => (i.zero, i.size, i.bytes)) = some (some (.int .u8 0), 1, 1) := by kernel_rfl
theorem add_plain (b j : Nat) : (⟨b, 0, none⟩ : Addr).add j = ⟨b, j, none⟩ := by unfold Addr.add; split <;> simp_all
theorem str22 (W : World) (a : Addr) (cap : Nat) (l : List UInt8) (n : Nat) (hn : l.length = n) (hc : ∀ j (hj : j < l.length), W.cell? (a.add j) = some (.int .u8 (l[j].toNat : Int))) :
    (convert 44 9 (.slice (some a) n cap)).run Try.prog W = .ok (.string ⟨l.toArray⟩) W := by
  subst hn
  exact run_convert_bytes_back W 44 9 5 a cap l Try.underlying44 Try.underlying5 Try.underlying9 hc
def bs (l : List UInt8) : List Value := l.map (fun c => .int .u8 (c.toNat : Int))
theorem bs_length (l : List UInt8) : (bs l).length = l.length := by simp [bs]
theorem bs_snoc (l : List UInt8) (c : UInt8) : bs (l ++ [c]) = bs l ++ [.int .u8 (c.toNat : Int)] := by simp [bs]
/-- a string made of a row of bytes that the call owns -/
theorem str_own (W : World) (base : Nat) (v : Value) (l : List UInt8) (h : W.ownsRow base 5 1 v l.length (bs l)) :
    (convert 44 9 v).run Try.prog W = .ok (.string ⟨l.toArray⟩) W := by
  rcases h.2 with ⟨rfl, hn⟩ | ⟨g, cap, cur, rfl, hb, hg, hc1, hc2, hc3, hc4⟩
  · have : l = [] := List.length_eq_zero_iff.1 hn
    subst this
    exact run_convert_bytes_nil W 44 5 Try.underlying44 Try.underlying5 0 0 9 Try.underlying9
  · refine run_convert_bytes_back W 44 9 5 ⟨g, 0, none⟩ cap l Try.underlying44 Try.underlying5 Try.underlying9 fun j hj => ?_
    exact h.cells rfl j _ (by simp [bs, List.getElem?_eq_getElem hj])
/-- one byte more behind a row of bytes that the call owns -/
theorem append_byte {ops : Array Oper} {rest : List Oper} {o : Oper} {a : Act} {Q : Exit → Act → World → Prop} {w0 wr : World} (B : Nat) (hgd : o.guard = none) (s x : Operand)
    (ho : o.op = .call { callee := .builtin .append, args := #[s, x], argTypes := #[44, 44] }) (v : Value) (pre : List UInt8) (hs : a.eval s = v) (hown : wr.ownsRow B 5 1 v pre.length (bs pre))
    (c : UInt8) (n : Int) (hn : n = (c.toNat : Int)) (hx : a.eval x = .slice (some ⟨wr.heap.size, 0, none⟩) 1 1) (hlen : pre.length ≤ 1000000000) (hB : B ≤ wr.heap.size) (hbel : Below B w0 wr)
    (h : ∀ v' w', w'.ownsRow B 5 1 v' (pre ++ [c]).length (bs (pre ++ [c])) → Below B w0 w' → B ≤ w'.heap.size → wpList Try.prog ops Q rest (a.put o.dst v') w') :
    wpList Try.prog ops Q (o :: rest) a (wr.alloc (.cells #[.int .u8 n] 5)) := by
  obtain ⟨i0, hi, hz0, hz1, hz2⟩ := info_parts Try.info5
  subst hn
  refine wpList_append_own _ hgd s x 44 ho B 5 i0 (.int .u8 0) 1 1 Try.underlying44 hi hz0 hz1 hz2 rfl (by decide) v pre.length (bs pre) hs (hown.alloc _) ⟨wr.heap.size, 0, none⟩ 1 1 [.int .u8 (c.toNat : Int)] hx rfl (cell_one_new _ _ _) ?_ ?_ ?_ ?_ ?_
  · intro u hu; simp at hu; subst hu; rfl
  · unfold maxLen; omega
  · omega
  · simp; omega
  · intro v' w' h1 h2 h3
    have hb' : Below B w0 w' := (hbel.alloc hB _).grown h2 (by simp; omega) (fun k hk => (hown.lt k hk).1)
    refine h v' w' ?_ hb' (Nat.le_trans hB (by have := h2.size; simp at this; omega))
    rw [bs_snoc]; simpa using h1
/-- the value of a row that the call owns is a slice -/
theorem own_slice {w : World} {B e z n : Nat} {v : Value} {xs : List Value} (h : w.ownsRow B e z v n xs) : ∃ ao cap, v = .slice ao n cap := by
  rcases h.2 with ⟨rfl, rfl⟩ | ⟨g, cap, cur, rfl, _⟩
  · exact ⟨none, 0, rfl⟩
  · exact ⟨_, cap, rfl⟩
/-- the last byte of such a row -/
theorem own_last {w : World} {B n cap : Nat} {ao : Option Addr} {pre : List UInt8} {c : UInt8} (h : w.ownsRow B 5 1 (.slice ao n cap) pre.length (bs pre)) (hn : n = pre.length) (hc : pre.getLast? = some c) :
    ∃ g, ao = some ⟨g, 0, none⟩ ∧ w.cell? ⟨g, n - 1, none⟩ = some (.int .u8 (c.toNat : Int)) := by
  have h0 : 0 < pre.length := by
    rcases pre with _ | ⟨x, l⟩
    · simp at hc
    · simp
  obtain ⟨g, cp, hv, _, _⟩ := h.form h0
  have e : ao = some ⟨g, 0, none⟩ := by injection hv
  subst e
  refine ⟨g, rfl, ?_⟩
  have := h.cells (g := g) rfl (n - 1) (.int .u8 (c.toNat : Int)) (by
    rw [bs, List.getElem?_map, hn, ← List.getLast?_eq_getElem?, hc]; rfl)
  rw [add_plain] at this
  exact this
theorem ret_str {a b : ByteArray} (h : a = b) : Ending.returned (.string a) = .returned (.string b) := by rw [h]
theorem size_len (s : ByteArray) : s.data.toList.length = s.size := by simp
end Go.Proofs.Ytohcdpoffpnfhaa
/- Norm: what the texts of the program and of the specification return. -/
namespace Go.Proofs.Ytohcdpoffpnfhaa
open Go.RowKit

theorem ret_int' {k : IntKind} {a b : Int} (h : a = b) : Ending.returned (.int k a) = .returned (.int k b) := by rw [h]
end Go.Proofs.Ytohcdpoffpnfhaa
/- Norm: what the specification's text returns. -/
namespace Go.Proofs.Ytohcdpoffpnfhaa
open Go.RowKit

theorem last_some {pre : List UInt8} (h : pre ≠ []) : ∃ c, pre.getLast? = some c := ⟨pre.getLast h, List.getLast?_eq_some_getLast h⟩
theorem Try.elem44 : Try.prog.elem 44 = 5 := by kernel_rfl
/-- the row without its last byte -/
theorem cut_last (W : World) (g n cap : Nat) (hn : 0 < n) (hc : n ≤ cap) :
    (Instr.slice 44 (.slice (some ⟨g, 0, none⟩) n cap) none (some (.int .i64 ((n : Int) - 1))) none).run Try.prog W = .ok (.slice (some ⟨g, 0, none⟩) (n - 1) cap) W := by
  rw [run_slice_h W 44 (some ⟨g, 0, none⟩) n cap (by rw [Try.elem44]; exact Try.underlying44) .i64 ((n : Int) - 1) (by omega) (by omega), Try.elem44, Try.size5]
  have e : ((n : Int) - 1).toNat = n - 1 := by omega
  simp [Result.andThen, sliced, e]
  intro _; exact add_plain g 0
theorem own_cap {w : World} {B e z n m cap : Nat} {ao : Option Addr} {xs : List Value} (h : w.ownsRow B e z (.slice ao m cap) n xs) : n ≤ cap := by
  rcases h.2 with ⟨h, h'⟩ | ⟨_, _, _, h, _, _, h', _⟩
  · omega
  · injection h with _ _ h; omega
/-- what is known at the head of a round of Norm -/
def NormAt (s : ByteArray) (w : World) (v i : Value) (wr : World) (k : Nat) : Prop :=
  k ≤ s.size ∧ i = .int .i64 k ∧ wr.ownsRow w.heap.size 5 1 v (nfold (s.data.toList.take k)).length (bs (nfold (s.data.toList.take k))) ∧ Below w.heap.size w wr
theorem nat_of_u8 {c : UInt8} {n : Nat} (h : (c.toNat : Int) = n) (hn : n < 256) : c = UInt8.ofNat n := by
  apply UInt8.toNat_inj.1
  simp; omega
theorem nfold_take (s : ByteArray) (k : Nat) (h : k < s.size) : nfold (s.data.toList.take (k + 1)) = nstep (nfold (s.data.toList.take k)) s[k] := by rw [take_snoc s k h, nfold_snoc]
theorem nfold_take_len (s : ByteArray) (k : Nat) (hs : s.size ≤ 100) : (nfold (s.data.toList.take k)).length ≤ 100 := by
  refine Nat.le_trans (nfold_len _) ?_
  rw [List.length_take, size_len]; omega

end Go.Proofs.Ytohcdpoffpnfhaa
/- concat: what the program's text returns. -/
namespace Go.Proofs.Ytohcdpoffpnfhaa
open Go.RowKit

def joinL (ss : List ByteArray) : List UInt8 := ss.flatMap (fun s => s.data.toList)
def joinS (ss : List ByteArray) : ByteArray := ⟨(joinL ss).toArray⟩
theorem joinL_snoc (ss : List ByteArray) (s : ByteArray) : joinL (ss ++ [s]) = joinL ss ++ s.data.toList := by simp [joinL]
theorem joinL_split (ss : List ByteArray) (k : Nat) : joinL ss = joinL (ss.take k) ++ joinL (ss.drop k) := by
  have h := List.take_append_drop k ss
  unfold joinL
  rw [← List.flatMap_append, h]
theorem joinL_take_le (ss : List ByteArray) (k : Nat) : (joinL (ss.take k)).length ≤ (joinL ss).length := by
  rw [joinL_split ss k]; simp
theorem joinL_take_succ (ss : List ByteArray) (k : Nat) (h : k < ss.length) : joinL (ss.take (k + 1)) = joinL (ss.take k) ++ (ss[k]).data.toList := by
  rw [List.take_succ_eq_append_getElem h, joinL_snoc]
theorem modify_push {α : Type} (A : Array α) (x : α) (f : α → α) : (A.push x).modify A.size f = A.push (f x) := by
  apply Array.ext_getElem?
  intro i
  rw [Array.getElem?_modify, Array.getElem?_push, Array.getElem?_push]
  by_cases h : A.size = i
  · subst h; simp
  · rw [if_neg h, if_neg (fun e => h e.symm), if_neg (fun e => h e.symm)]
theorem setRow_alloc (w : World) (C X : Array Value) : (w.alloc (.cells C 5)).setRow w.heap.size X = w.alloc (.cells X 5) := by
  unfold World.setRow World.alloc
  simp only [modify_push]
theorem info5size : (Try.prog.info? 5).map (·.size) = some 1 := by kernel_rfl

/-- out[at:] and the copy of s into it -/
theorem cut_copy (w : World) (C : Array Value) (n k : Nat) (s : ByteArray) (hC : C.size = n) (hk : k + s.size ≤ n) :
    ∃ A : Addr, (∀ W : World, (Instr.slice 44 (.slice (some ⟨w.heap.size, 0, none⟩) n n) (some (.int .i64 (k : Int))) none none).run Try.prog W = .ok (.slice (some A) (n - k) (n - k)) W) ∧
      (Builtin.copy_ #[44, 9] 3 #[.slice (some A) (n - k) (n - k), .string s]).run Try.prog (w.alloc (.cells C 5)) =
        .ok (.int .i64 (s.size : Int)) (w.alloc (.cells (C.toList.take k ++ bs s.data.toList ++ C.toList.drop (k + s.size)).toArray 5)) := by
  refine ⟨if n = k then ⟨w.heap.size, 0, none⟩ else ⟨w.heap.size, k, none⟩, fun W => ?_, ?_⟩
  · rw [run_slice_l W 44 (some ⟨w.heap.size, 0, none⟩) n n (by rw [Try.elem44]; exact Try.underlying44) .i64 (k : Int) (by omega) (by omega), Try.elem44, Try.size5]
    simp [Result.andThen, sliced]
    split <;> simp [add_plain]
  · by_cases e : n = k
    · have hs0 : s.size = 0 := by omega
      rw [if_pos e, Lib.run_copy_empty_string _ 44 9 3 5 _ _ _ s Try.underlying44 (by rw [info5size]; rfl) hs0]
      have hl : s.data.toList = [] := List.eq_nil_of_length_eq_zero (by rw [size_len]; exact hs0)
      rw [hl, hs0]
      have hL : C.toList.length = n := by simpa using hC
      simp [bs, goInt]
    · rw [if_neg e, Lib.run_copy_row_string _ 44 9 3 5 w.heap.size k (n - k) (n - k) s C 5 Try.underlying44 info5size (heap_alloc_new w _) (by omega) (by omega), setRow_alloc]
      rfl

/-- what the copied row holds -/
theorem copied (C : Array Value) (n k : Nat) (l m : List UInt8) (hC : C.size = n) (hl : l.length = k) (hk : k + m.length ≤ n) (hp : C.toList.take k = bs l) :
    (C.toList.take k ++ bs m ++ C.toList.drop (k + m.length)).toArray.size = n ∧
      (C.toList.take k ++ bs m ++ C.toList.drop (k + m.length)).toArray.toList.take (k + m.length) = bs (l ++ m) := by
  have hL : C.toList.length = n := by simpa using hC
  refine ⟨by simp [bs_length]; omega, ?_⟩
  rw [hp]
  have : bs (l ++ m) = bs l ++ bs m := by simp [bs]
  have hlen : (bs l ++ bs m).length = k + m.length := by simp [bs_length, hl]
  rw [this, ← hlen]
  exact List.take_left

theorem cut_copied (w : World) (C : Array Value) (n : Nat) (l : List UInt8) (s : ByteArray) (hC : C.size = n) (hk : l.length + s.size ≤ n) (hp : C.toList.take l.length = bs l) :
    ∃ (A : Addr) (X : Array Value), (X.size = n ∧ X.toList.take (l.length + s.size) = bs (l ++ s.data.toList)) ∧
      (∀ W : World, (Instr.slice 44 (.slice (some ⟨w.heap.size, 0, none⟩) n n) (some (.int .i64 (l.length : Int))) none none).run Try.prog W = .ok (.slice (some A) (n - l.length) (n - l.length)) W) ∧
      (Builtin.copy_ #[44, 9] 3 #[.slice (some A) (n - l.length) (n - l.length), .string s]).run Try.prog (w.alloc (.cells C 5)) = .ok (.int .i64 (s.size : Int)) (w.alloc (.cells X 5)) := by
  obtain ⟨A, h1, h2⟩ := cut_copy w C n l.length s hC hk
  have h3 := copied C n l.length l s.data.toList hC rfl (by rw [size_len]; exact hk) hp
  rw [size_len] at h3
  exact ⟨A, _, h3, h1, h2⟩

set_option maxRecDepth 100000 in
set_option maxHeartbeats 400000 in
theorem concat_any (b off cap : Nat) (ss : List ByteArray) (w : World) (hm : ss.length ≤ 1000000) (hb : b < w.heap.size) (hlen : (joinL ss).length ≤ 1000000000)
    (hcell : ∀ i (hi : i < ss.length), w.cell? ⟨b, off + i, none⟩ = some (.string ss[i])) :
    Calls Try.prog 34 #[.slice (some ⟨b, off, none⟩) ss.length cap] w fun e w' => e = .returned (.string (joinS ss)) ∧ Below w.heap.size w w' := by
  have Hc := Lib.hid hcell; clear hcell
  have hmk := fun (n : Nat) (h : n ≤ 1000000000) => run_make_row' (P := Try.prog) 44 5 (.int .u8 0) 1 Try.underlying44 Try.info5 rfl .i64 .i64 n (by omega) (by omega)
  have Hmk := Lib.hid hmk; clear hmk
  go_enter Try.func34, Try.ntmps34
  go_wp2
  go_loop [3, 12] (fun t i => ∃ k : Nat, k ≤ ss.length ∧ i = .int .i64 k ∧ t = .int .i64 ((joinL (ss.take k)).length : Nat)) (fun _ i => ss.length - (intOf i).toNat)
  case atStart => exact ⟨0, Nat.zero_le _, rfl, rfl⟩
  case round =>
    obtain ⟨k, hk, rfl, rfl⟩ := hrel
    have hle := joinL_take_le ss k
    by_cases hlt : k < ss.length
    · have hck := Hc.out k hlt
      have hs2 := joinL_take_le ss (k + 1)
      have HS := Lib.hid (joinL_take_succ ss k hlt)
      rw [HS.out, List.length_append, size_len] at hs2
      generalize hq : (joinL (ss.take k)).length = q at *
      have Hq := Lib.hid hq; clear hq
      go_wp2
      go_round
      case rel => exact ⟨k + 1, by omega, by go_num, by rw [HS.out, List.length_append, Hq.out, size_len]; go_num⟩
      case measure => simp [intOf]; omega
    · have e : ss.take k = ss := List.take_of_length_le (by omega)
      rw [e]
      clear e hle
      have hM := Hmk.out _ hlen w
      generalize hn : (joinL ss).length = n at *
      have Hn := Lib.hid hn; clear hn
      have hMz : (madeCells #[Value.int IntKind.u8 0] n).size = n := size_madeCells _ _
      generalize madeCells #[Value.int IntKind.u8 0] n = M at *
      have HM := Lib.hid hMz; clear hMz
      go_wp2
      go_loopw [7, 25] (fun t i wr => ∃ (j : Nat) (C : Array Value), j ≤ ss.length ∧ i = .int .i64 j ∧ t = .int .i64 ((joinL (ss.take j)).length : Nat) ∧ C.size = n ∧ C.toList.take (joinL (ss.take j)).length = bs (joinL (ss.take j)) ∧ wr = w.alloc (.cells C 5)) (fun _ i _ => ss.length - (intOf i).toNat)
      case atStart => exact ⟨0, M, Nat.zero_le _, rfl, rfl, HM.out, by simp [joinL, bs], rfl⟩
      case round =>
        clear hM HM
        obtain ⟨j, C, hj, rfl, rfl, hC, hp, rfl⟩ := hrel
        have HC := Lib.hid hC; clear hC
        have Hp := Lib.hid hp; clear hp
        by_cases hjlt : j < ss.length
        · have hck : (w.alloc (.cells C 5)).cell? ⟨b, off + j, none⟩ = some (.string ss[j]) := by
            rw [(Below.refl w.heap.size w |>.alloc (Nat.le_refl _) (.cells C 5)).cell hb]; exact Hc.out j hjlt
          have hs2 := joinL_take_le ss (j + 1)
          have HS := Lib.hid (joinL_take_succ ss j hjlt)
          rw [HS.out, List.length_append, size_len, Hn.out] at hs2
          obtain ⟨A, X, hX, hsl, hcp⟩ := cut_copied w C n (joinL (ss.take j)) ss[j] HC.out hs2 Hp.out
          have HX := Lib.hid hX; clear hX
          generalize hq : (joinL (ss.take j)).length = q at *
          have Hq := Lib.hid hq; clear hq
          go_wp2
          go_roundw
          case rel =>
            refine ⟨j + 1, X, by omega, by go_num, ?_, HX.out.1, ?_, rfl⟩
            · rw [HS.out, List.length_append, Hq.out, size_len]; go_num
            · rw [HS.out, List.length_append, Hq.out, size_len]; exact HX.out.2
          case measure => simp [intOf]; omega
        · have e : ss.take j = ss := List.take_of_length_le (by omega)
          have h1 := Hp.out
          rw [e, Hn.out] at h1
          rw [e, Hn.out]
          have hstr := str22 (w.alloc (.cells C 5)) ⟨w.heap.size, 0, none⟩ n (joinL ss) n Hn.out (fun i hi => by
            rw [add_plain, World.cell?_alloc_mark]
            have h2 : C.toList[i]? = (bs (joinL ss))[i]? := by rw [← h1, List.getElem?_take_of_lt (by rw [← Hn.out]; exact hi)]
            rw [← Array.getElem?_toList, h2]
            simp [bs, List.getElem?_eq_getElem hi])
          clear e h1
          go_wp2
          go_ret
          exact ⟨rfl, (Below.refl _ _).alloc (Nat.le_refl _) _⟩
theorem joinS_one (a : ByteArray) : joinS [a] = a := by
  apply ByteArray.ext
  simp [joinS, joinL]
theorem joinS_two (a b : ByteArray) : joinS [a, b] = a ++ b := by
  apply ByteArray.ext
  simp [joinS, joinL]
theorem concat_one (a : ByteArray) (w : World) (h : a.size ≤ 1000000) :
    Calls Try.prog 34 #[.slice (some ⟨w.heap.size, 0, none⟩) 1 1] (w.alloc (.cells #[.string a] 9)) fun e w' => e = .returned (.string a) ∧ Below w.heap.size w w' := by
  have := concat_any w.heap.size 0 1 [a] (w.alloc (.cells #[.string a] 9)) (by simp) (by simp) (by simp [joinL]; omega) (fun i hi => by
    match i, hi with
    | 0, _ => simp)
  rw [joinS_one] at this
  exact this.mono fun e w' ⟨he, hb⟩ => ⟨he, ((Below.refl _ _).alloc (Nat.le_refl _) _).trans (hb.mono (by simp))⟩
end Go.Proofs.Ytohcdpoffpnfhaa
/- BER: plain mathematics. -/
namespace Go.Proofs.Ytohcdpoffpnfhaa
open Go.RowKit

def tagOk (n : Int) : Prop := 0 ≤ n ∧ n ≤ 255 ∧ n % 32 ≠ 31
instance (n : Int) : Decidable (tagOk n) := by unfold tagOk; exact inferInstance
/-- the bytes of a length -/
def lenL (n : Nat) : List UInt8 :=
  if n < 128 then [UInt8.ofNat n] else if n < 256 then [129, UInt8.ofNat n] else [130, UInt8.ofNat (n / 256), UInt8.ofNat (n % 256)]
theorem lenL_1 {n : Nat} (h : n < 128) : lenL n = [UInt8.ofNat n] := by unfold lenL; rw [if_pos h]
theorem lenL_2 {n : Nat} (h : ¬ n < 128) (h2 : n < 256) : lenL n = [129, UInt8.ofNat n] := by unfold lenL; rw [if_neg h, if_pos h2]
theorem lenL_3 {n : Nat} (h : ¬ n < 128) (h2 : ¬ n < 256) : lenL n = [130, UInt8.ofNat (n / 256), UInt8.ofNat (n % 256)] := by unfold lenL; rw [if_neg h, if_neg h2]
theorem lenL_le (n : Nat) : (lenL n).length ≤ 3 := by
  unfold lenL
  split
  · simp
  · split <;> simp
def lenS (n : Nat) : ByteArray := ⟨(lenL n).toArray⟩
def putB (tag : Int) (body : ByteArray) : ByteArray := ⟨(UInt8.ofNat tag.toNat :: lenL body.size).toArray⟩ ++ body
def putV (tag : Int) (body : ByteArray) : ByteArray := if tagOk tag ∧ body.size ≤ 4000 then putB tag body else ByteArray.empty
theorem joinS_put (tag : Int) (body : ByteArray) : joinS [⟨#[UInt8.ofNat tag.toNat]⟩, lenS body.size, body] = putB tag body := by
  apply ByteArray.ext
  simp [joinS, joinL, putB, lenS]
theorem putV_in {tag : Int} {body : ByteArray} (h : tagOk tag) (h2 : body.size ≤ 4000) : putV tag body = putB tag body := by unfold putV; rw [if_pos ⟨h, h2⟩]
theorem putV_tag {tag : Int} {body : ByteArray} (h : ¬ tagOk tag) : putV tag body = ByteArray.empty := by unfold putV; rw [if_neg (fun x => h x.1)]
theorem putV_long {tag : Int} {body : ByteArray} (h : ¬ body.size ≤ 4000) : putV tag body = ByteArray.empty := by unfold putV; rw [if_neg (fun x => h x.2)]

/-- a length that is read: its code, the length, the place behind it -/
def lenR (t : ByteArray) (k : Nat) : Int × Nat × Nat :=
  if h : k < t.size then
    if t[k].toNat < 128 then (0, t[k].toNat, k + 1)
    else if t[k].toNat = 129 then
      if h1 : k + 1 < t.size then (if t[k + 1].toNat < 128 then (3, 0, 0) else (0, t[k + 1].toNat, k + 2)) else (4, 0, 0)
    else if t[k].toNat = 130 then
      if h2 : k + 2 < t.size then (if t[k + 1].toNat * 256 + t[k + 2].toNat < 256 ∨ 4000 < t[k + 1].toNat * 256 + t[k + 2].toNat then (3, 0, 0) else (0, t[k + 1].toNat * 256 + t[k + 2].toNat, k + 3)) else (4, 0, 0)
    else (3, 0, 0)
  else (4, 0, 0)
theorem lenR_end {t : ByteArray} {k : Nat} (h : ¬ k < t.size) : lenR t k = (4, 0, 0) := by unfold lenR; rw [dif_neg h]
theorem lenR_1 {t : ByteArray} {k : Nat} (h : k < t.size) (h1 : t[k].toNat < 128) : lenR t k = (0, t[k].toNat, k + 1) := by unfold lenR; rw [dif_pos h, if_pos h1]
theorem lenR_no {t : ByteArray} {k : Nat} (h : k < t.size) (h1 : ¬ t[k].toNat < 128) (h2 : t[k].toNat ≠ 129) (h3 : t[k].toNat ≠ 130) : lenR t k = (3, 0, 0) := by
  unfold lenR; rw [dif_pos h, if_neg h1, if_neg h2, if_neg h3]
theorem lenR_2short {t : ByteArray} {k : Nat} (h : k < t.size) (h1 : t[k].toNat = 129) (h2 : ¬ k + 1 < t.size) : lenR t k = (4, 0, 0) := by
  unfold lenR; rw [dif_pos h, if_neg (by omega), if_pos h1, dif_neg h2]
theorem lenR_2bad {t : ByteArray} {k : Nat} (h : k < t.size) (h1 : t[k].toNat = 129) (h2 : k + 1 < t.size) (h3 : t[k + 1].toNat < 128) : lenR t k = (3, 0, 0) := by
  unfold lenR; rw [dif_pos h, if_neg (by omega), if_pos h1, dif_pos h2, if_pos h3]
theorem lenR_2ok {t : ByteArray} {k : Nat} (h : k < t.size) (h1 : t[k].toNat = 129) (h2 : k + 1 < t.size) (h3 : ¬ t[k + 1].toNat < 128) : lenR t k = (0, t[k + 1].toNat, k + 2) := by
  unfold lenR; rw [dif_pos h, if_neg (by omega), if_pos h1, dif_pos h2, if_neg h3]
theorem lenR_3short {t : ByteArray} {k : Nat} (h : k < t.size) (h1 : t[k].toNat = 130) (h2 : ¬ k + 2 < t.size) : lenR t k = (4, 0, 0) := by
  unfold lenR; rw [dif_pos h, if_neg (by omega), if_neg (by omega), if_pos h1, dif_neg h2]
theorem lenR_3bad {t : ByteArray} {k : Nat} (h : k < t.size) (h1 : t[k].toNat = 130) (h2 : k + 2 < t.size) (h3 : t[k + 1].toNat * 256 + t[k + 2].toNat < 256 ∨ 4000 < t[k + 1].toNat * 256 + t[k + 2].toNat) : lenR t k = (3, 0, 0) := by
  unfold lenR; rw [dif_pos h, if_neg (by omega), if_neg (by omega), if_pos h1, dif_pos h2, if_pos h3]
theorem lenR_3ok {t : ByteArray} {k : Nat} (h : k < t.size) (h1 : t[k].toNat = 130) (h2 : k + 2 < t.size) (h3 : ¬ (t[k + 1].toNat * 256 + t[k + 2].toNat < 256 ∨ 4000 < t[k + 1].toNat * 256 + t[k + 2].toNat)) :
    lenR t k = (0, t[k + 1].toNat * 256 + t[k + 2].toNat, k + 3) := by
  unfold lenR; rw [dif_pos h, if_neg (by omega), if_neg (by omega), if_pos h1, dif_pos h2, if_neg h3]
/-- what is read is in its bounds -/
theorem lenR_form (t : ByteArray) (k : Nat) : (∃ c : Int, (c = 3 ∨ c = 4) ∧ lenR t k = (c, 0, 0)) ∨ (∃ n e, lenR t k = (0, n, e) ∧ n ≤ 4000 ∧ k < e ∧ e ≤ t.size) := by
  by_cases h : k < t.size
  · by_cases h1 : t[k].toNat < 128
    · exact .inr ⟨_, _, lenR_1 h h1, by omega, by omega, by omega⟩
    · by_cases h2 : t[k].toNat = 129
      · by_cases h3 : k + 1 < t.size
        · by_cases h4 : t[k + 1].toNat < 128
          · exact .inl ⟨3, .inl rfl, lenR_2bad h h2 h3 h4⟩
          · exact .inr ⟨_, _, lenR_2ok h h2 h3 h4, by have := t[k + 1].toNat_lt; omega, by omega, by omega⟩
        · exact .inl ⟨4, .inr rfl, lenR_2short h h2 h3⟩
      · by_cases h3 : t[k].toNat = 130
        · by_cases h4 : k + 2 < t.size
          · by_cases h5 : t[k + 1].toNat * 256 + t[k + 2].toNat < 256 ∨ 4000 < t[k + 1].toNat * 256 + t[k + 2].toNat
            · exact .inl ⟨3, .inl rfl, lenR_3bad h h3 h4 h5⟩
            · exact .inr ⟨_, _, lenR_3ok h h3 h4 h5, by omega, by omega, by omega⟩
          · exact .inl ⟨4, .inr rfl, lenR_3short h h3 h4⟩
        · exact .inl ⟨3, .inl rfl, lenR_no h h1 h2 h3⟩
  · exact .inl ⟨4, .inr rfl, lenR_end h⟩
/-- an element that is read at k: tag, body, the place behind it, code -/
abbrev GotT := (Int × ByteArray) × Int × Int
def noGot (c : Int) : GotT := ((0, ByteArray.empty), 0, c)
def getN (t : ByteArray) (k : Nat) : GotT :=
  if h : k < t.size then
    if tagOk (t[k].toNat : Int) then
      if (lenR t (k + 1)).1 = 0 then
        if (lenR t (k + 1)).2.2 + (lenR t (k + 1)).2.1 ≤ t.size then (((t[k].toNat : Int), t.extract (lenR t (k + 1)).2.2 ((lenR t (k + 1)).2.2 + (lenR t (k + 1)).2.1)), (((lenR t (k + 1)).2.2 + (lenR t (k + 1)).2.1 : Nat) : Int), 0)
        else noGot 4
      else noGot (lenR t (k + 1)).1
    else noGot 3
  else noGot 4
def getV (t : ByteArray) (at_ : Int) : GotT := if 8000 < t.size then noGot 2 else if at_ < 0 then noGot 1 else getN t at_.toNat
theorem getN_end {t : ByteArray} {k : Nat} (h : ¬ k < t.size) : getN t k = noGot 4 := by unfold getN; rw [dif_neg h]
theorem getN_tag {t : ByteArray} {k : Nat} (h : k < t.size) (h1 : ¬ tagOk (t[k].toNat : Int)) : getN t k = noGot 3 := by unfold getN; rw [dif_pos h, if_neg h1]
theorem getN_len {t : ByteArray} {k : Nat} {c : Int} (h : k < t.size) (h1 : tagOk (t[k].toNat : Int)) (hc : c = 3 ∨ c = 4) (h2 : lenR t (k + 1) = (c, 0, 0)) : getN t k = noGot c := by
  unfold getN; rw [dif_pos h, if_pos h1, h2]; rcases hc with rfl | rfl <;> rfl
theorem getN_short {t : ByteArray} {k n e : Nat} (h : k < t.size) (h1 : tagOk (t[k].toNat : Int)) (h2 : lenR t (k + 1) = (0, n, e)) (h3 : ¬ e + n ≤ t.size) : getN t k = noGot 4 := by
  unfold getN; rw [dif_pos h, if_pos h1, h2]; simp only [if_true]; rw [if_neg h3]
theorem getN_ok {t : ByteArray} {k n e : Nat} (h : k < t.size) (h1 : tagOk (t[k].toNat : Int)) (h2 : lenR t (k + 1) = (0, n, e)) (h3 : e + n ≤ t.size) :
    getN t k = (((t[k].toNat : Int), t.extract e (e + n)), ((e + n : Nat) : Int), 0) := by
  unfold getN; rw [dif_pos h, if_pos h1, h2]; simp only [if_true]; rw [if_pos h3]
theorem getV_long {t : ByteArray} {x : Int} (h : 8000 < t.size) : getV t x = noGot 2 := by unfold getV; rw [if_pos h]
theorem getV_neg {t : ByteArray} {x : Int} (h : ¬ 8000 < t.size) (h2 : x < 0) : getV t x = noGot 1 := by unfold getV; rw [if_neg h, if_pos h2]
theorem getV_in {t : ByteArray} {k : Nat} (h : ¬ 8000 < t.size) : getV t (k : Int) = getN t k := by unfold getV; rw [if_neg h, if_neg (by omega)]; rfl
/-- an element that is read goes on, and ends within the text -/
theorem getN_at {t : ByteArray} {k : Nat} (h : (getN t k).2.2 = 0) : ∃ e : Nat, (getN t k).2.1 = (e : Int) ∧ k + 2 ≤ e ∧ e ≤ t.size ∧ (getN t k).1.2.size ≤ t.size := by
  by_cases h0 : k < t.size
  · by_cases h1 : tagOk (t[k].toNat : Int)
    · rcases lenR_form t (k + 1) with ⟨c, hc, h2⟩ | ⟨n, e, h2, h3, h4, h5⟩
      · rw [getN_len h0 h1 hc h2] at h
        rcases hc with rfl | rfl <;> exact absurd h (by decide)
      · by_cases h6 : e + n ≤ t.size
        · rw [getN_ok h0 h1 h2 h6]
          exact ⟨e + n, rfl, by omega, h6, by simp; omega⟩
        · rw [getN_short h0 h1 h2 h6] at h; exact absurd h (by decide)
    · rw [getN_tag h0 h1] at h; exact absurd h (by decide)
  · rw [getN_end h0] at h; exact absurd h (by decide)
/-- all elements from k on; a: those ahead of it. f: fuel -/
def allG (t : ByteArray) : Nat → Nat → List (Int × ByteArray) → List (Int × ByteArray) × Int
  | 0, _, a => (a, 0)
  | f + 1, k, a => if k < t.size then
      (if (getN t k).2.2 = 0 then (if a.length < 60 then allG t f (getN t k).2.1.toNat (a ++ [(getN t k).1]) else ([], 9)) else ([], (getN t k).2.2))
    else (a, 0)
def allV (t : ByteArray) : List (Int × ByteArray) × Int := if 8000 < t.size then ([], 2) else allG t (t.size + 1) 0 []
/-- k has been reached, a has been read -/
def GoneTo (t : ByteArray) (k : Nat) (a : List (Int × ByteArray)) : Prop := k ≤ t.size ∧ a.length ≤ 60 ∧ ∃ f, t.size < f + k ∧ allG t f k a = allV t
theorem reach_start {t : ByteArray} (h : ¬ 8000 < t.size) : GoneTo t 0 [] := ⟨Nat.zero_le _, by simp, t.size + 1, by omega, by unfold allV; rw [if_neg h]⟩
theorem reach_end {t : ByteArray} {k : Nat} {a : List (Int × ByteArray)} (h : GoneTo t k a) (hk : ¬ k < t.size) : allV t = (a, 0) := by
  obtain ⟨_, _, f, hf, h⟩ := h
  cases f with
  | zero => exact h.symm
  | succ f => rw [← h, allG, if_neg hk]
theorem reach_bad {t : ByteArray} {k : Nat} {a : List (Int × ByteArray)} (h : GoneTo t k a) (hk : k < t.size) (hc : ¬ (getN t k).2.2 = 0) : allV t = ([], (getN t k).2.2) := by
  obtain ⟨_, _, f, hf, h⟩ := h
  cases f with
  | zero => omega
  | succ f => rw [← h, allG, if_pos hk, if_neg hc]
theorem reach_full {t : ByteArray} {k : Nat} {a : List (Int × ByteArray)} (h : GoneTo t k a) (hk : k < t.size) (hc : (getN t k).2.2 = 0) (h6 : ¬ a.length < 60) : allV t = ([], 9) := by
  obtain ⟨_, _, f, hf, h⟩ := h
  cases f with
  | zero => omega
  | succ f => rw [← h, allG, if_pos hk, if_pos hc, if_neg h6]
theorem reach_step {t : ByteArray} {k e : Nat} {a : List (Int × ByteArray)} (h : GoneTo t k a) (hk : k < t.size) (hc : (getN t k).2.2 = 0) (h6 : a.length < 60) (he : (getN t k).2.1 = (e : Int)) (hke : k < e) (het : e ≤ t.size) :
    GoneTo t e (a ++ [(getN t k).1]) := by
  obtain ⟨_, _, f, hf, h⟩ := h
  cases f with
  | zero => omega
  | succ f =>
    refine ⟨het, by simp; omega, f, by omega, ?_⟩
    rw [← h, allG, if_pos hk, if_pos hc, if_pos h6, he]
    rfl

/-- a number's bytes -/
def byteI (n : Int) (j : Nat) : UInt8 := UInt8.ofNat ((n / 256 ^ j) % 256).toNat
def beL (n : Int) : Nat → List UInt8
  | 0 => []
  | k + 1 => byteI n k :: beL n k
theorem beL_length (n : Int) (k : Nat) : (beL n k).length = k := by induction k with
  | zero => rfl
  | succ k ih => simp [beL, ih]
def fitI (n : Int) (j : Nat) : Prop := -128 ≤ n / 256 ^ j ∧ n / 256 ^ j ≤ 127
instance (n : Int) (j : Nat) : Decidable (fitI n j) := by unfold fitI; exact inferInstance
def cntI (n : Int) : Nat := if fitI n 0 then 1 else if fitI n 1 then 2 else if fitI n 2 then 3 else if fitI n 3 then 4 else if fitI n 4 then 5 else if fitI n 5 then 6 else if fitI n 6 then 7 else 8
def intS (n : Int) : ByteArray := ⟨(beL n (cntI n)).toArray⟩
theorem fit_last {n : Int} (h0 : -9223372036854775808 ≤ n) (h1 : n ≤ 9223372036854775807) : fitI n 7 := by
  unfold fitI
  rw [show (256 : Int) ^ 7 = 72057594037927936 by rfl]
  omega
theorem cntI_is {n : Int} (h0 : -9223372036854775808 ≤ n) (h1 : n ≤ 9223372036854775807) : 1 ≤ cntI n ∧ cntI n ≤ 8 ∧ fitI n (cntI n - 1) ∧ ∀ j, j < cntI n - 1 → ¬ fitI n j := by
  have h7 := fit_last h0 h1
  unfold cntI
  by_cases g0 : fitI n 0
  · rw [if_pos g0]; exact ⟨by decide, by decide, g0, fun j hj => by omega⟩
  rw [if_neg g0]
  by_cases g1 : fitI n 1
  · rw [if_pos g1]; exact ⟨by decide, by decide, g1, fun j hj => by rw [show j = 0 by omega]; exact g0⟩
  rw [if_neg g1]
  by_cases g2 : fitI n 2
  · rw [if_pos g2]; exact ⟨by decide, by decide, g2, fun j hj => by rcases (by omega : j = 0 ∨ j = 1) with rfl | rfl <;> assumption⟩
  rw [if_neg g2]
  by_cases g3 : fitI n 3
  · rw [if_pos g3]; exact ⟨by decide, by decide, g3, fun j hj => by rcases (by omega : j = 0 ∨ j = 1 ∨ j = 2) with rfl | rfl | rfl <;> assumption⟩
  rw [if_neg g3]
  by_cases g4 : fitI n 4
  · rw [if_pos g4]; exact ⟨by decide, by decide, g4, fun j hj => by rcases (by omega : j = 0 ∨ j = 1 ∨ j = 2 ∨ j = 3) with rfl | rfl | rfl | rfl <;> assumption⟩
  rw [if_neg g4]
  by_cases g5 : fitI n 5
  · rw [if_pos g5]; exact ⟨by decide, by decide, g5, fun j hj => by rcases (by omega : j = 0 ∨ j = 1 ∨ j = 2 ∨ j = 3 ∨ j = 4) with rfl | rfl | rfl | rfl | rfl <;> assumption⟩
  rw [if_neg g5]
  by_cases g6 : fitI n 6
  · rw [if_pos g6]; exact ⟨by decide, by decide, g6, fun j hj => by rcases (by omega : j = 0 ∨ j = 1 ∨ j = 2 ∨ j = 3 ∨ j = 4 ∨ j = 5) with rfl | rfl | rfl | rfl | rfl | rfl <;> assumption⟩
  rw [if_neg g6]
  exact ⟨by decide, by decide, h7, fun j hj => by rcases (by omega : j = 0 ∨ j = 1 ∨ j = 2 ∨ j = 3 ∨ j = 4 ∨ j = 5 ∨ j = 6) with rfl | rfl | rfl | rfl | rfl | rfl | rfl <;> assumption⟩
end Go.Proofs.Ytohcdpoffpnfhaa
/- BER: what BerPut returns, on both sides. -/
namespace Go.Proofs.Ytohcdpoffpnfhaa
open Go.RowKit
set_option linter.unusedVariables false

theorem and31 (x : Int) (h0 : 0 ≤ x) (h1 : x ≤ 255) : bits .and .i64 x 31 = x % 32 :=
  bits_mask .i64 8 (by decide) (fun n a b => by rw [IntKind.wrap_i64]; omega) 5 (by decide) x h0 (by omega)
theorem not_tag_neg {n : Int} (h : n < 0) : decide (tagOk n) = false := decide_eq_false (fun x => by have := x.1; omega)
theorem not_tag_big {n : Int} (h : 255 < n) : decide (tagOk n) = false := decide_eq_false (fun x => by have := x.2.1; omega)
theorem tag_low {n : Int} (h0 : 0 ≤ n) (h1 : n ≤ 255) : decide (tagOk n) = !(n % 32 == 31) := by
  by_cases h : n % 32 = 31
  · rw [decide_eq_false (fun x : tagOk n => x.2.2 h), h]; rfl
  · rw [decide_eq_true (show tagOk n from ⟨h0, h1, h⟩), beq_eq_false_iff_ne.2 h]; rfl
theorem ret_b {a b : Bool} (h : a = b) : Ending.returned (.bool a) = .returned (.bool b) := by rw [h]
set_option maxHeartbeats 400000 in
theorem isTag_any (n : Int) (w : World) :
    Calls Try.prog 33 #[.int .i64 n] w fun e w' => e = .returned (.bool (decide (tagOk n))) ∧ w = w' := by
  by_cases h0 : n < 0
  · have HR := Lib.hid (not_tag_neg h0)
    go_enter Try.func33, Try.ntmps33
    go_wp2
    go_ret
    exact ⟨ret_b HR.out.symm, rfl⟩
  have g0 : 0 ≤ n := by omega
  clear h0
  by_cases h1 : 255 < n
  · have HR := Lib.hid (not_tag_big h1)
    have h2 : ¬ n ≤ 255 := by omega
    go_enter Try.func33, Try.ntmps33
    go_wp2
    go_ret
    exact ⟨ret_b HR.out.symm, rfl⟩
  have g1 : n ≤ 255 := by omega
  have HR := Lib.hid (tag_low g0 g1)
  have hb := and31 n g0 g1
  clear h1
  go_enter Try.func33, Try.ntmps33
  go_wp2
  go_ret
  exact ⟨ret_b (by rw [HR.out]; rfl), rfl⟩
set_option maxHeartbeats 400000 in
theorem l09Is_any (n a b : Int) (w : World) :
    Calls Try.prog 55 #[.int .i64 n, .int .i64 a, .int .i64 b] w fun e w' => e = .returned (.bool (decide (a ≤ n) && decide (n ≤ b))) ∧ w = w' := by
  by_cases h : a ≤ n
  · go_enter Try.func55, Try.ntmps55
    go_wp2
    go_ret
    exact ⟨ret_b (by simp [h]), rfl⟩
  · have h' : n < a := by omega
    go_enter Try.func55, Try.ntmps55
    go_wp2
    go_ret
    exact ⟨ret_b (by simp; omega), rfl⟩
set_option maxHeartbeats 400000 in
theorem l09Tag_any (n : Int) (w : World) :
    Calls Try.prog 31 #[.int .i64 n] w fun e w' => e = .returned (.bool (decide (tagOk n))) ∧ w = w' := by
  by_cases h0 : n < 0
  · have HR := Lib.hid (not_tag_neg h0)
    have HB : Hid ((decide ((0 : Int) ≤ n) && decide (n ≤ 255)) = false) := Lib.hid (by simp; omega)
    go_enter Try.func31, Try.ntmps31
    go_wp2_with fail
    refine (l09Is_any n 0 255 _).mono ?_
    rintro e w1 ⟨rfl, rfl⟩
    rw [HB.out]
    go_wp2
    go_ret
    exact ⟨ret_b HR.out.symm, rfl⟩
  have g0 : 0 ≤ n := by omega
  clear h0
  by_cases h1 : 255 < n
  · have HR := Lib.hid (not_tag_big h1)
    have HB : Hid ((decide ((0 : Int) ≤ n) && decide (n ≤ 255)) = false) := Lib.hid (by simp; omega)
    go_enter Try.func31, Try.ntmps31
    go_wp2_with fail
    refine (l09Is_any n 0 255 _).mono ?_
    rintro e w1 ⟨rfl, rfl⟩
    rw [HB.out]
    go_wp2
    go_ret
    exact ⟨ret_b HR.out.symm, rfl⟩
  have g1 : n ≤ 255 := by omega
  have HR := Lib.hid (tag_low g0 g1)
  have HB : Hid ((decide ((0 : Int) ≤ n) && decide (n ≤ 255)) = true) := Lib.hid (by simp; omega)
  clear h1
  go_enter Try.func31, Try.ntmps31
  go_wp2_with fail
  refine (l09Is_any n 0 255 _).mono ?_
  rintro e w1 ⟨rfl, rfl⟩
  rw [HB.out]
  go_wp2
  go_ret
  exact ⟨ret_b (by rw [HR.out]; rfl), rfl⟩

theorem bytes_conv (l : List UInt8) (w : World) (C : Array Value) (n : Nat) (hn : l.length = n) (hC : C = (bs l).toArray) :
    (convert 44 9 (.slice (some ⟨w.heap.size, 0, none⟩) n n)).run Try.prog (w.alloc (.cells C 5)) = .ok (.string ⟨l.toArray⟩) (w.alloc (.cells C 5)) := by
  refine str22 _ ⟨w.heap.size, 0, none⟩ n l n hn fun j hj => ?_
  rw [add_plain, World.cell?_alloc_mark, hC]
  simp [bs, List.getElem?_eq_getElem hj]
theorem bytes_drew (l : List UInt8) (w : World) (C : Array Value) (n : Nat) (hn : l.length = n) (hC : C = (bs l).toArray) :
    (convert 44 9 (.slice (some ⟨w.heap.size, 0, none⟩) n n)).run Try.prog (w.alloc (.cells C 5)).drew = .ok (.string ⟨l.toArray⟩) (w.alloc (.cells C 5)).drew := by
  refine str22 _ ⟨w.heap.size, 0, none⟩ n l n hn fun j hj => ?_
  show (w.alloc (.cells C 5)).cell? _ = _
  rw [add_plain, World.cell?_alloc_mark, hC]
  simp [bs, List.getElem?_eq_getElem hj]
theorem bytes_next (l : List UInt8) (w : World) (o : Obj) (C : Array Value) (n : Nat) (hn : l.length = n) (hC : C = (bs l).toArray) :
    (convert 44 9 (.slice (some ⟨w.heap.size + 1, 0, none⟩) n n)).run Try.prog ((w.alloc o).alloc (.cells C 5)) = .ok (.string ⟨l.toArray⟩) ((w.alloc o).alloc (.cells C 5)) := by
  have h := bytes_conv l (w.alloc o) C n hn hC
  have e : (w.alloc o).heap.size = w.heap.size + 1 := by simp
  rw [e] at h
  exact h
theorem bytes_below (l : List UInt8) (w w2 : World) (C : Array Value) (n : Nat) (hn : l.length = n) (hC : C = (bs l).toArray) (hb : Below (w.alloc (.cells C 5)).drew.heap.size (w.alloc (.cells C 5)).drew w2) :
    (convert 44 9 (.slice (some ⟨w.heap.size, 0, none⟩) n n)).run Try.prog w2 = .ok (.string ⟨l.toArray⟩) w2 := by
  refine str22 _ ⟨w.heap.size, 0, none⟩ n l n hn fun j hj => ?_
  rw [add_plain, hb.cell (by simp)]
  show (w.alloc (.cells C 5)).cell? _ = _
  rw [World.cell?_alloc_mark, hC]
  simp [bs, List.getElem?_eq_getElem hj]
theorem u8_of (n : Nat) (h : n < 256) : ((UInt8.ofNat n).toNat : Int) = (n : Int) := by simp; omega
set_option maxHeartbeats 400000 in
theorem lengthBytes_any (n : Nat) (w : World) (hn : n ≤ 4000) :
    Calls Try.prog 35 #[.int .i64 (n : Int)] w fun e w' => e = .returned (.string (lenS n)) ∧ Below w.heap.size w w' := by
  by_cases h1 : n < 128
  · have h1' : (n : Int) < 128 := by omega
    have hcv := bytes_conv [UInt8.ofNat n] w #[.int .u8 (n : Int)] 1 rfl (by simp [bs]; omega)
    have HR : Hid (lenS n = ⟨[UInt8.ofNat n].toArray⟩) := Lib.hid (by unfold lenS; rw [lenL_1 h1])
    go_enter Try.func35, Try.ntmps35
    go_wp2
    go_ret
    exact ⟨ret_str HR.out.symm, (Below.refl _ _).alloc (Nat.le_refl _) _⟩
  by_cases h2 : n < 256
  · have h1' : ¬ (n : Int) < 128 := by omega
    have h2' : (n : Int) / 256 = 0 := by omega
    have hcv := bytes_conv [129, UInt8.ofNat n] w #[.int .u8 129, .int .u8 (n : Int)] 2 rfl (by simp [bs]; omega)
    have HR : Hid (lenS n = ⟨[129, UInt8.ofNat n].toArray⟩) := Lib.hid (by unfold lenS; rw [lenL_2 h1 h2])
    go_enter Try.func35, Try.ntmps35
    go_wp2
    go_ret
    exact ⟨ret_str HR.out.symm, (Below.refl _ _).alloc (Nat.le_refl _) _⟩
  · have h1' : ¬ (n : Int) < 128 := by omega
    have h2' : ((n : Int) / 256 == 0) = false := by rw [beq_eq_false_iff_ne]; omega
    have hcv := bytes_conv [130, UInt8.ofNat (n / 256), UInt8.ofNat (n % 256)] w #[.int .u8 130, .int .u8 ((n : Int) / 256), .int .u8 ((n : Int) % 256)] 3 rfl (by simp [bs]; omega)
    have HR : Hid (lenS n = ⟨[130, UInt8.ofNat (n / 256), UInt8.ofNat (n % 256)].toArray⟩) := Lib.hid (by unfold lenS; rw [lenL_3 h1 h2])
    go_enter Try.func35, Try.ntmps35
    go_wp2
    go_ret
    exact ⟨ret_str HR.out.symm, (Below.refl _ _).alloc (Nat.le_refl _) _⟩

theorem moreB {w0 W : World} (h : Below w0.heap.size w0 W) (o : Obj) : Below w0.heap.size w0 (W.alloc o) := h.alloc h.size o
theorem thenB {w0 W w1 : World} (h : Below w0.heap.size w0 W) (g : Below W.heap.size W w1) : Below w0.heap.size w0 w1 := h.trans (g.mono h.size)
theorem concat_three (B : Nat) (a b c : ByteArray) (w : World) (h : a.size + b.size + c.size ≤ 1000000) (hB : B < w.heap.size)
    (h0 : w.cell? ⟨B, 0, none⟩ = some (.string a)) (h1 : w.cell? ⟨B, 1, none⟩ = some (.string b)) (h2 : w.cell? ⟨B, 2, none⟩ = some (.string c)) :
    Calls Try.prog 34 #[.slice (some ⟨B, 0, none⟩) 3 3] w fun e w' => e = .returned (.string (joinS [a, b, c])) ∧ Below w.heap.size w w' := by
  exact concat_any B 0 3 [a, b, c] w (by simp) hB (by simp [joinL]; omega) (fun i hi => by
    match i, hi with
    | 0, _ => exact h0
    | 1, _ => exact h1
    | 2, _ => exact h2)
theorem lenS_size (n : Nat) : (lenS n).size ≤ 3 := by have := lenL_le n; simpa [lenS, ByteArray.size] using this
set_option maxHeartbeats 400000 in
theorem BerPut_any (n : Int) (s : ByteArray) (w : World) (_hn : -9223372036854775808 ≤ n ∧ n ≤ 9223372036854775807) (hs : s.size ≤ maxLen) :
    Calls Try.prog 10 #[.int .i64 n, .string s] w fun e w' => e = .returned (.string (putV n s)) ∧ Below w.heap.size w w' := by
  unfold maxLen at hs
  by_cases h : tagOk n
  · by_cases h2 : s.size ≤ 4000
    · have HR := Lib.hid (putV_in h h2)
      have HT : Hid (decide (tagOk n) = true) := Lib.hid (decide_eq_true h)
      have HJ := Lib.hid (joinS_put n s)
      have h2' : ¬ (4000 : Int) < (s.size : Int) := by omega
      have g0 : 0 ≤ n := h.1
      have g1 : n ≤ 255 := h.2.1
      have hz := lenS_size s.size
      have hw8 : IntKind.u8.wrap n = n := by rw [IntKind.wrap_u8]; omega
      have hcv := bytes_drew [UInt8.ofNat n.toNat] w #[.int .u8 n] 1 rfl (by simp [bs]; omega)
      have HA := Lib.hid (fun W => bytes_conv [UInt8.ofNat n.toNat] W #[.int .u8 n] 1 rfl (by simp [bs]; omega))
      have HV := Lib.hid (fun W w2 hb => bytes_below [UInt8.ofNat n.toNat] W w2 #[.int .u8 n] 1 rfl (by simp [bs]; omega) hb)
      have CL := Lib.hid (fun W => lengthBytes_any s.size W h2)
      have Hz : Hid ((⟨#[UInt8.ofNat n.toNat]⟩ : ByteArray).size + (lenS s.size).size + s.size ≤ 1000000) := Lib.hid (by show 1 + _ + _ ≤ _; omega)
      have DR : Below w.heap.size w w.drew := (Below.refl _ _).drew
      clear h h2
      go_enter Try.func10, Try.ntmps10
      go_wp2_with fail
      refine (isTag_any n _).mono ?_
      rintro e w1 ⟨rfl, rfl⟩
      rw [HT.out]
      go_wp2_with fail
      go_region_with
        (first
          | (go_at_call 35; refine (CL.out _).mono ?_; rintro e w2 ⟨rfl, hb2⟩; (first | (have hcv2 := HV.out _ _ hb2) | (have hcv2 := HA.out w2)))
          | (go_at_call 34; refine (concat_three _ _ _ _ _ Hz.out ?_ ?_ ?_ ?_).mono ?_; (focus (first | (simp; done) | (simp; omega))); (focus (simp; done)); (focus (simp; done)); (focus (simp; done)); rintro e w3 ⟨rfl, hb3⟩; rw [HJ.out])
          | (fail "none"))
      all_goals
        go_wp2
        go_ret
        refine ⟨ret_str HR.out.symm, ?_⟩
        first
          | exact thenB (moreB (thenB (moreB (Below.refl _ _) _).drew hb2) _) hb3
          | exact thenB (moreB (moreB (thenB DR hb2) _) _) hb3
    · have HR := Lib.hid (putV_long (tag := n) h2)
      have HT : Hid (decide (tagOk n) = true) := Lib.hid (decide_eq_true h)
      have h2' : (4000 : Int) < (s.size : Int) := by omega
      clear h h2
      go_enter Try.func10, Try.ntmps10
      go_wp2_with fail
      refine (isTag_any n _).mono ?_
      rintro e w1 ⟨rfl, rfl⟩
      rw [HT.out]
      go_wp2
      go_ret
      exact ⟨ret_str HR.out.symm, Below.refl _ _⟩
  · have HR := Lib.hid (putV_tag (body := s) h)
    have HT : Hid (decide (tagOk n) = false) := Lib.hid (decide_eq_false h)
    clear h
    go_enter Try.func10, Try.ntmps10
    go_wp2_with fail
    refine (isTag_any n _).mono ?_
    rintro e w1 ⟨rfl, rfl⟩
    rw [HT.out]
    go_wp2
    go_ret
    exact ⟨ret_str HR.out.symm, Below.refl _ _⟩
theorem putB_1 {n : Int} {s : ByteArray} (h : s.size < 128) : putB n s = (⟨[UInt8.ofNat n.toNat, UInt8.ofNat s.size].toArray⟩ : ByteArray) ++ s := by unfold putB; rw [lenL_1 h]
theorem putB_2 {n : Int} {s : ByteArray} (h : ¬ s.size < 128) (h2 : s.size < 256) : putB n s = (⟨[UInt8.ofNat n.toNat, 129, UInt8.ofNat s.size].toArray⟩ : ByteArray) ++ s := by unfold putB; rw [lenL_2 h h2]
theorem putB_3 {n : Int} {s : ByteArray} (h : ¬ s.size < 128) (h2 : ¬ s.size < 256) : putB n s = (⟨[UInt8.ofNat n.toNat, 130, UInt8.ofNat (s.size / 256), UInt8.ofNat (s.size % 256)].toArray⟩ : ByteArray) ++ s := by unfold putB; rw [lenL_3 h h2]
set_option maxHeartbeats 400000 in
theorem l09Put_any (n : Int) (s : ByteArray) (w : World) (h0 : 0 ≤ n) (h1 : n ≤ 255) (hs : s.size ≤ 4000) :
    Calls Try.prog 32 #[.int .i64 n, .string s] w fun e w' => e = .returned (.string (putB n s)) ∧ Below w.heap.size w w' := by
  by_cases g1 : s.size < 128
  · have HR := Lib.hid (putB_1 (n := n) g1)
    have g1' : ¬ (256 : Int) ≤ (s.size : Int) := by omega
    have g2' : ¬ (128 : Int) ≤ (s.size : Int) := by omega
    have hcv := bytes_conv [UInt8.ofNat n.toNat, UInt8.ofNat s.size] w #[.int .u8 n, .int .u8 (s.size : Int)] 2 rfl (by simp [bs]; omega)
    go_enter Try.func32, Try.ntmps32
    go_wp2
    go_ret
    exact ⟨ret_str HR.out.symm, (Below.refl _ _).alloc (Nat.le_refl _) _⟩
  by_cases g2 : s.size < 256
  · have HR := Lib.hid (putB_2 (n := n) g1 g2)
    have g1' : ¬ (256 : Int) ≤ (s.size : Int) := by omega
    have g2' : (128 : Int) ≤ (s.size : Int) := by omega
    have hcv := bytes_next [UInt8.ofNat n.toNat, 129, UInt8.ofNat s.size] w (.cells #[.int .u8 n, .int .u8 (s.size : Int)] 5) #[.int .u8 n, .int .u8 129, .int .u8 (s.size : Int)] 3 rfl (by simp [bs]; omega)
    go_enter Try.func32, Try.ntmps32
    go_wp2
    go_ret
    exact ⟨ret_str HR.out.symm, ((Below.refl _ _).alloc (Nat.le_refl _) _).alloc (by simp) _⟩
  · have HR := Lib.hid (putB_3 (n := n) g1 g2)
    have g1' : (256 : Int) ≤ (s.size : Int) := by omega
    have hcv := bytes_next [UInt8.ofNat n.toNat, 130, UInt8.ofNat (s.size / 256), UInt8.ofNat (s.size % 256)] w (.cells #[.int .u8 n, .int .u8 ((s.size : Int) % 256)] 5) #[.int .u8 n, .int .u8 130, .int .u8 ((s.size : Int) / 256), .int .u8 ((s.size : Int) % 256)] 4 rfl (by simp [bs]; omega)
    go_enter Try.func32, Try.ntmps32
    go_wp2
    go_ret
    exact ⟨ret_str HR.out.symm, ((Below.refl _ _).alloc (Nat.le_refl _) _).alloc (by simp) _⟩
set_option maxHeartbeats 400000 in
theorem SpecBerPut_any (n : Int) (s : ByteArray) (w : World) (_hn : -9223372036854775808 ≤ n ∧ n ≤ 9223372036854775807) (hs : s.size ≤ maxLen) :
    Calls Try.prog 9 #[.int .i64 n, .string s] w fun e w' => e = .returned (.string (putV n s)) ∧ Below w.heap.size w w' := by
  unfold maxLen at hs
  by_cases h : tagOk n
  · by_cases h2 : s.size ≤ 4000
    · have HR := Lib.hid (putV_in h h2)
      have HT : Hid (decide (tagOk n) = true) := Lib.hid (decide_eq_true h)
      have h2' : ¬ (4000 : Int) < (s.size : Int) := by omega
      have g0 : 0 ≤ n := h.1
      have g1 : n ≤ 255 := h.2.1
      have h3 := h2
      clear h h2
      go_enter Try.func9, Try.ntmps9
      go_wp2_with fail
      refine (l09Tag_any n _).mono ?_
      rintro e w1 ⟨rfl, rfl⟩
      rw [HT.out]
      go_wp2_with fail
      refine (l09Put_any n s _ g0 g1 h3).mono ?_
      rintro e w1 ⟨rfl, hb⟩
      go_wp2
      go_ret
      exact ⟨ret_str HR.out.symm, hb⟩
    · have HR := Lib.hid (putV_long (tag := n) h2)
      have HT : Hid (decide (tagOk n) = true) := Lib.hid (decide_eq_true h)
      have h2' : (4000 : Int) < (s.size : Int) := by omega
      clear h h2
      go_enter Try.func9, Try.ntmps9
      go_wp2_with fail
      refine (l09Tag_any n _).mono ?_
      rintro e w1 ⟨rfl, rfl⟩
      rw [HT.out]
      go_wp2
      go_ret
      exact ⟨ret_str HR.out.symm, Below.refl _ _⟩
  · have HR := Lib.hid (putV_tag (body := s) h)
    have HT : Hid (decide (tagOk n) = false) := Lib.hid (decide_eq_false h)
    clear h
    go_enter Try.func9, Try.ntmps9
    go_wp2_with fail
    refine (l09Tag_any n _).mono ?_
    rintro e w1 ⟨rfl, rfl⟩
    rw [HT.out]
    go_wp2
    go_ret
    exact ⟨ret_str HR.out.symm, Below.refl _ _⟩
end Go.Proofs.Ytohcdpoffpnfhaa
