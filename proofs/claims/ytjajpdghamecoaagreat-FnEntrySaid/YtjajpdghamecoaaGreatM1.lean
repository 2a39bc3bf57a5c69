/- Merged texts: Name, Name2, NormMath, Bytes, Norm, Norm2, Norm3, Name3, DnMath, Dn, Dn2, Esc, Own, Shelf, Text, Text2, Key, KeyMath. -/
import Derived.Test.YtjajpdghamecoaaGreatRows
import Derived.WalkKit
import Derived.WalkSpells
import Derived.WalkLawsBesides
import Derived.Lib.Hide
import Derived.Laws.BytesArg
import Derived.Laws.OwnMore
import Derived.Deep.AppendLies
import Derived.Lib.Strings
import Derived.Below
import Derived.Deep.Light
import Derived.Shelf.Strings.OnBuilder
import Derived.Shelf.Strings.Search2
import Derived.Test.YtjajpdghamecoaaGreatProg
import Derived.Deep.RegionHeld3
import Derived.Deep.DrawnRows
import Derived.Laws.Concat
import Derived.Deep.RegionWith
import Derived.BigRegion
import Derived.Laws.StructEq
/- What the two texts of NameRight return. -/
namespace Go.Proofs.YtjajpdghamecoaaGreat
open Go.RowKit

def letB (c : Int) : Bool := decide (97 ≤ c) && decide (c ≤ 122)
def digB (c : Int) : Bool := decide (48 ≤ c) && decide (c ≤ 57)
def nameB (c : Int) : Bool := letB c || digB c || (c == 95)

set_option maxHeartbeats 400000 in
theorem isLetter_any (c : Int) (w : World) :
    Calls Tryz.prog 107 #[.int .u8 c] w fun e w' => e = .returned (.bool (letB c)) ∧ w = w' := by
  by_cases h1 : 97 ≤ c
  all_goals by_cases h2 : c ≤ 122
  all_goals
    go_enter Tryz.func107, Tryz.ntmps107
    go_wp2
    go_ret
    exact ⟨by simp [letB, h1, h2], rfl⟩

set_option maxHeartbeats 400000 in
theorem isNameByte_any (c : Int) (w : World) :
    Calls Tryz.prog 108 #[.int .u8 c] w fun e w' => e = .returned (.bool (nameB c)) ∧ w = w' := by
  by_cases h1 : 97 ≤ c
  all_goals by_cases h2 : c ≤ 122
  all_goals by_cases h3 : 48 ≤ c
  all_goals by_cases h4 : c ≤ 57
  all_goals by_cases h5 : c = 95
  all_goals try omega
  all_goals
    first | (have hl : letB c = true := by simp [letB, h1, h2]) | (have hl : letB c = false := by simp [letB, h1, h2])
    first | (have h6 : (c == 95) = true := by simp [h5]) | (have h6 : (c == 95) = false := by simp [h5])
    go_enter Tryz.func108, Tryz.ntmps108
    go_wp2_with (first | (go_at_call 107; refine (isLetter_any _ _).mono ?_; rintro e w' ⟨rfl, rfl⟩))
    go_ret
    exact ⟨by simp [nameB, hl, digB, h3, h4, h6], rfl⟩
end Go.Proofs.YtjajpdghamecoaaGreat
/- What the two texts of NameRight return. -/
namespace Go.Proofs.YtjajpdghamecoaaGreat
open Go.RowKit

def allB (l : List UInt8) : Bool := l.all (fun c => nameB (c.toNat : Int))
def nmL (s : ByteArray) : Bool := decide (1 ≤ s.size) && decide (s.size ≤ 20) && letB ((s.data.toList.getD 0 0).toNat : Int) && allB s.data.toList

theorem take_snoc (s : ByteArray) (k : Nat) (h : k < s.size) : s.data.toList.take (k + 1) = s.data.toList.take k ++ [s[k]] := by
  rw [List.take_succ_eq_append_getElem (by simpa using h)]; rfl
theorem allB_snoc (l : List UInt8) (c : UInt8) : allB (l ++ [c]) = (allB l && nameB (c.toNat : Int)) := by simp [allB]
theorem getD_zero (s : ByteArray) (h : 0 < s.size) : s.data.toList.getD 0 0 = s[0] := by
  have h' : 0 < s.data.toList.length := by simpa using h
  rw [List.getD_eq_getElem?_getD, List.getElem?_eq_getElem h']; rfl
theorem mem_get (s : ByteArray) (k : Nat) (h : k < s.size) : s[k] ∈ s.data.toList := by
  have : s.data.toList[k]'(by simpa using h) = s[k] := rfl
  rw [← this]; exact List.getElem_mem _
theorem allB_false (s : ByteArray) (k : Nat) (h : k < s.size) (hn : nameB (s[k].toNat : Int) = false) : allB s.data.toList = false := by
  unfold allB; rw [List.all_eq_false]; exact ⟨_, mem_get s k h, by simp [hn]⟩
theorem ret_bool {a b : Bool} (h : a = b) : Ending.returned (.bool a) = .returned (.bool b) := by rw [h]

set_option maxHeartbeats 400000 in
theorem NameRight_any (s : ByteArray) (w : World) (hs : s.size ≤ maxLen) :
    Calls Tryz.prog 65 #[.string s] w fun e w' => e = .returned (.bool (nmL s)) ∧ w = w' := by
  unfold maxLen at hs
  by_cases h1 : s.size < 1
  · have hf : nmL s = false := by have : ¬ 1 ≤ s.size := by omega
                                  simp [nmL, this]
    have Hf := Lib.hid hf; clear hf
    go_enter Tryz.func65, Tryz.ntmps65
    go_wp2
    go_ret
    exact ⟨ret_bool Hf.out.symm, rfl⟩
  by_cases h2 : 20 < s.size
  · have hf : nmL s = false := by have : ¬ s.size ≤ 20 := by omega
                                  simp [nmL, this]
    have Hf := Lib.hid hf; clear hf
    go_enter Tryz.func65, Tryz.ntmps65
    go_wp2
    go_ret
    exact ⟨ret_bool Hf.out.symm, rfl⟩
  have h0 : 0 < s.size := by omega
  have hg := getD_zero s h0
  cases h3 : letB (s[0].toNat : Int)
  · have hf : nmL s = false := by simp [nmL, -List.getD_eq_getElem?_getD, hg, h3]
    have Hf := Lib.hid hf; clear hf hg
    go_enter Tryz.func65, Tryz.ntmps65
    go_wp2_with (first | (go_at_call 107; refine (isLetter_any _ _).mono ?_; rintro e w' ⟨rfl, rfl⟩))
    go_ret
    exact ⟨ret_bool Hf.out.symm, rfl⟩
  have hf : nmL s = allB s.data.toList := by simp only [nmL, hg, h3]; simp; omega
  have Hf := Lib.hid hf; clear hf hg
  go_enter Tryz.func65, Tryz.ntmps65
  go_wp2_with (first | (go_at_call 107; refine (isLetter_any _ _).mono ?_; rintro e w' ⟨rfl, rfl⟩))
  go_loop [20] (fun i => ∃ k : Nat, k ≤ s.size ∧ i = .int .i64 k ∧ allB (s.data.toList.take k) = true) (fun i => s.size - (intOf i).toNat)
  case atStart => exact ⟨0, Nat.zero_le _, rfl, rfl⟩
  case round =>
    obtain ⟨k, hk, rfl, ha⟩ := hrel
    have Ha := Lib.hid ha; clear ha
    by_cases hlt : k < s.size
    · have hts := Lib.hid (take_snoc s k hlt)
      cases hn : nameB (s[k].toNat : Int)
      · have hF := Lib.hid (allB_false s k hlt hn)
        go_wp2_with (first | (go_at_call 108; refine (isNameByte_any _ _).mono ?_; rintro e w' ⟨rfl, rfl⟩))
        go_ret
        exact ⟨ret_bool (by rw [Hf.out, hF.out]), rfl⟩
      · have hT : allB (s.data.toList.take (k + 1)) = true := by rw [hts.out, allB_snoc, Ha.out, hn]; rfl
        have HT := Lib.hid hT; clear hT
        go_wp2_with (first | (go_at_call 108; refine (isNameByte_any _ _).mono ?_; rintro e w' ⟨rfl, rfl⟩))
        go_round
        case rel => exact ⟨k + 1, by omega, by go_num, HT.out⟩
        case measure => simp [intOf]; omega
    · go_wp2
      go_ret
      refine ⟨ret_bool ?_, rfl⟩
      rw [Hf.out, ← Ha.out, List.take_of_length_le (by simp; omega)]
end Go.Proofs.YtjajpdghamecoaaGreat
/- Norm: the plain mathematics. -/
namespace Go.Proofs.YtjajpdghamecoaaGreat
open Go.RowKit

/-- the small letter of a capital one -/
def low (c : UInt8) : UInt8 := if 65 ≤ c.toNat ∧ c.toNat ≤ 90 then UInt8.ofNat (c.toNat + 32) else c
theorem low_in (c : UInt8) (h : 65 ≤ c.toNat ∧ c.toNat ≤ 90) : ((low c).toNat : Int) = (c.toNat : Int) + 32 := by
  unfold low; rw [if_pos h]; simp; omega
theorem low_out (c : UInt8) (h : ¬ (65 ≤ c.toNat ∧ c.toNat ≤ 90)) : low c = c := by unfold low; rw [if_neg h]
theorem low_space (c : UInt8) : low c = 32 ↔ c = 32 := by
  by_cases h : 65 ≤ c.toNat ∧ c.toNat ≤ 90
  · constructor
    · intro e
      have h1 := low_in c h
      rw [e] at h1
      have : ((32 : UInt8).toNat : Int) = 32 := rfl
      omega
    · intro e; subst e; simp at h
  · rw [low_out c h]
/-- one byte more of a normalized text -/
def nstep (o : List UInt8) (c : UInt8) : List UInt8 := if c = 32 ∧ (o = [] ∨ o.getLast? = some 32) then o else o ++ [low c]
def nfold (l : List UInt8) : List UInt8 := l.foldl nstep []
def chop (o : List UInt8) : List UInt8 := if o.getLast? = some 32 then o.dropLast else o
def plainB (l : List UInt8) : Bool := l.all (fun c => decide (32 ≤ (c.toNat : Int)) && decide ((c.toNat : Int) ≤ 126))
def normL (l : List UInt8) : List UInt8 := if l.length ≤ 100 ∧ plainB l = true then chop (nfold l) else []
def normS (s : ByteArray) : ByteArray := ⟨(normL s.data.toList).toArray⟩

theorem nstep_skip {o : List UInt8} {c : UInt8} (h1 : c = 32) (h2 : o = [] ∨ o.getLast? = some 32) : nstep o c = o := by unfold nstep; rw [if_pos ⟨h1, h2⟩]
theorem nstep_add {o : List UInt8} {c : UInt8} (h : ¬ (c = 32 ∧ (o = [] ∨ o.getLast? = some 32))) : nstep o c = o ++ [low c] := by unfold nstep; rw [if_neg h]
theorem nfold_snoc (l : List UInt8) (c : UInt8) : nfold (l ++ [c]) = nstep (nfold l) c := by simp [nfold]
theorem nfold_len (l : List UInt8) : (nfold l).length ≤ l.length := by
  have : ∀ (l o : List UInt8), (l.foldl nstep o).length ≤ o.length + l.length := by
    intro l
    induction l with
    | nil => intro o; simp
    | cons c l ih =>
      intro o
      rw [List.foldl_cons]
      refine Nat.le_trans (ih _) ?_
      unfold nstep
      split <;> simp <;> omega
  simpa [nfold] using this l []
theorem chop_len (o : List UInt8) : (chop o).length ≤ o.length := by unfold chop; split <;> simp
theorem normL_len (l : List UInt8) : (normL l).length ≤ 100 := by
  unfold normL
  split
  · rename_i h
    exact Nat.le_trans (chop_len _) (Nat.le_trans (nfold_len l) h.1)
  · simp
theorem normL_le (l : List UInt8) : (normL l).length ≤ l.length := by
  unfold normL
  split
  · exact Nat.le_trans (chop_len _) (nfold_len l)
  · simp
theorem normL_long {l : List UInt8} (h : ¬ l.length ≤ 100) : normL l = [] := by unfold normL; rw [if_neg (fun g => h g.1)]
theorem normL_odd {l : List UInt8} (h : plainB l = false) : normL l = [] := by unfold normL; rw [if_neg (fun g => by rw [h] at g; cases g.2)]
theorem normL_in {l : List UInt8} (h : l.length ≤ 100) (g : plainB l = true) : normL l = chop (nfold l) := by unfold normL; rw [if_pos ⟨h, g⟩]
theorem plainB_snoc (l : List UInt8) (c : UInt8) : plainB (l ++ [c]) = (plainB l && (decide (32 ≤ (c.toNat : Int)) && decide ((c.toNat : Int) ≤ 126))) := by simp [plainB]
theorem plainB_false (s : ByteArray) (k : Nat) (h : k < s.size) (hn : ¬ (32 ≤ (s[k].toNat : Int) ∧ (s[k].toNat : Int) ≤ 126)) : plainB s.data.toList = false := by
  unfold plainB; rw [List.all_eq_false]; exact ⟨_, mem_get s k h, by simp; omega⟩
end Go.Proofs.YtjajpdghamecoaaGreat
/- Rows of bytes that a call owns, and the strings made of them. -/
namespace Go.Proofs.YtjajpdghamecoaaGreat
open Go.RowKit

theorem Tryz.size5 (w : World) : (sizeOf 5).run Tryz.prog w = .ok 1 w := by kernel_rfl
theorem Tryz.info5 : (Tryz.prog.info? 5).map (fun i => (i.zero, i.size, i.bytes)) = some (some (.int .u8 0), 1, 1) := by kernel_rfl
theorem add_plain (b j : Nat) : (⟨b, 0, none⟩ : Addr).add j = ⟨b, j, none⟩ := by unfold Addr.add; split <;> simp_all
theorem str22 (W : World) (a : Addr) (cap : Nat) (l : List UInt8) (n : Nat) (hn : l.length = n) (hc : ∀ j (hj : j < l.length), W.cell? (a.add j) = some (.int .u8 (l[j].toNat : Int))) :
    (convert 22 9 (.slice (some a) n cap)).run Tryz.prog W = .ok (.string ⟨l.toArray⟩) W := by
  subst hn
  exact run_convert_bytes_back W 22 9 5 a cap l Tryz.underlying22 Tryz.underlying5 Tryz.underlying9 hc
def bs (l : List UInt8) : List Value := l.map (fun c => .int .u8 (c.toNat : Int))
theorem bs_length (l : List UInt8) : (bs l).length = l.length := by simp [bs]
theorem bs_snoc (l : List UInt8) (c : UInt8) : bs (l ++ [c]) = bs l ++ [.int .u8 (c.toNat : Int)] := by simp [bs]
/-- a string made of a row of bytes that the call owns -/
theorem str_own (W : World) (base : Nat) (v : Value) (l : List UInt8) (h : W.ownsRow base 5 1 v l.length (bs l)) :
    (convert 22 9 v).run Tryz.prog W = .ok (.string ⟨l.toArray⟩) W := by
  rcases h.2 with ⟨rfl, hn⟩ | ⟨g, cap, cur, rfl, hb, hg, hc1, hc2, hc3, hc4⟩
  · have : l = [] := List.length_eq_zero_iff.1 hn
    subst this
    exact run_convert_bytes_nil W 22 5 Tryz.underlying22 Tryz.underlying5 0 0 9 Tryz.underlying9
  · refine run_convert_bytes_back W 22 9 5 ⟨g, 0, none⟩ cap l Tryz.underlying22 Tryz.underlying5 Tryz.underlying9 fun j hj => ?_
    exact h.cells rfl j _ (by simp [bs, List.getElem?_eq_getElem hj])
/-- one byte more behind a row of bytes that the call owns -/
theorem append_byte {ops : Array Oper} {rest : List Oper} {o : Oper} {a : Act} {Q : Exit → Act → World → Prop} {w0 wr : World} (B : Nat) (hgd : o.guard = none) (s x : Operand)
    (ho : o.op = .call { callee := .builtin .append, args := #[s, x], argTypes := #[22, 22] }) (v : Value) (pre : List UInt8) (hs : a.eval s = v) (hown : wr.ownsRow B 5 1 v pre.length (bs pre))
    (c : UInt8) (n : Int) (hn : n = (c.toNat : Int)) (hx : a.eval x = .slice (some ⟨wr.heap.size, 0, none⟩) 1 1) (hlen : pre.length ≤ 1000000000) (hB : B ≤ wr.heap.size) (hbel : Below B w0 wr)
    (h : ∀ v' w', w'.ownsRow B 5 1 v' (pre ++ [c]).length (bs (pre ++ [c])) → Below B w0 w' → B ≤ w'.heap.size → wpList Tryz.prog ops Q rest (a.put o.dst v') w') :
    wpList Tryz.prog ops Q (o :: rest) a (wr.alloc (.cells #[.int .u8 n] 5)) := by
  obtain ⟨i0, hi, hz0, hz1, hz2⟩ := info_parts Tryz.info5
  subst hn
  refine wpList_append_own _ hgd s x 22 ho B 5 i0 (.int .u8 0) 1 1 Tryz.underlying22 hi hz0 hz1 hz2 rfl (by decide) v pre.length (bs pre) hs (hown.alloc _) ⟨wr.heap.size, 0, none⟩ 1 1 [.int .u8 (c.toNat : Int)] hx rfl (cell_one_new _ _ _) ?_ ?_ ?_ ?_ ?_
  · intro u hu; simp at hu; subst hu; rfl
  · unfold maxLen; omega
  · omega
  · simp; omega
  · intro v' w' h1 h2 h3
    have hb' : Below B w0 w' := (hbel.alloc hB _).grown h2 (by simp; omega) (fun k hk => (hown.lt k hk).1)
    refine h v' w' ?_ hb' (Nat.le_trans hB (by have := h2.size; simp at this; omega))
    rw [bs_snoc]; simpa using h1
/-- the value of a row that the call owns is a slice -/
theorem own_slice {w : World} {B e z n : Nat} {v : Value} {xs : List Value} (h : w.ownsRow B e z v n xs) : ∃ ao cap, v = .slice ao n cap := by
  rcases h.2 with ⟨rfl, rfl⟩ | ⟨g, cap, cur, rfl, _⟩
  · exact ⟨none, 0, rfl⟩
  · exact ⟨_, cap, rfl⟩
/-- the last byte of such a row -/
theorem own_last {w : World} {B n cap : Nat} {ao : Option Addr} {pre : List UInt8} {c : UInt8} (h : w.ownsRow B 5 1 (.slice ao n cap) pre.length (bs pre)) (hn : n = pre.length) (hc : pre.getLast? = some c) :
    ∃ g, ao = some ⟨g, 0, none⟩ ∧ w.cell? ⟨g, n - 1, none⟩ = some (.int .u8 (c.toNat : Int)) := by
  have h0 : 0 < pre.length := by
    rcases pre with _ | ⟨x, l⟩
    · simp at hc
    · simp
  obtain ⟨g, cp, hv, _, _⟩ := h.form h0
  have e : ao = some ⟨g, 0, none⟩ := by injection hv
  subst e
  refine ⟨g, rfl, ?_⟩
  have := h.cells (g := g) rfl (n - 1) (.int .u8 (c.toNat : Int)) (by
    rw [bs, List.getElem?_map, hn, ← List.getLast?_eq_getElem?, hc]; rfl)
  rw [add_plain] at this
  exact this
theorem ret_str {a b : ByteArray} (h : a = b) : Ending.returned (.string a) = .returned (.string b) := by rw [h]
theorem size_len (s : ByteArray) : s.data.toList.length = s.size := by simp
end Go.Proofs.YtjajpdghamecoaaGreat
/- Norm: what the texts of the program and of the specification return. -/
namespace Go.Proofs.YtjajpdghamecoaaGreat
open Go.RowKit

set_option maxHeartbeats 400000 in
theorem isPrintable_any (s : ByteArray) (w : World) (hs : s.size ≤ maxLen) :
    Calls Tryz.prog 135 #[.string s] w fun e w' => e = .returned (.bool (plainB s.data.toList)) ∧ w = w' := by
  unfold maxLen at hs
  go_enter Tryz.func135, Tryz.ntmps135
  go_wp2
  go_loop [6] (fun i => ∃ k : Nat, k ≤ s.size ∧ i = .int .i64 k ∧ plainB (s.data.toList.take k) = true) (fun i => s.size - (intOf i).toNat)
  case atStart => exact ⟨0, Nat.zero_le _, rfl, rfl⟩
  case round =>
    obtain ⟨k, hk, rfl, ha⟩ := hrel
    have Ha := Lib.hid ha; clear ha
    by_cases hlt : k < s.size
    · have hts := Lib.hid (take_snoc s k hlt)
      by_cases hp : 32 ≤ (s[k].toNat : Int) ∧ (s[k].toNat : Int) ≤ 126
      · obtain ⟨c1, c2⟩ := hp
        have HT : Hid (plainB (s.data.toList.take (k + 1)) = true) := Lib.hid (by rw [hts.out, plainB_snoc, Ha.out]; simp; omega)
        go_wp2
        go_round
        case rel => exact ⟨k + 1, by omega, by go_num, HT.out⟩
        case measure => simp [intOf]; omega
      · have HF := Lib.hid (plainB_false s k hlt hp)
        by_cases c1 : 32 ≤ (s[k].toNat : Int)
        · have c2 : ¬ (s[k].toNat : Int) ≤ 126 := by omega
          clear hp
          go_wp2
          go_ret
          exact ⟨ret_bool HF.out.symm, rfl⟩
        · clear hp
          go_wp2
          go_ret
          exact ⟨ret_bool HF.out.symm, rfl⟩
    · have e : s.data.toList.take k = s.data.toList := List.take_of_length_le (by simp; omega)
      have HT : Hid (plainB s.data.toList = true) := Lib.hid (by rw [← e]; exact Ha.out)
      clear e
      go_wp2
      go_ret
      exact ⟨ret_bool HT.out.symm, rfl⟩
set_option maxHeartbeats 400000 in
theorem l02Plain_any (s : ByteArray) (w : World) (hs : s.size ≤ maxLen) :
    Calls Tryz.prog 131 #[.string s] w fun e w' => e = .returned (.bool (plainB s.data.toList)) ∧ w = w' := by
  unfold maxLen at hs
  go_enter Tryz.func131, Tryz.ntmps131
  go_wp2
  go_loop [3] (fun i => ∃ k : Nat, k ≤ s.size ∧ i = .int .i64 k ∧ plainB (s.data.toList.take k) = true) (fun i => s.size - (intOf i).toNat)
  case atStart => exact ⟨0, Nat.zero_le _, rfl, rfl⟩
  case round =>
    obtain ⟨k, hk, rfl, ha⟩ := hrel
    have Ha := Lib.hid ha; clear ha
    by_cases hlt : k < s.size
    · have hts := Lib.hid (take_snoc s k hlt)
      by_cases hp : 32 ≤ (s[k].toNat : Int) ∧ (s[k].toNat : Int) ≤ 126
      · obtain ⟨c1, c2⟩ := hp
        have HT : Hid (plainB (s.data.toList.take (k + 1)) = true) := Lib.hid (by rw [hts.out, plainB_snoc, Ha.out]; simp; omega)
        go_wp2
        go_round
        case rel => exact ⟨k + 1, by omega, by go_num, HT.out⟩
        case measure => simp [intOf]; omega
      · have HF := Lib.hid (plainB_false s k hlt hp)
        by_cases c1 : 32 ≤ (s[k].toNat : Int)
        · have c2 : ¬ (s[k].toNat : Int) ≤ 126 := by omega
          clear hp
          go_wp2
          go_ret
          exact ⟨ret_bool HF.out.symm, rfl⟩
        · clear hp
          go_wp2
          go_ret
          exact ⟨ret_bool HF.out.symm, rfl⟩
    · have e : s.data.toList.take k = s.data.toList := List.take_of_length_le (by simp; omega)
      have HT : Hid (plainB s.data.toList = true) := Lib.hid (by rw [← e]; exact Ha.out)
      clear e
      go_wp2
      go_ret
      exact ⟨ret_bool HT.out.symm, rfl⟩

theorem ret_int' {k : IntKind} {a b : Int} (h : a = b) : Ending.returned (.int k a) = .returned (.int k b) := by rw [h]
set_option maxHeartbeats 400000 in
theorem lowerByte_any (c : UInt8) (w : World) :
    Calls Tryz.prog 136 #[.int .u8 (c.toNat : Int)] w fun e w' => e = .returned (.int .u8 ((low c).toNat : Int)) ∧ w = w' := by
  by_cases h : 65 ≤ c.toNat ∧ c.toNat ≤ 90
  · have H := Lib.hid (low_in c h)
    have h1 : 65 ≤ (c.toNat : Int) := by omega
    have h2 : (c.toNat : Int) ≤ 90 := by omega
    clear h
    go_enter Tryz.func136, Tryz.ntmps136
    go_wp2
    go_ret
    exact ⟨ret_int' (by rw [H.out]; omega), rfl⟩
  · have H := Lib.hid (low_out c h)
    by_cases h1 : 65 ≤ (c.toNat : Int)
    · have h2 : ¬ (c.toNat : Int) ≤ 90 := by omega
      clear h
      go_enter Tryz.func136, Tryz.ntmps136
      go_wp2
      go_ret
      exact ⟨ret_int' (by rw [H.out]), rfl⟩
    · clear h
      go_enter Tryz.func136, Tryz.ntmps136
      go_wp2
      go_ret
      exact ⟨ret_int' (by rw [H.out]), rfl⟩
end Go.Proofs.YtjajpdghamecoaaGreat
/- Norm: what the specification's text returns. -/
namespace Go.Proofs.YtjajpdghamecoaaGreat
open Go.RowKit

theorem last_some {pre : List UInt8} (h : pre ≠ []) : ∃ c, pre.getLast? = some c := ⟨pre.getLast h, List.getLast?_eq_some_getLast h⟩
theorem Tryz.elem22 : Tryz.prog.elem 22 = 5 := by kernel_rfl
/-- the row without its last byte -/
theorem cut_last (W : World) (g n cap : Nat) (hn : 0 < n) (hc : n ≤ cap) :
    (Instr.slice 22 (.slice (some ⟨g, 0, none⟩) n cap) none (some (.int .i64 ((n : Int) - 1))) none).run Tryz.prog W = .ok (.slice (some ⟨g, 0, none⟩) (n - 1) cap) W := by
  rw [run_slice_h W 22 (some ⟨g, 0, none⟩) n cap (by rw [Tryz.elem22]; exact Tryz.underlying22) .i64 ((n : Int) - 1) (by omega) (by omega), Tryz.elem22, Tryz.size5]
  have e : ((n : Int) - 1).toNat = n - 1 := by omega
  simp [Result.andThen, sliced, e]
  intro _; exact add_plain g 0
theorem own_cap {w : World} {B e z n m cap : Nat} {ao : Option Addr} {xs : List Value} (h : w.ownsRow B e z (.slice ao m cap) n xs) : n ≤ cap := by
  rcases h.2 with ⟨h, h'⟩ | ⟨_, _, _, h, _, _, h', _⟩
  · omega
  · injection h with _ _ h; omega
/-- what is known at the head of a round of Norm -/
def NormAt (s : ByteArray) (w : World) (v i : Value) (wr : World) (k : Nat) : Prop :=
  k ≤ s.size ∧ i = .int .i64 k ∧ wr.ownsRow w.heap.size 5 1 v (nfold (s.data.toList.take k)).length (bs (nfold (s.data.toList.take k))) ∧ Below w.heap.size w wr
theorem nat_of_u8 {c : UInt8} {n : Nat} (h : (c.toNat : Int) = n) (hn : n < 256) : c = UInt8.ofNat n := by
  apply UInt8.toNat_inj.1
  simp; omega
theorem nfold_take (s : ByteArray) (k : Nat) (h : k < s.size) : nfold (s.data.toList.take (k + 1)) = nstep (nfold (s.data.toList.take k)) s[k] := by rw [take_snoc s k h, nfold_snoc]
theorem nfold_take_len (s : ByteArray) (k : Nat) (hs : s.size ≤ 100) : (nfold (s.data.toList.take k)).length ≤ 100 := by
  refine Nat.le_trans (nfold_len _) ?_
  rw [List.length_take, size_len]; omega

set_option maxRecDepth 100000 in
set_option maxHeartbeats 1000000 in
theorem SpecNorm_in (s : ByteArray) (w : World) (hs : s.size ≤ 100) (hp : plainB s.data.toList = true) :
    Calls Tryz.prog 99 #[.string s] w fun e w' => e = .returned (.string (normS s)) ∧ Below w.heap.size w w' := by
  have HP := Lib.hid hp
  have hm : s.size ≤ maxLen := by unfold maxLen; omega
  go_enter Tryz.func99, Tryz.ntmps99
  go_wp2_with (first | (go_at_call 131; refine (l02Plain_any _ _ hm).mono ?_; rintro e w' ⟨rfl, rfl⟩))
  clear hp
  go_loopw [3, 4] (fun v i wr => ∃ k : Nat, NormAt s w v i wr k) (fun _ i _ => s.size - (intOf i).toNat)
  case atStart => exact ⟨0, Nat.zero_le _, rfl, World.ownsRow_made _ _ 0 (Nat.le_refl _) (by unfold maxLen; omega) rfl, (Below.refl _ _).alloc (Nat.le_refl _) _⟩
  case round =>
    obtain ⟨k, hk, rfl, hown, hbel⟩ := hrel
    have hlen := nfold_take_len s k hs
    obtain ⟨ao, cap, rfl⟩ := own_slice hown
    have hsz := hbel.size
    by_cases hlt : k < s.size
    · have HN := Lib.hid (nfold_take s k hlt)
      generalize nfold (s.data.toList.take k) = pre at *
      by_cases hcap : 65 ≤ (s[k].toNat : Int) ∧ (s[k].toNat : Int) ≤ 90
      · obtain ⟨c1, c2⟩ := hcap
        have hlow := low_in s[k] (by omega)
        have HE : Hid (nfold (s.data.toList.take (k + 1)) = pre ++ [low s[k]]) := Lib.hid (by
          rw [HN.out]; exact nstep_add (fun h => by have := congrArg UInt8.toNat h.1; simp at this; omega))
        have HL := Lib.hid hlow.symm; clear hlow
        go_wp2_with (first | (at_builtin; refine append_byte w.heap.size rfl _ _ rfl _ pre rfl hown (low s[k]) _ HL.out rfl (by omega) hsz hbel ?_; intro v' w1 hown' hbel' hsz'))
        go_roundw
        case rel => exact ⟨k + 1, by omega, by go_num, by rw [HE.out]; exact hown', hbel'⟩
        case measure => simp [intOf]; omega
      · have HL := Lib.hid (low_out s[k] (by omega))
        by_cases hsp : (s[k].toNat : Int) = 32
        · have hb1 : ((s[k].toNat : Int) == 32) = true := by rw [hsp]; rfl
          have hb2 : ¬ 65 ≤ (s[k].toNat : Int) := by omega
          have HS := Lib.hid (nat_of_u8 (n := 32) hsp (by omega))
          clear hcap hsp
          by_cases hne : pre = []
          · subst hne
            have HE : Hid (nfold (s.data.toList.take (k + 1)) = []) := Lib.hid (by rw [HN.out]; exact nstep_skip HS.out (.inl rfl))
            have hb3 : (([] : List UInt8).length : Int) = 0 := rfl
            rw [List.length_nil] at hown ⊢
            go_wp2
            go_roundw
            case rel => exact ⟨k + 1, by omega, by go_num, by rw [HE.out]; exact hown, hbel⟩
            case measure => simp [intOf]; omega
          · have h0 : 0 < pre.length := List.length_pos_iff.2 hne
            obtain ⟨d, hd⟩ := last_some hne
            obtain ⟨g, rfl, hcell⟩ := own_last hown rfl hd
            have HD := Lib.hid hd
            have hb3 : ((pre.length : Int) == 0) = false := by rw [beq_eq_false_iff_ne]; omega
            by_cases hds : (d.toNat : Int) = 32
            · have hb4 : ((d.toNat : Int) == 32) = true := by rw [hds]; rfl
              have HE : Hid (nfold (s.data.toList.take (k + 1)) = pre) := Lib.hid (by rw [HN.out]; exact nstep_skip HS.out (.inr (by rw [HD.out, nat_of_u8 (n := 32) hds (by omega)]; rfl)))
              clear hd hds hne
              go_wp2
              go_roundw
              case rel => exact ⟨k + 1, by omega, by go_num, by rw [HE.out]; exact hown, hbel⟩
              case measure => simp [intOf]; omega
            · have hb4 : ((d.toNat : Int) == 32) = false := by rw [beq_eq_false_iff_ne]; exact hds
              have HE : Hid (nfold (s.data.toList.take (k + 1)) = pre ++ [s[k]]) := Lib.hid (by
                rw [HN.out, nstep_add, HL.out]
                rintro ⟨_, h | h⟩
                · exact hne h
                · rw [HD.out] at h; have := Option.some.inj h; subst this; exact hds rfl)
              clear hd hds hne
              go_wp2_with (first | (at_builtin; refine append_byte w.heap.size rfl _ _ rfl _ pre rfl hown s[k] _ rfl rfl (by omega) hsz hbel ?_; intro v' w1 hown' hbel' hsz'))
              go_roundw
              case rel => exact ⟨k + 1, by omega, by go_num, by rw [HE.out]; exact hown', hbel'⟩
              case measure => simp [intOf]; omega
        · have hb1 : ((s[k].toNat : Int) == 32) = false := by rw [beq_eq_false_iff_ne]; exact hsp
          have HE : Hid (nfold (s.data.toList.take (k + 1)) = pre ++ [s[k]]) := Lib.hid (by
            rw [HN.out, nstep_add, HL.out]
            rintro ⟨h, _⟩
            rw [h] at hsp; exact hsp rfl)
          by_cases c1 : 65 ≤ (s[k].toNat : Int)
          · have c2 : ¬ (s[k].toNat : Int) ≤ 90 := by omega
            clear hcap hsp
            go_wp2_with (first | (at_builtin; refine append_byte w.heap.size rfl _ _ rfl _ pre rfl hown s[k] _ rfl rfl (by omega) hsz hbel ?_; intro v' w1 hown' hbel' hsz'))
            go_roundw
            case rel => exact ⟨k + 1, by omega, by go_num, by rw [HE.out]; exact hown', hbel'⟩
            case measure => simp [intOf]; omega
          · clear hcap hsp
            go_wp2_with (first | (at_builtin; refine append_byte w.heap.size rfl _ _ rfl _ pre rfl hown s[k] _ rfl rfl (by omega) hsz hbel ?_; intro v' w1 hown' hbel' hsz'))
            go_roundw
            case rel => exact ⟨k + 1, by omega, by go_num, by rw [HE.out]; exact hown', hbel'⟩
            case measure => simp [intOf]; omega
    · have e : s.data.toList.take k = s.data.toList := List.take_of_length_le (by simp; omega)
      rw [e] at hown hlen ⊢
      have HR : Hid (normS s = ⟨(chop (nfold s.data.toList)).toArray⟩) := Lib.hid (by unfold normS; rw [normL_in (by simpa using hs) HP.out])
      clear e
      generalize nfold s.data.toList = pre at *
      by_cases hne : pre = []
      · subst hne
        have hcv := str_own _ _ _ [] hown
        have HC : Hid (chop [] = []) := Lib.hid rfl
        rw [List.length_nil] at hown hcv ⊢
        go_wp2
        go_ret
        exact ⟨ret_str (by rw [HR.out, HC.out]), hbel⟩
      · have h0 : 0 < pre.length := List.length_pos_iff.2 hne
        obtain ⟨d, hd⟩ := last_some hne
        obtain ⟨g, rfl, hcell⟩ := own_last hown rfl hd
        have HD := Lib.hid hd
        by_cases hds : (d.toNat : Int) = 32
        · have hb4 : ((d.toNat : Int) == 32) = true := by rw [hds]; rfl
          have HC : Hid (chop pre = pre.dropLast) := Lib.hid (by unfold chop; rw [if_pos]; rw [HD.out, nat_of_u8 (n := 32) hds (by omega)]; rfl)
          have hcut := fun W => cut_last W g pre.length cap h0 (own_cap hown)
          have hcv := str22 wr ⟨g, 0, none⟩ cap pre.dropLast (pre.length - 1) (by simp) (fun j hj => by
            rw [List.length_dropLast] at hj
            rw [List.getElem_dropLast]
            exact hown.cells (g := g) rfl j _ (by simp [bs, List.getElem?_eq_getElem (show j < pre.length by omega)]))
          clear hd hds hne
          go_wp2
          go_ret
          exact ⟨ret_str (by rw [HR.out, HC.out]), hbel⟩
        · have hb4 : ((d.toNat : Int) == 32) = false := by rw [beq_eq_false_iff_ne]; exact hds
          have HC : Hid (chop pre = pre) := Lib.hid (by unfold chop; rw [if_neg]; intro h; rw [HD.out] at h; have := Option.some.inj h; subst this; exact hds rfl)
          have hcv := str_own _ _ _ pre hown
          clear hd hds hne
          go_wp2
          go_ret
          exact ⟨ret_str (by rw [HR.out, HC.out]), hbel⟩
end Go.Proofs.YtjajpdghamecoaaGreat
/- Norm: what the program's text returns. -/
namespace Go.Proofs.YtjajpdghamecoaaGreat
open Go.RowKit

def endsB (l : List UInt8) : Bool := l.getLast? == some 32
theorem extract_list (s : ByteArray) (i j : Nat) : (s.extract i j).data.toList = (s.data.toList.take j).drop i := by
  rw [ByteArray.data_extract, Array.toList_extract]; simp [List.extract, List.drop_take]
theorem ends_last (s : ByteArray) (h : 1 ≤ s.size) : ((s.extract (s.size - 1) s.size).toList == [32]) = endsB s.data.toList := by
  have hl : s.data.toList.length = s.size := size_len s
  rw [Lib.toList_data, extract_list, List.take_of_length_le (by omega)]
  unfold endsB
  have hne : s.data.toList ≠ [] := by intro e; rw [e] at hl; simp at hl; omega
  rw [List.getLast?_eq_some_getLast hne]
  have e : s.data.toList.drop (s.size - 1) = [s.data.toList.getLast hne] := by
    have h2 := List.dropLast_concat_getLast hne
    have h3 : s.data.toList.dropLast.length = s.size - 1 := by rw [List.length_dropLast, hl]
    calc s.data.toList.drop (s.size - 1) = (s.data.toList.dropLast ++ [s.data.toList.getLast hne]).drop (s.size - 1) := by rw [h2]
      _ = _ := by rw [← h3, List.drop_left]
  rw [e]
  simp
set_option maxHeartbeats 400000 in
theorem hasSuffix_any (s : ByteArray) (w : World) (hs : s.size ≤ maxLen) :
    Calls Tryz.prog 156 #[.string s, .string ⟨#[32]⟩] w fun e w' => e = .returned (.bool (endsB s.data.toList)) ∧ w = w' := by
  unfold maxLen at hs
  by_cases h1 : 1 ≤ s.size
  · have HE := Lib.hid (ends_last s h1)
    go_enter Tryz.func156, Tryz.ntmps156
    go_wp2
    go_ret
    exact ⟨ret_bool (by rw [← HE.out]), rfl⟩
  · have HE : Hid (endsB s.data.toList = false) := Lib.hid (by
      have : s.data.toList = [] := List.eq_nil_of_length_eq_zero (by rw [size_len]; omega)
      rw [this]; rfl)
    go_enter Tryz.func156, Tryz.ntmps156
    go_wp2
    go_ret
    exact ⟨ret_bool HE.out.symm, rfl⟩
theorem chop_ends (s : ByteArray) (h : endsB s.data.toList = true) : 1 ≤ s.size ∧ (⟨(chop s.data.toList).toArray⟩ : ByteArray) = s.extract 0 (s.size - 1) := by
  have hl := size_len s
  have h' : s.data.toList.getLast? = some 32 := by simpa [endsB] using h
  have h1 : 1 ≤ s.size := by
    rcases hd : s.data.toList with _ | ⟨x, l⟩
    · rw [hd] at h'; simp at h'
    · rw [hd] at hl; simp at hl; omega
  refine ⟨h1, ?_⟩
  apply ByteArray.ext
  apply Array.toList_inj.1
  rw [extract_list]
  unfold chop
  rw [if_pos h', List.dropLast_eq_take, hl]; simp
theorem chop_not (s : ByteArray) (h : endsB s.data.toList = false) : (⟨(chop s.data.toList).toArray⟩ : ByteArray) = s := by
  have h' : ¬ s.data.toList.getLast? = some 32 := by intro e; simp [endsB, e] at h
  unfold chop
  rw [if_neg h']
set_option maxHeartbeats 400000 in
theorem trimIn_any (s : ByteArray) (w : World) (hs : s.size ≤ maxLen) :
    Calls Tryz.prog 143 #[.string s, .string ⟨#[32]⟩] w fun e w' => e = .returned (.string ⟨(chop s.data.toList).toArray⟩) ∧ w = w' := by
  have hM := hs
  unfold maxLen at hs
  cases hb : endsB s.data.toList
  · have HE := Lib.hid (chop_not s hb)
    go_enter Tryz.func143, Tryz.ntmps143
    go_wp2_with (first | (go_at_call 156; refine (hasSuffix_any _ _ hM).mono ?_; rintro e w' ⟨rfl, rfl⟩))
    go_ret
    exact ⟨ret_str (by rw [HE.out]), rfl⟩
  · obtain ⟨h1, hc⟩ := chop_ends s hb
    have HE := Lib.hid hc; clear hc
    go_enter Tryz.func143, Tryz.ntmps143
    go_wp2_with (first | (go_at_call 156; refine (hasSuffix_any _ _ hM).mono ?_; rintro e w' ⟨rfl, rfl⟩))
    go_ret
    exact ⟨ret_str (by rw [HE.out]), rfl⟩
set_option maxHeartbeats 400000 in
theorem trim_any (s : ByteArray) (w : World) (hs : s.size ≤ maxLen) :
    Calls Tryz.prog 137 #[.string s, .string ⟨#[32]⟩] w fun e w' => e = .returned (.string ⟨(chop s.data.toList).toArray⟩) ∧ w = w' := by
  go_enter Tryz.func137, Tryz.ntmps137
  go_wp2_with (first | (go_at_call 143; refine (trimIn_any _ _ hs).mono ?_; rintro e w' ⟨rfl, rfl⟩))
  go_ret
  exact ⟨rfl, rfl⟩

set_option maxRecDepth 100000 in
set_option maxHeartbeats 1000000 in
theorem Norm_in (s : ByteArray) (w : World) (hs : s.size ≤ 100) (hp : plainB s.data.toList = true) :
    Calls Tryz.prog 126 #[.string s] w fun e w' => e = .returned (.string (normS s)) ∧ Below w.heap.size w w' := by
  have HP := Lib.hid hp
  have hm : s.size ≤ maxLen := by unfold maxLen; omega
  go_enter Tryz.func126, Tryz.ntmps126
  go_wp2_with (first | (go_at_call 135; refine (isPrintable_any _ _ hm).mono ?_; rintro e w' ⟨rfl, rfl⟩))
  clear hp
  go_loopw [3, 16] (fun v i wr => ∃ k : Nat, NormAt s w v i wr k) (fun _ i _ => s.size - (intOf i).toNat)
  case atStart => exact ⟨0, Nat.zero_le _, rfl, ⟨rfl, .inl ⟨rfl, rfl⟩⟩, Below.refl _ _⟩
  case round =>
    obtain ⟨k, hk, rfl, hown, hbel⟩ := hrel
    have hlen := nfold_take_len s k hs
    obtain ⟨ao, cap, rfl⟩ := own_slice hown
    have hsz := hbel.size
    by_cases hlt : k < s.size
    · have HN := Lib.hid (nfold_take s k hlt)
      generalize nfold (s.data.toList.take k) = pre at *
      by_cases hsp : (s[k].toNat : Int) = 32
      · have hb1 : ((s[k].toNat : Int) == 32) = true := by rw [hsp]; rfl
        have HS := Lib.hid (nat_of_u8 (n := 32) hsp (by omega))
        clear hsp
        by_cases hne : pre = []
        · subst hne
          have HE : Hid (nfold (s.data.toList.take (k + 1)) = []) := Lib.hid (by rw [HN.out]; exact nstep_skip HS.out (.inl rfl))
          have hb3 : (([] : List UInt8).length : Int) = 0 := rfl
          rw [List.length_nil] at hown ⊢
          go_wp2
          go_roundw
          case rel => exact ⟨k + 1, by omega, by go_num, by rw [HE.out]; exact hown, hbel⟩
          case measure => simp [intOf]; omega
        · have h0 : 0 < pre.length := List.length_pos_iff.2 hne
          obtain ⟨d, hd⟩ := last_some hne
          obtain ⟨g, rfl, hcell⟩ := own_last hown rfl hd
          have HD := Lib.hid hd
          have hb3 : ((pre.length : Int) == 0) = false := by rw [beq_eq_false_iff_ne]; omega
          by_cases hds : (d.toNat : Int) = 32
          · have hb4 : ((d.toNat : Int) == 32) = true := by rw [hds]; rfl
            have HE : Hid (nfold (s.data.toList.take (k + 1)) = pre) := Lib.hid (by rw [HN.out]; exact nstep_skip HS.out (.inr (by rw [HD.out, nat_of_u8 (n := 32) hds (by omega)]; rfl)))
            clear hd hds hne
            go_wp2
            go_roundw
            case rel => exact ⟨k + 1, by omega, by go_num, by rw [HE.out]; exact hown, hbel⟩
            case measure => simp [intOf]; omega
          · have hb4 : ((d.toNat : Int) == 32) = false := by rw [beq_eq_false_iff_ne]; exact hds
            have HE : Hid (nfold (s.data.toList.take (k + 1)) = pre ++ [low s[k]]) := Lib.hid (by
              rw [HN.out, nstep_add]
              rintro ⟨_, h | h⟩
              · exact hne h
              · rw [HD.out] at h; have := Option.some.inj h; subst this; exact hds rfl)
            clear hd hds hne
            go_wp2_with (first | (go_at_call 136; refine (lowerByte_any _ _).mono ?_; rintro e w' ⟨rfl, rfl⟩) | (at_builtin; refine append_byte w.heap.size rfl _ _ rfl _ pre rfl hown (low s[k]) _ rfl rfl (by omega) hsz hbel ?_; intro v' w1 hown' hbel' hsz'))
            go_roundw
            case rel => exact ⟨k + 1, by omega, by go_num, by rw [HE.out]; exact hown', hbel'⟩
            case measure => simp [intOf]; omega
      · have hb1 : ((s[k].toNat : Int) == 32) = false := by rw [beq_eq_false_iff_ne]; exact hsp
        have HE : Hid (nfold (s.data.toList.take (k + 1)) = pre ++ [low s[k]]) := Lib.hid (by
          rw [HN.out, nstep_add]
          rintro ⟨h, _⟩
          rw [h] at hsp; exact hsp rfl)
        clear hsp
        go_wp2_with (first | (go_at_call 136; refine (lowerByte_any _ _).mono ?_; rintro e w' ⟨rfl, rfl⟩) | (at_builtin; refine append_byte w.heap.size rfl _ _ rfl _ pre rfl hown (low s[k]) _ rfl rfl (by omega) hsz hbel ?_; intro v' w1 hown' hbel' hsz'))
        go_roundw
        case rel => exact ⟨k + 1, by omega, by go_num, by rw [HE.out]; exact hown', hbel'⟩
        case measure => simp [intOf]; omega
    · have e : s.data.toList.take k = s.data.toList := List.take_of_length_le (by simp; omega)
      rw [e] at hown hlen ⊢
      have HR : Hid (normS s = ⟨(chop (nfold s.data.toList)).toArray⟩) := Lib.hid (by unfold normS; rw [normL_in (by simpa using hs) HP.out])
      clear e
      generalize nfold s.data.toList = pre at *
      have hcv := str_own _ _ _ _ hown
      have hpm : (⟨pre.toArray⟩ : ByteArray).size ≤ maxLen := by unfold maxLen; simp [ByteArray.size]; omega
      have HX := Lib.hid (fun w => trim_any ⟨pre.toArray⟩ w hpm)
      go_wp2_with (first | (go_at_call 137; refine (HX.out _).mono ?_; rintro e w' ⟨rfl, rfl⟩))
      go_ret
      exact ⟨ret_str HR.out.symm, hbel⟩
theorem normS_long (s : ByteArray) (h : ¬ s.size ≤ 100) : normS s = ByteArray.empty := by unfold normS; rw [normL_long (by rw [size_len]; exact h)]; rfl
theorem normS_odd (s : ByteArray) (h : plainB s.data.toList = false) : normS s = ByteArray.empty := by unfold normS; rw [normL_odd h]; rfl
set_option maxHeartbeats 400000 in
theorem Norm_any (s : ByteArray) (w : World) (hs : s.size ≤ maxLen) :
    Calls Tryz.prog 126 #[.string s] w fun e w' => e = .returned (.string (normS s)) ∧ Below w.heap.size w w' := by
  by_cases h1 : s.size ≤ 100
  · cases hp : plainB s.data.toList
    · have HR := Lib.hid (normS_odd s hp)
      go_enter Tryz.func126, Tryz.ntmps126
      go_wp2_with (first | (go_at_call 135; refine (isPrintable_any _ _ hs).mono ?_; rintro e w' ⟨rfl, rfl⟩))
      go_ret
      exact ⟨ret_str HR.out.symm, Below.refl _ _⟩
    · exact Norm_in s w h1 hp
  · have HR := Lib.hid (normS_long s h1)
    have h1' : 100 < s.size := by omega
    clear h1
    unfold maxLen at hs
    go_enter Tryz.func126, Tryz.ntmps126
    go_wp2
    go_ret
    exact ⟨ret_str HR.out.symm, Below.refl _ _⟩
set_option maxHeartbeats 400000 in
theorem SpecNorm_any (s : ByteArray) (w : World) (hs : s.size ≤ maxLen) :
    Calls Tryz.prog 99 #[.string s] w fun e w' => e = .returned (.string (normS s)) ∧ Below w.heap.size w w' := by
  by_cases h1 : s.size ≤ 100
  · cases hp : plainB s.data.toList
    · have HR := Lib.hid (normS_odd s hp)
      go_enter Tryz.func99, Tryz.ntmps99
      go_wp2_with (first | (go_at_call 131; refine (l02Plain_any _ _ hs).mono ?_; rintro e w' ⟨rfl, rfl⟩))
      go_ret
      exact ⟨ret_str HR.out.symm, Below.refl _ _⟩
    · exact SpecNorm_in s w h1 hp
  · have HR := Lib.hid (normS_long s h1)
    have h1' : 100 < s.size := by omega
    clear h1
    unfold maxLen at hs
    go_enter Tryz.func99, Tryz.ntmps99
    go_wp2
    go_ret
    exact ⟨ret_str HR.out.symm, Below.refl _ _⟩
end Go.Proofs.YtjajpdghamecoaaGreat
/- What the specification's text of NameRight returns. -/
namespace Go.Proofs.YtjajpdghamecoaaGreat
open Go.RowKit

/-- the first k bytes are as they must be -/
def goodTo (s : ByteArray) (k : Nat) : Bool := allB (s.data.toList.take k) && (decide (k = 0) || letB ((s.data.toList.getD 0 0).toNat : Int))

theorem nameB_of_let {c : Int} (h : letB c = true) : nameB c = true := by simp [nameB, h]

set_option maxHeartbeats 1000000 in
theorem SpecNameRight_any (s : ByteArray) (w : World) (hs : s.size ≤ maxLen) :
    Calls Tryz.prog 55 #[.string s] w fun e w' => e = .returned (.bool (nmL s)) ∧ w = w' := by
  unfold maxLen at hs
  by_cases h1 : s.size < 1
  · have hf : nmL s = false := by have : ¬ 1 ≤ s.size := by omega
                                  simp [nmL, this]
    have Hf := Lib.hid hf; clear hf
    go_enter Tryz.func55, Tryz.ntmps55
    go_wp2
    go_ret
    exact ⟨ret_bool Hf.out.symm, rfl⟩
  by_cases h2 : 20 < s.size
  · have hf : nmL s = false := by have : ¬ s.size ≤ 20 := by omega
                                  simp [nmL, this]
    have Hf := Lib.hid hf; clear hf
    go_enter Tryz.func55, Tryz.ntmps55
    go_wp2
    go_ret
    exact ⟨ret_bool Hf.out.symm, rfl⟩
  have h0 : 0 < s.size := by omega
  have Hg := Lib.hid (getD_zero s h0)
  go_enter Tryz.func55, Tryz.ntmps55
  go_wp2
  go_loop [3] (fun i => ∃ k : Nat, k ≤ s.size ∧ i = .int .i64 k ∧ allB (s.data.toList.take k) = true ∧ (0 < k → letB ((s.data.toList.getD 0 0).toNat : Int) = true)) (fun i => s.size - (intOf i).toNat)
  case atStart => exact ⟨0, Nat.zero_le _, rfl, rfl, fun h => absurd h (by omega)⟩
  case round =>
    obtain ⟨k, hk, rfl, ha, hl⟩ := hrel
    have Ha := Lib.hid ha; clear ha
    have Hl := Lib.hid hl; clear hl
    by_cases hlt : k < s.size
    · have hts := Lib.hid (take_snoc s k hlt)
      by_cases hL : 97 ≤ (s[k].toNat : Int) ∧ (s[k].toNat : Int) ≤ 122
      · obtain ⟨c1, c2⟩ := hL
        have hb : letB (s[k].toNat : Int) = true := by simp [letB]; omega
        have hT : allB (s.data.toList.take (k + 1)) = true := by rw [hts.out, allB_snoc, Ha.out, nameB_of_let hb]; rfl
        have HT := Lib.hid hT; clear hT
        have hZ : letB ((s.data.toList.getD 0 0).toNat : Int) = true := by
          by_cases e : k = 0
          · subst e; rw [Hg.out]; exact hb
          · exact Hl.out (by omega)
        have HZ := Lib.hid hZ; clear hZ hb
        go_wp2
        go_round
        case rel => exact ⟨k + 1, by omega, by go_num, HT.out, fun _ => HZ.out⟩
        case measure => simp [intOf]; omega
      · have hb : letB (s[k].toNat : Int) = false := by simp [letB]; omega
        by_cases e : k = 0
        · subst e
          have hF : nmL s = false := by simp only [nmL, Hg.out, hb]; simp
          have HF := Lib.hid hF; clear hF hb
          by_cases c1 : 97 ≤ (s[0].toNat : Int)
          · have c2 : ¬ (s[0].toNat : Int) ≤ 122 := by omega
            clear hL
            go_wp2
            go_ret
            exact ⟨ret_bool HF.out.symm, rfl⟩
          · clear hL
            go_wp2
            go_ret
            exact ⟨ret_bool HF.out.symm, rfl⟩
        · have hz : ((k : Int) == 0) = false := by rw [beq_eq_false_iff_ne]; omega
          by_cases hD : 48 ≤ (s[k].toNat : Int) ∧ (s[k].toNat : Int) ≤ 57
          · obtain ⟨c1, c2⟩ := hD
            have c3 : ¬ 97 ≤ (s[k].toNat : Int) := by omega
            have hb : nameB (s[k].toNat : Int) = true := by simp [nameB, digB]; omega
            have hT : allB (s.data.toList.take (k + 1)) = true := by rw [hts.out, allB_snoc, Ha.out, hb]; rfl
            have HT := Lib.hid hT; clear hT hL hb
            go_wp2
            go_round
            case rel => exact ⟨k + 1, by omega, by go_num, HT.out, fun _ => Hl.out (by omega)⟩
            case measure => simp [intOf]; omega
          · by_cases hU : (s[k].toNat : Int) = 95
            · have c3 : ¬ 97 ≤ (s[k].toNat : Int) := by omega
              have c1 : 48 ≤ (s[k].toNat : Int) := by omega
              have c2 : ¬ (s[k].toNat : Int) ≤ 57 := by omega
              have hb : nameB (s[k].toNat : Int) = true := by simp [nameB]; omega
              have hT : allB (s.data.toList.take (k + 1)) = true := by rw [hts.out, allB_snoc, Ha.out, hb]; rfl
              have hu : ((s[k].toNat : Int) != 95) = false := by rw [hU]; rfl
              have HT := Lib.hid hT; clear hT hL hb hD hU
              go_wp2
              go_round
              case rel => exact ⟨k + 1, by omega, by go_num, HT.out, fun _ => Hl.out (by omega)⟩
              case measure => simp [intOf]; omega
            · have hb : nameB (s[k].toNat : Int) = false := by simp [nameB, letB, digB]; omega
              have hF : nmL s = false := by simp only [nmL, allB_false s k hlt hb]; simp
              have hu : ((s[k].toNat : Int) != 95) = true := by rw [bne_iff_ne]; exact hU
              have HF := Lib.hid hF; clear hF hb
              by_cases c1 : 97 ≤ (s[k].toNat : Int)
              · have c2 : ¬ (s[k].toNat : Int) ≤ 122 := by omega
                have c3 : 48 ≤ (s[k].toNat : Int) := by omega
                have c4 : ¬ (s[k].toNat : Int) ≤ 57 := by omega
                clear hL hD hU
                go_wp2
                go_ret
                exact ⟨ret_bool HF.out.symm, rfl⟩
              · by_cases c3 : 48 ≤ (s[k].toNat : Int)
                · have c4 : ¬ (s[k].toNat : Int) ≤ 57 := by omega
                  clear hL hD hU
                  go_wp2
                  go_ret
                  exact ⟨ret_bool HF.out.symm, rfl⟩
                · clear hL hD hU
                  go_wp2
                  go_ret
                  exact ⟨ret_bool HF.out.symm, rfl⟩
    · go_wp2
      go_ret
      refine ⟨ret_bool ?_, rfl⟩
      have e : s.data.toList.take k = s.data.toList := List.take_of_length_le (by simp; omega)
      have a1 := Ha.out
      rw [e] at a1
      have a2 := Hl.out (by omega)
      simp only [nmL, a1, a2]; simp; omega
end Go.Proofs.YtjajpdghamecoaaGreat
/- Distinguished names: lists of pairs, and where they lie. -/
namespace Go.Proofs.YtjajpdghamecoaaGreat
open Go.RowKit

abbrev RdnL := List (ByteArray × ByteArray)
/-- a value whose normalized form is not empty -/
def valB (s : ByteArray) : Bool := decide (1 ≤ s.size) && decide (s.size ≤ 40) && !(normS s).toList.isEmpty
def rdnB (r : ByteArray × ByteArray) : Bool := nmL r.1 && valB r.2
def dnB (d : RdnL) : Bool := decide (d.length ≤ 6) && d.all rdnB
/-- all its strings are strings of Go -/
def Fits (d : RdnL) : Prop := d.length ≤ 1048576 ∧ ∀ r ∈ d, r.1.size ≤ 1048576 ∧ r.2.size ≤ 1048576
/-- a name lies behind a slice -/
def DnAt (w : World) (ao : Option Addr) (d : RdnL) : Prop :=
  d = [] ∨ ∃ b off, ao = some ⟨b, off, none⟩ ∧ b < w.heap.size ∧ ∀ i (h : i < d.length), w.cell? ⟨b, off + i * 2, none⟩ = some (.string d[i].1) ∧ w.cell? ⟨b, off + i * 2 + 1, none⟩ = some (.string d[i].2)
theorem DnAt.below {w w' : World} {ao : Option Addr} {d : RdnL} (h : DnAt w ao d) (hb : Below w.heap.size w w') : DnAt w' ao d := by
  rcases h with h | ⟨b, off, h1, h2, h3⟩
  · exact .inl h
  · exact .inr ⟨b, off, h1, Nat.lt_of_lt_of_le h2 hb.size, fun i hi => ⟨(hb.cell (p := ⟨b, off + i * 2, none⟩) h2).trans (h3 i hi).1, (hb.cell (p := ⟨b, off + i * 2 + 1, none⟩) h2).trans (h3 i hi).2⟩⟩
theorem DnAt.at {w : World} {ao : Option Addr} {d : RdnL} (h : DnAt w ao d) {k : Nat} (hk : k < d.length) :
    ∃ b off, ao = some ⟨b, off, none⟩ ∧ b < w.heap.size ∧ w.cell? ⟨b, off + k * 2, none⟩ = some (.string d[k].1) ∧ w.cell? ⟨b, off + k * 2 + 1, none⟩ = some (.string d[k].2) := by
  rcases h with h | ⟨b, off, h1, h2, h3⟩
  · subst h; simp at hk
  · exact ⟨b, off, h1, h2, h3 k hk⟩
theorem Fits.at {d : RdnL} (h : Fits d) {k : Nat} (hk : k < d.length) : d[k].1.size ≤ maxLen ∧ d[k].2.size ≤ maxLen := by
  have := h.2 _ (List.getElem_mem hk); unfold maxLen; omega
theorem all_take {α : Type} (p : α → Bool) (l : List α) (k : Nat) (h : k < l.length) : (l.take (k + 1)).all p = ((l.take k).all p && p l[k]) := by
  rw [List.take_succ_eq_append_getElem h, List.all_append]; simp only [List.all_cons, List.all_nil, Bool.and_true]
theorem all_bad {α : Type} (p : α → Bool) (l : List α) (k : Nat) (h : k < l.length) (hp : p l[k] = false) : l.all p = false := by
  rw [List.all_eq_false]; exact ⟨_, List.getElem_mem h, by simp [hp]⟩
theorem plain_of_norm {s : ByteArray} (h : plainB s.data.toList = false) : (normS s).toList.isEmpty = true := by rw [normS_odd s h, Lib.toList_data]; rfl
end Go.Proofs.YtjajpdghamecoaaGreat
/- DnRight: what the texts of the program and of the specification return. -/
namespace Go.Proofs.YtjajpdghamecoaaGreat
open Go.RowKit

def isValB (s : ByteArray) : Bool := decide (1 ≤ s.size) && decide (s.size ≤ 40) && plainB s.data.toList
set_option maxHeartbeats 400000 in
theorem isValue_any (s : ByteArray) (w : World) (hs : s.size ≤ maxLen) :
    Calls Tryz.prog 125 #[.string s] w fun e w' => e = .returned (.bool (isValB s)) ∧ w = w' := by
  have hM := hs
  unfold maxLen at hs
  by_cases h1 : 1 ≤ s.size
  all_goals by_cases h2 : s.size ≤ 40
  all_goals try omega
  all_goals
    have HV : Hid (isValB s = (decide (1 ≤ s.size) && decide (s.size ≤ 40) && plainB s.data.toList)) := Lib.hid rfl
    go_enter Tryz.func125, Tryz.ntmps125
    go_wp2_with (first | (go_at_call 135; refine (isPrintable_any _ _ hM).mono ?_; rintro e w' ⟨rfl, rfl⟩))
    go_ret
    exact ⟨ret_bool (by rw [HV.out]; simp [h1, h2]), rfl⟩
theorem val_of {s : ByteArray} : (isValB s && !(normS s).toList.isEmpty) = valB s := by
  unfold isValB valB
  cases h : plainB s.data.toList
  · simp [plain_of_norm h]
  · simp
set_option maxHeartbeats 400000 in
theorem isProperValue_any (s : ByteArray) (w : World) (hs : s.size ≤ maxLen) :
    Calls Tryz.prog 89 #[.string s] w fun e w' => e = .returned (.bool (valB s)) ∧ Below w.heap.size w w' := by
  have HV := Lib.hid (@val_of s)
  cases h1 : isValB s
  · rw [h1] at HV
    go_enter Tryz.func89, Tryz.ntmps89
    go_wp2_with (first | (go_at_call 125; refine (isValue_any _ _ hs).mono ?_; rintro e w' ⟨rfl, rfl⟩))
    go_ret
    exact ⟨ret_bool (by rw [← HV.out]; rfl), Below.refl _ _⟩
  · rw [h1] at HV
    go_enter Tryz.func89, Tryz.ntmps89
    go_wp2_with (first | (go_at_call 125; refine (isValue_any _ _ hs).mono ?_; rintro e w' ⟨rfl, rfl⟩) | (go_at_call 126; refine (Norm_any _ _ hs).mono ?_; rintro e w1 ⟨rfl, hb1⟩))
    go_ret
    exact ⟨ret_bool (by rw [← HV.out]; simp), hb1⟩
set_option maxHeartbeats 400000 in
theorem l02Value_any (s : ByteArray) (w : World) (hs : s.size ≤ maxLen) :
    Calls Tryz.prog 56 #[.string s] w fun e w' => e = .returned (.bool (valB s)) ∧ Below w.heap.size w w' := by
  have hM := hs
  unfold maxLen at hs
  have HV : Hid (valB s = (decide (1 ≤ s.size) && decide (s.size ≤ 40) && !(normS s).toList.isEmpty)) := Lib.hid rfl
  by_cases h1 : 1 ≤ s.size
  all_goals by_cases h2 : s.size ≤ 40
  all_goals try omega
  · go_enter Tryz.func56, Tryz.ntmps56
    go_wp2_with (first | (go_at_call 99; refine (SpecNorm_any _ _ hM).mono ?_; rintro e w1 ⟨rfl, hb1⟩))
    go_ret
    exact ⟨ret_bool (by rw [HV.out]; simp [h1, h2]), hb1⟩
  all_goals
    go_enter Tryz.func56, Tryz.ntmps56
    go_wp2
    go_ret
    exact ⟨ret_bool (by rw [HV.out]; simp [h1, h2]), Below.refl _ _⟩
end Go.Proofs.YtjajpdghamecoaaGreat
/- DnRight: what the texts of the program and of the specification return. -/
namespace Go.Proofs.YtjajpdghamecoaaGreat
open Go.RowKit

theorem bcell {W w1 : World} (hb : Below W.heap.size W w1) : (∀ b o, b < W.heap.size → w1.cell? ⟨b, o, none⟩ = W.cell? ⟨b, o, none⟩) ∧ (∀ b o, b < W.heap.size → w1.frozen? ⟨b, o, none⟩ = W.frozen? ⟨b, o, none⟩) :=
  ⟨fun b o h => hb.cell (p := ⟨b, o, none⟩) h, fun b o h => hb.frozen (p := ⟨b, o, none⟩) h⟩
set_option maxHeartbeats 400000 in
theorem rdnRight_any (a v : ByteArray) (w : World) (ha : a.size ≤ maxLen) (hv : v.size ≤ maxLen) :
    Calls Tryz.prog 102 #[.agg #[.string a, .string v]] w fun e w' => e = .returned (.bool (rdnB (a, v))) ∧ Below w.heap.size w w' := by
  have HV : Hid (rdnB (a, v) = (nmL a && valB v)) := Lib.hid rfl
  cases h1 : nmL a
  · rw [h1] at HV
    go_enter Tryz.func102, Tryz.ntmps102
    go_wp2_with (first | (go_at_call 65; refine (NameRight_any _ _ ha).mono ?_; rintro e w' ⟨rfl, rfl⟩))
    go_ret
    exact ⟨ret_bool (by rw [HV.out]; rfl), (Below.refl _ _).alloc (Nat.le_refl _) _⟩
  · rw [h1] at HV
    go_enter Tryz.func102, Tryz.ntmps102
    go_wp2_with (first | (go_at_call 65; refine (NameRight_any _ _ ha).mono ?_; rintro e w' ⟨rfl, rfl⟩) | (go_at_call 89; refine (isProperValue_any _ _ hv).mono ?_; rintro e w1 ⟨rfl, hb1⟩))
    go_ret
    exact ⟨ret_bool (by rw [HV.out]; rfl), ((Below.refl _ _).alloc (Nat.le_refl _) _).trans (hb1.mono (by simp))⟩

theorem dnB_long {d : RdnL} (h : ¬ d.length ≤ 6) : dnB d = false := by unfold dnB; simp [h]
theorem dnB_short {d : RdnL} (h : d.length ≤ 6) : dnB d = d.all rdnB := by unfold dnB; simp [h]
set_option maxHeartbeats 400000 in
theorem DnRight_any (ao : Option Addr) (d : RdnL) (cap : Nat) (w : World) (hd : DnAt w ao d) (hf : Fits d) :
    Calls Tryz.prog 60 #[.slice ao d.length cap] w fun e w' => e = .returned (.bool (dnB d)) ∧ Below w.heap.size w w' := by
  have hl := hf.1
  have HD := Lib.hid hd; have HF := Lib.hid hf; clear hd hf
  by_cases h6 : d.length ≤ 6
  · have HV := Lib.hid (dnB_short h6)
    go_enter Tryz.func60, Tryz.ntmps60
    go_wp2
    go_loopw [9] (fun i wr => ∃ k : Nat, k ≤ d.length ∧ i = .int .i64 k ∧ (d.take k).all rdnB = true ∧ Below w.heap.size w wr) (fun i _ => d.length - (intOf i).toNat)
    case atStart => exact ⟨0, Nat.zero_le _, rfl, rfl, Below.refl _ _⟩
    case round =>
      obtain ⟨k, hk, rfl, ha, hbel⟩ := hrel
      have Ha := Lib.hid ha; clear ha
      have hsz := hbel.size
      by_cases hlt : k < d.length
      · obtain ⟨b, off, rfl, hb, hc1, hc2⟩ := (HD.out.below hbel).at hlt
        have hz := HF.out.at hlt
        generalize hr : rdnB d[k] = r at *
        have HR := Lib.hid hr; clear hr
        cases r
        · have HX := Lib.hid (all_bad rdnB d k hlt HR.out)
          go_wp2_with (first | (go_at_call 102; refine (rdnRight_any _ _ _ hz.1 hz.2).mono ?_; rintro e w1 ⟨rfl, hb1⟩; rw [HR.out]))
          go_ret
          exact ⟨ret_bool (by rw [HV.out, HX.out]), hbel.trans (hb1.mono hsz)⟩
        · have HT : Hid ((d.take (k + 1)).all rdnB = true) := Lib.hid (by rw [all_take rdnB d k hlt, Ha.out, HR.out]; rfl)
          go_wp2_with (first | (go_at_call 102; refine (rdnRight_any _ _ _ hz.1 hz.2).mono ?_; rintro e w1 ⟨rfl, hb1⟩; rw [HR.out]))
          go_roundw
          case rel => exact ⟨k + 1, by omega, by go_num, HT.out, hbel.trans (hb1.mono hsz)⟩
          case measure => simp [intOf]; omega
      · have e : d.take k = d := List.take_of_length_le (by omega)
        have HT : Hid (d.all rdnB = true) := Lib.hid (by rw [← e]; exact Ha.out)
        clear e
        go_wp2
        go_ret
        exact ⟨ret_bool (by rw [HV.out, HT.out]), hbel⟩
  · have HV := Lib.hid (dnB_long h6)
    have h6' : 6 < d.length := by omega
    clear h6
    go_enter Tryz.func60, Tryz.ntmps60
    go_wp2
    go_ret
    exact ⟨ret_bool HV.out.symm, Below.refl _ _⟩
theorem dnB_bad {d : RdnL} {k : Nat} (h : k < d.length) (hb : rdnB d[k] = false) : dnB d = false := by unfold dnB; rw [all_bad rdnB d k h hb]; simp
theorem dnB_all {d : RdnL} (h : d.all rdnB = true) : dnB d = decide (d.length ≤ 6) := by unfold dnB; rw [h]; simp
set_option maxHeartbeats 400000 in
theorem SpecDnRight_any (ao : Option Addr) (d : RdnL) (cap : Nat) (w : World) (hd : DnAt w ao d) (hf : Fits d) :
    Calls Tryz.prog 62 #[.slice ao d.length cap] w fun e w' => e = .returned (.bool (dnB d)) ∧ Below w.heap.size w w' := by
  have hl := hf.1
  have HD := Lib.hid hd; have HF := Lib.hid hf; clear hd hf
  go_enter Tryz.func62, Tryz.ntmps62
  go_wp2
  go_loopw [3] (fun i wr => ∃ k : Nat, k ≤ d.length ∧ i = .int .i64 k ∧ (d.take k).all rdnB = true ∧ Below w.heap.size w wr) (fun i _ => d.length - (intOf i).toNat)
  case atStart => exact ⟨0, Nat.zero_le _, rfl, rfl, Below.refl _ _⟩
  case round =>
    obtain ⟨k, hk, rfl, ha, hbel⟩ := hrel
    have Ha := Lib.hid ha; clear ha
    have hsz := hbel.size
    by_cases hlt : k < d.length
    · obtain ⟨b, off, rfl, hb, hc1, hc2⟩ := (HD.out.below hbel).at hlt
      have hz := HF.out.at hlt
      have HR : Hid (rdnB d[k] = (nmL d[k].1 && valB d[k].2)) := Lib.hid rfl
      cases hn : nmL d[k].1
      · have HX := Lib.hid (dnB_bad hlt (by rw [HR.out, hn]; rfl))
        go_wp2_with (first | (go_at_call 55; refine (SpecNameRight_any _ _ hz.1).mono ?_; rintro e w' ⟨rfl, rfl⟩))
        go_ret
        exact ⟨ret_bool HX.out.symm, hbel⟩
      · cases hv : valB d[k].2
        · have HX := Lib.hid (dnB_bad hlt (by rw [HR.out, hn, hv]; rfl))
          go_wp2_with (first | (go_at_call 55; refine (SpecNameRight_any _ _ hz.1).mono ?_; rintro e w' ⟨rfl, rfl⟩) | (go_at_call 56; refine (l02Value_any _ _ hz.2).mono ?_; rintro e w1 ⟨rfl, hb1⟩))
          go_ret
          exact ⟨ret_bool HX.out.symm, hbel.trans (hb1.mono hsz)⟩
        · have HT : Hid ((d.take (k + 1)).all rdnB = true) := Lib.hid (by rw [all_take rdnB d k hlt, Ha.out, HR.out, hn, hv]; rfl)
          go_wp2_with (first | (go_at_call 55; refine (SpecNameRight_any _ _ hz.1).mono ?_; rintro e w' ⟨rfl, rfl⟩) | (go_at_call 56; refine (l02Value_any _ _ hz.2).mono ?_; rintro e w1 ⟨rfl, hb1⟩))
          go_roundw
          case rel => exact ⟨k + 1, by omega, by go_num, HT.out, hbel.trans (hb1.mono hsz)⟩
          case measure => simp [intOf]; omega
    · have e : d.take k = d := List.take_of_length_le (by omega)
      have HT := Lib.hid (dnB_all (d := d) (by rw [← e]; exact Ha.out))
      clear e
      go_wp2
      go_ret
      exact ⟨ret_bool (by rw [HT.out]; exact decide_eq_decide.2 (by omega)), hbel⟩
end Go.Proofs.YtjajpdghamecoaaGreat
/- Escaped values: what the texts of the program and of the specification return. -/
namespace Go.Proofs.YtjajpdghamecoaaGreat
open Go.RowKit

/-- does a backslash stand ahead of byte i (of n)? -/
def oddI (c : Int) (i n : Nat) : Bool := (c == 44) || (c == 43) || (c == 34) || (c == 92) || (c == 60) || (c == 62) || (c == 59) || (c == 61) || ((c == 35) && decide (i = 0)) || ((c == 32) && (decide (i = 0) || decide (i + 1 = n)))
theorem odd35 {c : Int} (h : (c == 35) = true) (k n : Nat) : decide (k = 0) = oddI c k n := by
  have hc : c = 35 := by simpa using h
  subst hc; simp [oddI]
theorem odd_first (k : Nat) : ((k : Int) == 0) = decide (k = 0) := by rw [Bool.eq_iff_iff]; simp
theorem odd_last (k n : Nat) : ((k : Int) == (n : Int) - 1) = decide (k + 1 = n) := by rw [Bool.eq_iff_iff]; simp; omega
/-- the escaped form of the first k bytes -/
def escTo (l : List UInt8) (k : Nat) : List UInt8 := (List.range k).flatMap fun i => if oddI ((l.getD i 0).toNat : Int) i l.length = true then [92, l.getD i 0] else [l.getD i 0]
def escL (l : List UInt8) : List UInt8 := escTo l l.length
def escS (s : ByteArray) : ByteArray := ⟨(escL s.data.toList).toArray⟩
theorem getD_at (s : ByteArray) (k : Nat) (h : k < s.size) : s.data.toList.getD k 0 = s[k] := by
  have h' : k < s.data.toList.length := by simpa using h
  rw [List.getD_eq_getElem?_getD, List.getElem?_eq_getElem h']; rfl
theorem escTo_succ (s : ByteArray) (k : Nat) (h : k < s.size) :
    escTo s.data.toList (k + 1) = escTo s.data.toList k ++ (if oddI (s[k].toNat : Int) k s.size = true then [92, s[k]] else [s[k]]) := by
  have e : ((s.data.toList.getD k 0 : UInt8)) = s[k] := getD_at s k h
  unfold escTo
  rw [List.range_succ, List.flatMap_append, List.flatMap_singleton, e, size_len]
theorem escTo_len (l : List UInt8) (k : Nat) : (escTo l k).length ≤ 2 * k := by
  induction k with
  | zero => simp [escTo]
  | succ k ih =>
    unfold escTo at ih ⊢
    rw [List.range_succ, List.flatMap_append, List.length_append, List.flatMap_singleton]
    split <;> simp only [List.length_cons, List.length_nil] <;> omega
theorem escS_of (s : ByteArray) (k : Nat) (h : k = s.size) : escS s = ⟨(escTo s.data.toList k).toArray⟩ := by subst h; unfold escS escL; rw [size_len]
def EscAt (s : ByteArray) (w : World) (v i : Value) (wr : World) (k : Nat) : Prop :=
  k ≤ s.size ∧ i = .int .i64 k ∧ wr.ownsRow w.heap.size 5 1 v (escTo s.data.toList k).length (bs (escTo s.data.toList k)) ∧ Below w.heap.size w wr

end Go.Proofs.YtjajpdghamecoaaGreat
/- Rows of strings and of pairs that a call owns: one more element. -/
namespace Go.Proofs.YtjajpdghamecoaaGreat
open Go.RowKit

theorem Tryz.info9 : (Tryz.prog.info? 9).map (fun i => (i.zero, i.size, i.bytes)) = some (some (.string ByteArray.empty), 1, 16) := by kernel_rfl
theorem Tryz.info97 : (Tryz.prog.info? 97).map (fun i => (i.zero, i.size, i.bytes)) = some (some (.agg #[.string ByteArray.empty, .string ByteArray.empty]), 2, 32) := by kernel_rfl
def ss (l : List ByteArray) : List Value := l.map Value.string
def rs (d : RdnL) : List Value := d.flatMap fun r => [Value.string r.1, Value.string r.2]
theorem ss_snoc (l : List ByteArray) (t : ByteArray) : ss (l ++ [t]) = ss l ++ [.string t] := by simp [ss]
theorem rs_snoc (d : RdnL) (r : ByteArray × ByteArray) : rs (d ++ [r]) = rs d ++ [.string r.1, .string r.2] := by simp [rs]
theorem ss_length (l : List ByteArray) : (ss l).length = l.length := by simp [ss]
theorem rs_length (d : RdnL) : (rs d).length = d.length * 2 := by
  induction d with
  | nil => rfl
  | cons r d ih => simp only [rs, List.flatMap_cons, List.length_append, List.length_cons, List.length_nil] at ih ⊢; omega
theorem rs_get (d : RdnL) (i : Nat) (h : i < d.length) : (rs d)[i * 2]? = some (.string d[i].1) ∧ (rs d)[i * 2 + 1]? = some (.string d[i].2) := by
  induction d generalizing i with
  | nil => simp at h
  | cons r d ih =>
    cases i with
    | zero => simp [rs]
    | succ i =>
      have := ih i (by simpa using h)
      have e : rs (r :: d) = [Value.string r.1, Value.string r.2] ++ rs d := rfl
      rw [e]
      constructor
      · rw [List.getElem?_append_right (by simp; omega)]
        have : (i + 1) * 2 - [Value.string r.1, Value.string r.2].length = i * 2 := by simp; omega
        rw [this]; simpa using (ih i (by simpa using h)).1
      · rw [List.getElem?_append_right (by simp; omega)]
        have : (i + 1) * 2 + 1 - [Value.string r.1, Value.string r.2].length = i * 2 + 1 := by simp; omega
        rw [this]; simpa using (ih i (by simpa using h)).2
/-- a row of pairs that a call owns is a name -/
theorem own_dn {w : World} {B n cap : Nat} {ao : Option Addr} {d : RdnL} (h : w.ownsRow B 97 2 (.slice ao n cap) d.length (rs d)) : DnAt w ao d := by
  by_cases h0 : d.length = 0
  · exact .inl (List.length_eq_zero_iff.1 h0)
  · obtain ⟨g, cp, hv, _, hlt⟩ := h.form (by omega)
    have e : ao = some ⟨g, 0, none⟩ := by injection hv
    subst e
    refine .inr ⟨g, 0, rfl, hlt, fun i hi => ⟨?_, ?_⟩⟩
    · have := h.cells (g := g) rfl (i * 2) _ (rs_get d i hi).1
      rwa [add_plain, show i * 2 = 0 + i * 2 by omega] at this
    · have := h.cells (g := g) rfl (i * 2 + 1) _ (rs_get d i hi).2
      rwa [add_plain, show i * 2 + 1 = 0 + i * 2 + 1 by omega] at this
theorem own_below {w w' : World} {B e z n : Nat} {v : Value} {xs : List Value} (h : w.ownsRow B e z v n xs) (hb : Below w.heap.size w w') : w'.ownsRow B e z v n xs :=
  h.kept (row := none) ⟨hb.os, hb.tape, hb.output, hb.size, fun k hk _ => hb.block k hk⟩ (by cases v.ownBlock <;> simp)

section
variable {ops : Array Oper} {rest : List Oper} {o : Oper} {a : Act} {Q : Exit → Act → World → Prop} {K : Act → World → Prop} {E : Prop} {w0 wr : World}
theorem append_str (B : Nat) (hgd : o.guard = none) (s x : Operand)
    (ho : o.op = .call { callee := .builtin .append, args := #[s, x], argTypes := #[36, 36] }) (v : Value) (pre : List ByteArray) (hs : a.eval s = v) (hown : wr.ownsRow B 9 1 v pre.length (ss pre))
    (t : ByteArray) (hx : a.eval x = .slice (some ⟨wr.heap.size, 0, none⟩) 1 1) (hlen : pre.length ≤ 1000000000) (hB : B ≤ wr.heap.size) (hbel : Below B w0 wr)
    (h : ∀ v' w', w'.ownsRow B 9 1 v' (pre ++ [t]).length (ss (pre ++ [t])) → Below B w0 w' → B ≤ w'.heap.size → (v'.ownBlock = v.ownBlock ∨ v'.ownBlock = some (wr.heap.size + 1)) → wr.grownBy w' v.ownBlock → wpList Tryz.prog ops Q rest (a.put o.dst v') w') :
    wpList Tryz.prog ops Q (o :: rest) a (wr.alloc (.cells #[.string t] 9)) := by
  obtain ⟨i0, hi, hz0, hz1, hz2⟩ := info_parts Tryz.info9
  refine wpList_append_lies _ hgd s x 36 ho B 9 i0 _ 1 16 Tryz.underlying36 hi hz0 hz1 hz2 rfl (by decide) v pre.length (ss pre) hs (hown.alloc _) ⟨wr.heap.size, 0, none⟩ 1 1 [.string t] hx rfl (cell_one_new _ _ _) ?_ (by omega) ?_ ?_ ?_ (wr.heap.size + 1) (by simp) ?_
  · intro u hu; simp at hu; subst hu; rfl
  · unfold maxLen; omega
  · omega
  · simp; omega
  · intro g cap w' h1 h2 h3 h4
    have hb' : Below B w0 w' := (hbel.alloc hB _).grown h2 (by simp; omega) (fun k hk => (hown.lt k hk).1)
    refine h _ w' ?_ hb' (Nat.le_trans hB (by have := h2.size; simp at this; omega)) ?_ ((World.grownBy_alloc _ _ _).trans h2)
    · rw [ss_snoc]; simpa using h1
    · rcases h3 with h3 | h3
      · exact .inl h3.symm
      · exact .inr (by rw [h3]; rfl)
theorem step_str (B : Nat) (hgd : o.guard = none) (s x : Operand)
    (ho : o.op = .call { callee := .builtin .append, args := #[s, x], argTypes := #[36, 36] }) (v : Value) (pre : List ByteArray) (hs : a.eval s = v) (hown : wr.ownsRow B 9 1 v pre.length (ss pre))
    (t : ByteArray) (hx : a.eval x = .slice (some ⟨wr.heap.size, 0, none⟩) 1 1) (hlen : pre.length ≤ 1000000000) (hB : B ≤ wr.heap.size) (hbel : Below B w0 wr)
    (h : ∀ g cap w', w'.ownsRow B 9 1 (.slice (some ⟨g, 0, none⟩) (pre.length + 1) cap) (pre ++ [t]).length (ss (pre ++ [t])) → Below B w0 w' → B ≤ w'.heap.size → K (a.put o.dst (.slice (some ⟨g, 0, none⟩) (pre.length + 1) cap)) w') :
    if Region.wanted o (yielded ops a.tmps) = true then Oper.wp Tryz.prog o a (wr.alloc (.cells #[.string t] 9)) K Q else E := by
  obtain ⟨i0, hi, hz0, hz1, hz2⟩ := info_parts Tryz.info9
  refine step_append_lies _ hgd s x 36 ho B 9 i0 _ 1 16 Tryz.underlying36 hi hz0 hz1 hz2 rfl (by decide) v pre.length (ss pre) hs (hown.alloc _) ⟨wr.heap.size, 0, none⟩ 1 1 [.string t] hx rfl (cell_one_new _ _ _) ?_ (by omega) ?_ ?_ ?_ (wr.heap.size + 1) (by simp) ?_
  · intro u hu; simp at hu; subst hu; rfl
  · unfold maxLen; omega
  · omega
  · simp; omega
  · intro g cap w' h1 h2 h3 h4
    have hb' : Below B w0 w' := (hbel.alloc hB _).grown h2 (by simp; omega) (fun k hk => (hown.lt k hk).1)
    refine h g cap w' ?_ hb' (Nat.le_trans hB (by have := h2.size; simp at this; omega))
    rw [ss_snoc]; simpa using h1
theorem append_rdn (B : Nat) (hgd : o.guard = none) (s x : Operand)
    (ho : o.op = .call { callee := .builtin .append, args := #[s, x], argTypes := #[23, 23] }) (v : Value) (pre : RdnL) (hs : a.eval s = v) (hown : wr.ownsRow B 97 2 v pre.length (rs pre))
    (r : ByteArray × ByteArray) (hx : a.eval x = .slice (some ⟨wr.heap.size, 0, none⟩) 1 1) (hlen : pre.length ≤ 1000000000) (hB : B ≤ wr.heap.size) (hbel : Below B w0 wr)
    (h : ∀ v' w', w'.ownsRow B 97 2 v' (pre ++ [r]).length (rs (pre ++ [r])) → Below B w0 w' → B ≤ w'.heap.size → wpList Tryz.prog ops Q rest (a.put o.dst v') w') :
    wpList Tryz.prog ops Q (o :: rest) a (wr.alloc (.cells #[.string r.1, .string r.2] 97)) := by
  obtain ⟨i0, hi, hz0, hz1, hz2⟩ := info_parts Tryz.info97
  refine wpList_append_lies _ hgd s x 23 ho B 97 i0 _ 2 32 Tryz.underlying23 hi hz0 hz1 hz2 rfl (by decide) v pre.length (rs pre) hs (hown.alloc _) ⟨wr.heap.size, 0, none⟩ 1 1 [.string r.1, .string r.2] hx rfl (World.news_of_block (cs := #[.string r.1, .string r.2]) (t := 97) (fr := (0, 0)) (heap_alloc_new wr _)) ?_ (by omega) ?_ ?_ ?_ (wr.heap.size + 1) (by simp) ?_
  · intro u hu; simp at hu; rcases hu with rfl | rfl <;> rfl
  · unfold maxLen; omega
  · omega
  · simp; omega
  · intro g cap w' h1 h2 h3 h4
    have hb' : Below B w0 w' := (hbel.alloc hB _).grown h2 (by simp; omega) (fun k hk => (hown.lt k hk).1)
    refine h _ w' ?_ hb' (Nat.le_trans hB (by have := h2.size; simp at this; omega))
    rw [rs_snoc]; simpa using h1
theorem step_rdn (B : Nat) (hgd : o.guard = none) (s x : Operand)
    (ho : o.op = .call { callee := .builtin .append, args := #[s, x], argTypes := #[23, 23] }) (v : Value) (pre : RdnL) (hs : a.eval s = v) (hown : wr.ownsRow B 97 2 v pre.length (rs pre))
    (r : ByteArray × ByteArray) (hx : a.eval x = .slice (some ⟨wr.heap.size, 0, none⟩) 1 1) (hlen : pre.length ≤ 1000000000) (hB : B ≤ wr.heap.size) (hbel : Below B w0 wr)
    (h : ∀ g cap w', w'.ownsRow B 97 2 (.slice (some ⟨g, 0, none⟩) (pre.length + 1) cap) (pre ++ [r]).length (rs (pre ++ [r])) → Below B w0 w' → B ≤ w'.heap.size → (∀ q, q < wr.heap.size → v.ownBlock ≠ some q → w'.heap[q]? = wr.heap[q]?) → K (a.put o.dst (.slice (some ⟨g, 0, none⟩) (pre.length + 1) cap)) w') :
    if Region.wanted o (yielded ops a.tmps) = true then Oper.wp Tryz.prog o a (wr.alloc (.cells #[.string r.1, .string r.2] 97)) K Q else E := by
  obtain ⟨i0, hi, hz0, hz1, hz2⟩ := info_parts Tryz.info97
  refine step_append_lies _ hgd s x 23 ho B 97 i0 _ 2 32 Tryz.underlying23 hi hz0 hz1 hz2 rfl (by decide) v pre.length (rs pre) hs (hown.alloc _) ⟨wr.heap.size, 0, none⟩ 1 1 [.string r.1, .string r.2] hx rfl (World.news_of_block (cs := #[.string r.1, .string r.2]) (t := 97) (fr := (0, 0)) (heap_alloc_new wr _)) ?_ (by omega) ?_ ?_ ?_ (wr.heap.size + 1) (by simp) ?_
  · intro u hu; simp at hu; rcases hu with rfl | rfl <;> rfl
  · unfold maxLen; omega
  · omega
  · simp; omega
  · intro g cap w' h1 h2 h3 h4
    have hb' : Below B w0 w' := (hbel.alloc hB _).grown h2 (by simp; omega) (fun k hk => (hown.lt k hk).1)
    refine h g cap w' ?_ hb' (Nat.le_trans hB (by have := h2.size; simp at this; omega)) (fun q hq hne => ?_)
    · rw [rs_snoc]; simpa using h1
    · rw [h2.block q (by simp; omega) (fun e => hne e.symm), Below.heap_alloc _ _ _ hq]
end
end Go.Proofs.YtjajpdghamecoaaGreat
/- Contracts of two library functions, laid over this program by the kit's command, in plain words. -/
namespace Go.Proofs
open Go.Shelf
end Go.Proofs
/- DnText: what the texts of the program and of the specification return. -/
namespace Go.Proofs.YtjajpdghamecoaaGreat
open Go.RowKit
attribute [local go_sem ↓] Go.wp_at_zero Go.wp_at_succ

theorem cat (a b : ByteArray) (h : a.size + b.size ≤ 1000000000) (W : World) : (Op.stringOp .add a b).run Tryz.prog W = .ok (.string (a ++ b)) W := run_string_add_sum W a b (by omega)
theorem escS_size (s : ByteArray) : (escS s).size ≤ 2 * s.size := by
  have := escTo_len s.data.toList s.data.toList.length
  rw [size_len] at this
  exact this
theorem sz1 (c : UInt8) : (⟨#[c]⟩ : ByteArray).size = 1 := rfl
/-- the text of one pair -/
def rdnS (r : ByteArray × ByteArray) : ByteArray := r.1 ++ ⟨#[61]⟩ ++ escS r.2
def partsTo (d : RdnL) (k : Nat) : List ByteArray := (d.take k).map rdnS
theorem partsTo_len (d : RdnL) (k : Nat) (h : k ≤ d.length) : (partsTo d k).length = k := by simp [partsTo]; omega
theorem partsTo_succ (d : RdnL) (k : Nat) (h : k < d.length) : partsTo d (k + 1) = partsTo d k ++ [rdnS d[k]] := by unfold partsTo; rw [List.take_succ_eq_append_getElem h, List.map_append]; rfl
theorem Fits.small {d : RdnL} (h : Fits d) {k : Nat} (hk : k < d.length) : d[k].1.size ≤ 1048576 ∧ d[k].2.size ≤ 1048576 := h.2 _ (List.getElem_mem hk)

/-- the text of a name -/
def textL (d : RdnL) : List UInt8 := Lib.join (d.map (fun r => (rdnS r).data.toList)) [44]
def textS (d : RdnL) : ByteArray := ⟨(textL d).toArray⟩
theorem rdnS_size (r : ByteArray × ByteArray) (h1 : r.1.size ≤ 1048576) (h2 : r.2.size ≤ 1048576) : (rdnS r).data.toList.length ≤ 4000000 := by
  have := escS_size r.2
  rw [size_len]
  unfold rdnS
  rw [ByteArray.size_append, ByteArray.size_append, sz1]
  omega
theorem join_len (l : List (List UInt8)) (m : Nat) (h : ∀ x ∈ l, x.length ≤ m) : (Lib.join l [44]).length ≤ l.length * (m + 1) := by
  cases l with
  | nil => simp [Lib.join_nil]
  | cons x l =>
    rw [Lib.join_cons]
    have : ∀ (r : List (List UInt8)), (∀ x ∈ r, x.length ≤ m) → (Lib.joinTail [44] r).length ≤ r.length * (m + 1) := by
      intro r
      induction r with
      | nil => intro _; simp [Lib.joinTail]
      | cons y r ih =>
        intro hr
        have h1 := ih (fun x hx => hr x (List.mem_cons_of_mem _ hx))
        have h2 := hr y (List.mem_cons_self ..)
        simp only [Lib.joinTail, List.map_cons, List.flatten_cons, List.length_append, List.length_cons, List.length_nil] at h1 ⊢
        rw [Nat.add_mul]; omega
    have h1 := this l (fun y hy => h y (List.mem_cons_of_mem _ hy))
    have h2 := h x (List.mem_cons_self ..)
    rw [List.length_append, List.length_cons, Nat.add_mul]; omega
theorem text_len (d : RdnL) (h : Fits d) : (textL d).length ≤ d.length * 4000001 := by
  have := join_len (d.map (fun r => (rdnS r).data.toList)) 4000000 (fun x hx => by
    obtain ⟨r, hr, rfl⟩ := List.mem_map.1 hx
    exact rdnS_size r (h.2 r hr).1 (h.2 r hr).2)
  rw [List.length_map] at this
  exact this
end Go.Proofs.YtjajpdghamecoaaGreat
/- DnText: what the specification's text returns. -/
namespace Go.Proofs.YtjajpdghamecoaaGreat
open Go.RowKit
attribute [local go_sem ↓] Go.wp_at_zero Go.wp_at_succ

/-- the text of the first k pairs -/
def textTo (d : RdnL) (k : Nat) : ByteArray := textS (d.take k)
theorem join_snoc (l : List (List UInt8)) (x sep : List UInt8) (h : l ≠ []) : Lib.join (l ++ [x]) sep = Lib.join l sep ++ sep ++ x := by
  rcases l with _ | ⟨y, l⟩
  · exact absurd rfl h
  · rw [List.cons_append, Lib.join_cons, Lib.join_cons]
    simp [Lib.joinTail, List.append_assoc]
theorem textTo_one (d : RdnL) (h : 0 < d.length) : textTo d 1 = rdnS d[0] := by
  unfold textTo textS textL
  rw [List.take_succ_eq_append_getElem h, List.take_zero, List.nil_append, List.map_singleton, Lib.join_one]
theorem textTo_succ (d : RdnL) (k : Nat) (h : k < d.length) (h0 : 0 < k) : textTo d (k + 1) = textTo d k ++ ⟨#[44]⟩ ++ rdnS d[k] := by
  unfold textTo textS textL
  rw [List.take_succ_eq_append_getElem h, List.map_append, List.map_singleton, join_snoc _ _ _ (by
    intro e
    have := congrArg List.length e
    rw [List.length_map, List.length_take, List.length_nil] at this; omega)]
  apply ByteArray.ext
  simp
theorem textTo_size (d : RdnL) (k : Nat) (h : Fits d) (h6 : d.length ≤ 6) : (textTo d k).size ≤ 30000000 := by
  have h1 := text_len (d.take k) ⟨by have := h.1; simp; omega, fun r hr => h.2 r (List.mem_of_mem_take hr)⟩
  have h2 : (d.take k).length ≤ 6 := by rw [List.length_take]; omega
  have h3 : (textTo d k).size = (textL (d.take k)).length := rfl
  rw [h3]
  omega
theorem cat_assoc (a b c : ByteArray) : a ++ b ++ c = a ++ (b ++ c) := by apply ByteArray.ext; simp

def dnTextS (d : RdnL) : ByteArray := if dnB d = true then textS d else ByteArray.empty
theorem dnText_yes {d : RdnL} (h : dnB d = true) : dnTextS d = textS d := by unfold dnTextS; rw [if_pos h]
theorem dnText_no {d : RdnL} (h : dnB d = false) : dnTextS d = ByteArray.empty := by unfold dnTextS; rw [h]; rfl
theorem dnB_six {d : RdnL} (h : dnB d = true) : d.length ≤ 6 := by unfold dnB at h; simp at h; exact h.1
end Go.Proofs.YtjajpdghamecoaaGreat
/- Normalized pairs, keys, sameness: what the texts return. -/
namespace Go.Proofs.YtjajpdghamecoaaGreat
open Go.RowKit
attribute [local go_sem ↓] Go.wp_at_zero Go.wp_at_succ

/-- two blocks of two cells, over a call -/
theorem keep22 {w W w1 : World} {a b x y : Value} {T U : TypeId} (hb : Below W.heap.size W w1) (hW : W.heap = ((w.alloc (.cells #[a, b] T)).alloc (.cells #[x, y] U)).heap) :
    (w1.cell? ⟨w.heap.size, 0, none⟩ = some a ∧ w1.cell? ⟨w.heap.size, 1, none⟩ = some b ∧ w1.cell? ⟨w.heap.size + 1, 0, none⟩ = some x ∧ w1.cell? ⟨w.heap.size + 1, 1, none⟩ = some y) ∧
    (w1.frozen? ⟨w.heap.size, 0, none⟩ = false ∧ w1.frozen? ⟨w.heap.size, 1, none⟩ = false ∧ w1.frozen? ⟨w.heap.size + 1, 0, none⟩ = false ∧ w1.frozen? ⟨w.heap.size + 1, 1, none⟩ = false) ∧ w.heap.size + 1 < w1.heap.size := by
  have hs : w.heap.size + 1 < W.heap.size := by rw [hW]; simp
  have hblk : w1.heap[w.heap.size]? = some (.cells #[a, b] T) := by
    rw [hb.block _ (by omega), hW, Below.heap_alloc _ _ _ (by simp)]; exact heap_alloc_new w _
  have hblk2 : w1.heap[w.heap.size + 1]? = some (.cells #[x, y] U) := by
    rw [hb.block _ hs, hW]
    have := heap_alloc_new (w.alloc (.cells #[a, b] T)) (.cells #[x, y] U)
    simpa using this
  refine ⟨⟨?_, ?_, ?_, ?_⟩, ⟨?_, ?_, ?_, ?_⟩, Nat.lt_of_lt_of_le hs hb.size⟩
  all_goals first | (unfold World.cell?; rw [hblk]; rfl) | (unfold World.frozen?; rw [hblk]; rfl) | (unfold World.cell?; rw [hblk2]; rfl) | (unfold World.frozen?; rw [hblk2]; rfl)
theorem below_past2 {w W w1 : World} {o o' : Obj} (hb : Below W.heap.size W w1) (h1 : W.heap = ((w.alloc o).alloc o').heap) (h2 : W.os = w.os) (h3 : W.tape = w.tape) (h4 : W.output = w.output) : Below w.heap.size w w1 := by
  have hs : W.heap.size = w.heap.size + 2 := by rw [h1]; simp
  refine ⟨hb.os.trans h2, hb.tape.trans h3, hb.output.trans h4, by have := hb.size; omega, fun k hk => ?_⟩
  rw [hb.block k (by omega), h1, Below.heap_alloc _ _ _ (by simp; omega), Below.heap_alloc w o k hk]

set_option maxRecDepth 100000 in
set_option maxHeartbeats 1000000 in
theorem normRdn_any (a v : ByteArray) (w : World) (hv : v.size ≤ maxLen) :
    Calls Tryz.prog 133 #[.agg #[.string a, .string v]] w fun e w' => e = .returned (.agg #[.string a, .string (normS v)]) ∧ Below w.heap.size w w' := by
  go_enter Tryz.func133, Tryz.ntmps133
  go_wp2_with fail
  go_region_with (first | (go_at_call 126; refine (Norm_any _ _ hv).mono ?_; rintro e w2 ⟨rfl, hb2⟩; obtain ⟨⟨c0, c1, c2, c3⟩, ⟨f0, f1, f2, f3⟩, hz⟩ := keep22 (w := w) hb2 rfl; have HB := Lib.hid (below_past2 (w := w) hb2 rfl rfl rfl rfl); clear hb2))
  all_goals go_wp2
  all_goals refine bodyPost_ret (v := .agg #[.string a, .string (normS v)]) (by simp [results, Tryz.results133, go_sem, c2, c3]) rfl ⟨rfl, ?_⟩
  all_goals exact (HB.out.setCell (by simp) _).setCell (by simp) _
end Go.Proofs.YtjajpdghamecoaaGreat
/- Keys of names: the plain mathematics. -/
namespace Go.Proofs.YtjajpdghamecoaaGreat
open Go.RowKit

/-- what is compared of a pair -/
def nrm (r : ByteArray × ByteArray) : List UInt8 × List UInt8 := (r.1.data.toList, normL r.2.data.toList)
def sameB (a b : RdnL) : Bool := decide (a.map nrm = b.map nrm)
/-- one pair of a key -/
def rkL (r : ByteArray × ByteArray) : List UInt8 := 1 :: (r.1.data.toList ++ 61 :: normL r.2.data.toList)
def keyL (d : RdnL) : List UInt8 := d.reverse.flatMap rkL
def keyS (d : RdnL) : ByteArray := ⟨(keyL d).toArray⟩

theorem pair_eq (a v a' v' : ByteArray) : ((a.toList == a'.toList) && ((normS v).toList == (normS v').toList)) = decide (nrm (a, v) = nrm (a', v')) := by
  rw [Lib.toList_data, Lib.toList_data, Lib.toList_data, Lib.toList_data, Bool.eq_iff_iff]
  simp [nrm, normS]
theorem Tryz.fields97 : Tryz.prog.underlying 97 = some (.struct (Tryz.prog.fieldsOf 97)) := by kernel_rfl
theorem Tryz.held97 : Tryz.prog.stoodInHeld 97 = false := by kernel_rfl
theorem neq39 (a v a' v' : ByteArray) (W : World) : (binOp .neq 97 (.agg #[.string a, .string v]) (.agg #[.string a', .string v'])).run Tryz.prog W = .ok (.bool (!((a.toList == a'.toList) && (v.toList == v'.toList)))) W := by
  rw [run_neq_struct, run_equalIn_agg W 9999 97 _ _ Tryz.fields97 Tryz.held97]
  simp [go_sem]
  by_cases h1 : a.toList = a'.toList
  · by_cases h2 : v.toList = v'.toList
    · rw [if_pos h1, if_pos h2]; simp [h1, h2]
    · rw [if_pos h1, if_neg h2]; simp [h2]
  · rw [if_neg h1]; simp [h1]
theorem neqNorm (a v a' v' : ByteArray) (W : World) : (binOp .neq 97 (.agg #[.string a, .string (normS v)]) (.agg #[.string a', .string (normS v')])).run Tryz.prog W = .ok (.bool (!decide (nrm (a, v) = nrm (a', v')))) W := by
  rw [neq39, pair_eq]

/-- bytes of a name, and of a normalized value -/
def cleanR (p : List UInt8 × List UInt8) : Prop := (1 ∉ p.1 ∧ 61 ∉ p.1) ∧ 1 ∉ p.2
theorem name_clean {s : ByteArray} (h : nmL s = true) : 1 ∉ s.data.toList ∧ 61 ∉ s.data.toList := by
  have h1 : allB s.data.toList = true := by unfold nmL at h; simp at h; exact h.2
  unfold allB at h1
  rw [List.all_eq_true] at h1
  constructor
  · intro hm; have := h1 _ hm; revert this; decide
  · intro hm; have := h1 _ hm; revert this; decide
theorem nstep_mem {o : List UInt8} {c x : UInt8} (h : x ∈ nstep o c) : x ∈ o ∨ x = low c := by
  unfold nstep at h
  split at h
  · exact .inl h
  · simpa using h
theorem nfold_mem {l : List UInt8} {x : UInt8} (h : x ∈ nfold l) : ∃ c ∈ l, x = low c := by
  have : ∀ (l o : List UInt8), x ∈ l.foldl nstep o → x ∈ o ∨ ∃ c ∈ l, x = low c := by
    intro l
    induction l with
    | nil => intro o h; exact .inl h
    | cons c l ih =>
      intro o h
      rcases ih _ h with h1 | ⟨d, hd, hx⟩
      · rcases nstep_mem h1 with h2 | h2
        · exact .inl h2
        · exact .inr ⟨c, List.mem_cons_self .., h2⟩
      · exact .inr ⟨d, List.mem_cons_of_mem _ hd, hx⟩
  rcases this l [] h with h1 | h1
  · simp at h1
  · exact h1
theorem chop_mem {o : List UInt8} {x : UInt8} (h : x ∈ chop o) : x ∈ o := by
  unfold chop at h
  split at h
  · exact List.dropLast_subset _ h
  · exact h
/-- the bytes of a normalized text are printable -/
theorem norm_plain (l : List UInt8) : ∀ x ∈ normL l, 32 ≤ x.toNat ∧ x.toNat ≤ 126 := by
  intro x hx
  unfold normL at hx
  split at hx
  · rename_i h
    obtain ⟨c, hc, rfl⟩ := nfold_mem (chop_mem hx)
    have hp := h.2
    unfold plainB at hp
    rw [List.all_eq_true] at hp
    have hp := hp c hc
    simp at hp
    by_cases hcap : 65 ≤ c.toNat ∧ c.toNat ≤ 90
    · have := low_in c hcap; omega
    · rw [low_out c hcap]; omega
  · simp at hx
theorem norm_clean (l : List UInt8) : 1 ∉ normL l := by
  intro h
  have := norm_plain l _ h
  revert this; decide
theorem clean_of {d : RdnL} (h : d.all rdnB = true) : ∀ p ∈ d.map nrm, cleanR p := by
  intro p hp
  obtain ⟨r, hr, rfl⟩ := List.mem_map.1 hp
  rw [List.all_eq_true] at h
  have := h r hr
  unfold rdnB at this
  simp at this
  exact ⟨name_clean this.1, norm_clean _⟩
def rkP (p : List UInt8 × List UInt8) : List UInt8 := 1 :: (p.1 ++ 61 :: p.2)
theorem split_at {c : UInt8} : ∀ {a b x y : List UInt8}, c ∉ a → c ∉ b → a ++ c :: x = b ++ c :: y → a = b ∧ x = y
  | [], [], _, _, _, _, h => ⟨rfl, by simpa using h⟩
  | [], b0 :: b, _, _, _, hb, h => by
    simp at h; exact absurd h.1.symm (fun e => hb (by simp [e]))
  | a0 :: a, [], _, _, ha, _, h => by
    simp at h; exact absurd h.1 (fun e => ha (by simp [e]))
  | a0 :: a, b0 :: b, x, y, ha, hb, h => by
    simp at h
    obtain ⟨h1, h2⟩ := h
    have := split_at (c := c) (fun e => ha (by simp [e])) (fun e => hb (by simp [e])) h2
    exact ⟨by rw [h1, this.1], this.2⟩
/-- of two lists of pairs with one key -/
theorem key_inj : ∀ (a b : List (List UInt8 × List UInt8)), (∀ p ∈ a, cleanR p) → (∀ p ∈ b, cleanR p) → a.flatMap rkP = b.flatMap rkP → a = b
  | [], [], _, _, _ => rfl
  | [], q :: b, _, _, h => by simp [rkP] at h
  | p :: a, [], _, _, h => by simp [rkP] at h
  | p :: a, q :: b, ha, hb, h => by
    have hp := ha p (List.mem_cons_self ..)
    have hq := hb q (List.mem_cons_self ..)
    have ha' : ∀ x ∈ a, cleanR x := fun x hx => ha x (List.mem_cons_of_mem _ hx)
    have hb' : ∀ x ∈ b, cleanR x := fun x hx => hb x (List.mem_cons_of_mem _ hx)
    simp only [List.flatMap_cons, rkP, List.cons_append, List.cons.injEq, true_and, List.append_assoc] at h
    obtain ⟨e1, h2⟩ := split_at (c := 61) hp.1.2 hq.1.2 h
    have tail : ∀ (l : List (List UInt8 × List UInt8)), l.flatMap rkP = [] ∨ ∃ t, l.flatMap rkP = 1 :: t := by
      intro l
      cases l with
      | nil => exact .inl rfl
      | cons r l => exact .inr ⟨_, rfl⟩
    have h3 : p.2 = q.2 ∧ a.flatMap rkP = b.flatMap rkP := by
      have h2' : p.2 ++ a.flatMap rkP = q.2 ++ b.flatMap rkP := h2
      rcases tail a with ea | ⟨s, ea⟩ <;> rcases tail b with eb | ⟨t, eb⟩
      · rw [ea, eb] at h2' ⊢; simpa using h2'
      · rw [ea, eb] at h2'
        exact absurd (show (1 : UInt8) ∈ p.2 by rw [show p.2 = q.2 ++ 1 :: t by simpa using h2']; simp) hp.2
      · rw [ea, eb] at h2'
        exact absurd (show (1 : UInt8) ∈ q.2 by rw [show q.2 = p.2 ++ 1 :: s by simpa using h2'.symm]; simp) hq.2
      · rw [ea, eb] at h2' ⊢
        obtain ⟨x, y⟩ := split_at (c := 1) hp.2 hq.2 h2'
        exact ⟨x, by rw [y]⟩
    have := key_inj a b ha' hb' h3.2
    rw [this, Prod.ext e1 h3.1]
theorem keyL_map (d : RdnL) : keyL d = (d.map nrm).reverse.flatMap rkP := by
  unfold keyL
  rw [← List.map_reverse, List.flatMap_map]; rfl
theorem key_same {a b : RdnL} (ha : a.all rdnB = true) (hb : b.all rdnB = true) : ((keyS a).toList == (keyS b).toList) = sameB a b := by
  rw [Lib.toList_data, Lib.toList_data, Bool.eq_iff_iff]
  simp only [beq_iff_eq, sameB, decide_eq_true_eq]
  show keyL a = keyL b ↔ _
  constructor
  · intro h
    rw [keyL_map, keyL_map] at h
    have := key_inj _ _ (fun p hp => clean_of ha p (by simpa using hp)) (fun p hp => clean_of hb p (by simpa using hp)) h
    simpa using this
  · intro h; rw [keyL_map, keyL_map, h]
theorem keyL_take (d : RdnL) (k : Nat) (h : k < d.length) : keyL (d.take (k + 1)) = rkL d[k] ++ keyL (d.take k) := by
  unfold keyL
  rw [List.take_succ_eq_append_getElem h, List.reverse_append, List.flatMap_append]; simp
theorem keyL_drop (d : RdnL) (k : Nat) (h : k < d.length) : keyL (d.drop k) = keyL (d.drop (k + 1)) ++ rkL d[k] := by
  unfold keyL
  rw [List.drop_eq_getElem_cons h, List.reverse_cons, List.flatMap_append]; simp
theorem rk_len (r : ByteArray × ByteArray) (h : r.1.size ≤ 1048576) : (rkL r).length ≤ 1048678 := by
  have := normL_len r.2.data.toList
  unfold rkL
  simp only [List.length_cons, List.length_append, size_len]; omega
theorem keyL_len (d : RdnL) (h : ∀ r ∈ d, r.1.size ≤ 1048576) : (keyL d).length ≤ d.length * 1048678 := by
  induction d with
  | nil => simp [keyL]
  | cons r d ih =>
    have h1 := ih (fun x hx => h x (List.mem_cons_of_mem _ hx))
    have h2 := rk_len r (h r (List.mem_cons_self ..))
    have e : keyL (r :: d) = keyL d ++ rkL r := by unfold keyL; simp
    rw [e, List.length_append, List.length_cons, Nat.add_mul]; omega
theorem keyS_small (d : RdnL) (h : Fits d) (h6 : d.length ≤ 6) : (keyS d).size ≤ 7000000 := by
  have := keyL_len d (fun r hr => (h.2 r hr).1)
  have e : (keyS d).size = (keyL d).length := rfl
  rw [e]; omega
theorem Fits.take {d : RdnL} (h : Fits d) (k : Nat) : Fits (d.take k) := ⟨by have := h.1; simp; omega, fun r hr => h.2 r (List.mem_of_mem_take hr)⟩
theorem Fits.drop {d : RdnL} (h : Fits d) (k : Nat) : Fits (d.drop k) := ⟨by have := h.1; simp; omega, fun r hr => h.2 r (List.mem_of_mem_drop hr)⟩
theorem normS_size (s : ByteArray) : (normS s).size ≤ 100 := by have := normL_len s.data.toList; exact this
end Go.Proofs.YtjajpdghamecoaaGreat
