/- Reading names: the plain mathematics. -/
import Derived.Test.YtjajpdghamecoaaText2
namespace Go.Proofs.Ytjajpdghamecoaa
open Go.RowKit

/-- where a pair ends -/
def endF : Bool → List UInt8 → Nat
  | _, [] => 0
  | b, c :: l => if c = 44 ∧ b = false then 0 else 1 + endF ((c == 92) && !b) l
/-- a value without its backslashes -/
def unescF : Bool → List UInt8 → List UInt8
  | _, [] => []
  | b, c :: l => if ((c == 92) && !b) = true then unescF true l else c :: unescF false l
theorem endF_le (b : Bool) (l : List UInt8) : endF b l ≤ l.length := by
  induction l generalizing b with
  | nil => simp [endF]
  | cons c l ih =>
    unfold endF
    split
    · simp
    · have := ih ((c == 92) && !b)
      rw [List.length_cons]; omega
def toS (l : List UInt8) : ByteArray := ⟨l.toArray⟩
theorem toS_list (l : List UInt8) : (toS l).data.toList = l := by simp [toS]
theorem toS_self (s : ByteArray) : toS s.data.toList = s := by simp [toS]
/-- a pair out of its text -/
def rdn1 (l : List UInt8) : ByteArray × ByteArray := (toS (l.takeWhile (· != 61)), toS (unescF false ((l.dropWhile (· != 61)).drop 1)))
def scanN : Nat → List UInt8 → RdnL
  | 0, _ => []
  | _ + 1, [] => []
  | n + 1, c :: l => rdn1 ((c :: l).take (endF false (c :: l))) :: scanN n ((c :: l).drop (endF false (c :: l) + 1))
def scanL (l : List UInt8) : RdnL := scanN l.length l
theorem scanN_more (n m : Nat) (l : List UInt8) (hn : l.length ≤ n) (hm : l.length ≤ m) : scanN n l = scanN m l := by
  induction n generalizing m l with
  | zero =>
    have : l = [] := List.eq_nil_of_length_eq_zero (by omega)
    subst this
    cases m <;> rfl
  | succ n ih =>
    cases l with
    | nil => cases m <;> rfl
    | cons c l =>
      cases m with
      | zero => simp at hm
      | succ m =>
        unfold scanN
        rw [ih m _ (by rw [List.length_drop, List.length_cons] at *; omega) (by rw [List.length_drop, List.length_cons] at *; omega)]
theorem scanL_nil : scanL [] = [] := rfl
theorem scanL_cons {l : List UInt8} (h : l ≠ []) : scanL l = rdn1 (l.take (endF false l)) :: scanL (l.drop (endF false l + 1)) := by
  cases l with
  | nil => exact absurd rfl h
  | cons c l =>
    show scanN (l.length + 1) (c :: l) = _
    unfold scanN scanL
    rw [scanN_more l.length _ _ (by rw [List.length_drop, List.length_cons]; omega) (Nat.le_refl _)]
theorem scanL_len (l : List UInt8) : (scanL l).length ≤ l.length := by
  have : ∀ n (l : List UInt8), (scanN n l).length ≤ n := by
    intro n
    induction n with
    | zero => intro l; simp [scanN]
    | succ n ih =>
      intro l
      cases l with
      | nil => simp [scanN]
      | cons c l => simp only [scanN, List.length_cons]; have := ih ((c :: l).drop (endF false (c :: l) + 1)); omega
  exact this _ _

/-- the parts of a text -/
def cutF : List UInt8 → List UInt8 → List (List UInt8)
  | b, [] => [b]
  | b, [c] => if c = 44 then [b, []] else [b ++ [c]]
  | b, c :: d :: l => if c = 92 then cutF (b ++ [c, d]) l else if c = 44 then b :: cutF [] (d :: l) else cutF (b ++ [c]) (d :: l)
theorem cutF_nil (b : List UInt8) : cutF b [] = [b] := by rw [cutF]
theorem cutF_one (b : List UInt8) (c : UInt8) : cutF b [c] = if c = 44 then [b, []] else [b ++ [c]] := by rw [cutF]
theorem cutF_two (b : List UInt8) (c d : UInt8) (l : List UInt8) : cutF b (c :: d :: l) = if c = 92 then cutF (b ++ [c, d]) l else if c = 44 then b :: cutF [] (d :: l) else cutF (b ++ [c]) (d :: l) := by rw [cutF]
def unesc2 : List UInt8 → List UInt8
  | [] => []
  | [c] => [c]
  | c :: d :: l => if c = 92 then d :: unesc2 l else c :: unesc2 (d :: l)
def rdn2 (l : List UInt8) : ByteArray × ByteArray := if 61 ∈ l then (toS (l.takeWhile (· != 61)), toS (unesc2 ((l.dropWhile (· != 61)).drop 1))) else (toS [], toS [])

/-- bytes, each with a backslash or not -/
def encI (x : List (Bool × UInt8)) : List UInt8 := x.flatMap fun p => if p.1 = true then [92, p.2] else [p.2]
def OkI (x : List (Bool × UInt8)) : Prop := ∀ p ∈ x, p.1 = false → p.2 ≠ 92 ∧ p.2 ≠ 44
theorem encI_cons (p : Bool × UInt8) (x : List (Bool × UInt8)) : encI (p :: x) = (if p.1 = true then [92, p.2] else [p.2]) ++ encI x := by unfold encI; simp
theorem encI_append (x y : List (Bool × UInt8)) : encI (x ++ y) = encI x ++ encI y := by unfold encI; simp
theorem OkI.tail {p : Bool × UInt8} {x : List (Bool × UInt8)} (h : OkI (p :: x)) : OkI x := fun q hq => h q (List.mem_cons_of_mem _ hq)
theorem endF_enc (x : List (Bool × UInt8)) (h : OkI x) (t : List UInt8) : endF false (encI x ++ t) = (encI x).length + endF false t := by
  induction x with
  | nil => simp [encI]
  | cons p x ih =>
    obtain ⟨b, c⟩ := p
    have ih := ih h.tail
    rw [encI_cons]
    cases b
    · have hp := h (false, c) (List.mem_cons_self ..) rfl
      simp only [Bool.false_eq_true, if_false, List.cons_append, List.nil_append, List.append_assoc]
      have e1 : endF false (c :: (encI x ++ t)) = 1 + endF ((c == 92) && !false) (encI x ++ t) := by rw [endF, if_neg (fun hh => hp.2 hh.1)]
      have : ((c == 92) && !false) = false := by simp [hp.1]
      rw [e1, this, ih, List.length_cons]; omega
    · simp only [if_true, List.cons_append, List.nil_append, List.append_assoc]
      have e1 : endF false (92 :: c :: (encI x ++ t)) = 1 + endF true (c :: (encI x ++ t)) := by
        rw [endF, if_neg (by simp)]; rfl
      have e2 : endF true (c :: (encI x ++ t)) = 1 + endF false (encI x ++ t) := by
        rw [endF, if_neg (by simp)]; simp
      rw [e1, e2, ih, List.length_cons, List.length_cons]; omega
theorem unescF_enc (x : List (Bool × UInt8)) (h : OkI x) (t : List UInt8) : unescF false (encI x ++ t) = x.map (·.2) ++ unescF false t := by
  induction x with
  | nil => simp [encI]
  | cons p x ih =>
    obtain ⟨b, c⟩ := p
    have ih := ih h.tail
    rw [encI_cons]
    cases b
    · have hp := h (false, c) (List.mem_cons_self ..) rfl
      simp only [Bool.false_eq_true, if_false, List.cons_append, List.nil_append, List.append_assoc, List.map_cons]
      rw [unescF, if_neg (by simp [hp.1]), ih]
    · simp only [if_true, List.cons_append, List.nil_append, List.append_assoc, List.map_cons]
      rw [unescF, if_pos (by simp), unescF, if_neg (by simp), ih]
theorem unesc2_enc (x : List (Bool × UInt8)) (h : OkI x) : unesc2 (encI x) = x.map (·.2) := by
  induction x with
  | nil => simp [encI, unesc2]
  | cons p x ih =>
    obtain ⟨b, c⟩ := p
    have ih := ih h.tail
    rw [encI_cons]
    cases b
    · have hp := h (false, c) (List.mem_cons_self ..) rfl
      simp only [Bool.false_eq_true, if_false, List.cons_append, List.nil_append, List.map_cons]
      rcases he : encI x with _ | ⟨d, l⟩
      · rw [he] at ih; simp only [unesc2] at ih ⊢; rw [← ih]
      · rw [unesc2, if_neg hp.1, ← he, ih]
    · simp only [if_true, List.cons_append, List.nil_append, List.map_cons]
      rw [unesc2, if_pos rfl, ih]
theorem cutF_enc (x : List (Bool × UInt8)) (h : OkI x) (b t : List UInt8) : cutF b (encI x ++ t) = cutF (b ++ encI x) t := by
  induction x generalizing b with
  | nil => simp [encI]
  | cons p x ih =>
    obtain ⟨q, c⟩ := p
    have ih := ih h.tail
    rw [encI_cons]
    cases q
    · have hp := h (false, c) (List.mem_cons_self ..) rfl
      simp only [Bool.false_eq_true, if_false, List.cons_append, List.nil_append, List.append_assoc]
      have e : cutF b (c :: (encI x ++ t)) = cutF (b ++ [c]) (encI x ++ t) := by
        rcases he : encI x ++ t with _ | ⟨d, l⟩
        · rw [cutF_one, if_neg hp.2, cutF_nil]
        · rw [cutF_two, if_neg hp.1, if_neg hp.2]
      rw [e, ih]; simp
    · simp only [if_true, List.cons_append, List.nil_append, List.append_assoc]
      rw [cutF_two, if_pos rfl, ih]; simp

/-- the bytes of a value, with its backslashes -/
def valI (l : List UInt8) : List (Bool × UInt8) := (List.range l.length).map fun i => (oddI ((l.getD i 0).toNat : Int) i l.length, l.getD i 0)
theorem valI_enc (l : List UInt8) : encI (valI l) = escL l := by
  unfold encI valI escL escTo
  rw [List.flatMap_map]
theorem valI_snd (l : List UInt8) : (valI l).map (·.2) = l := by
  unfold valI
  rw [List.map_map]
  apply List.ext_getElem?
  intro i
  rw [List.getElem?_map]
  rcases Nat.lt_or_ge i l.length with h | h
  · rw [List.getElem?_range h, List.getElem?_eq_getElem h]; simp [h]
  · rw [List.getElem?_eq_none (by simpa using h), List.getElem?_eq_none h]; rfl
theorem odd_no {c : UInt8} {i n : Nat} (h : oddI (c.toNat : Int) i n = false) : c ≠ 92 ∧ c ≠ 44 := by
  unfold oddI at h
  simp only [Bool.or_eq_false_iff] at h
  obtain ⟨⟨⟨⟨⟨⟨⟨⟨⟨h44, h43⟩, h34⟩, h92⟩, h60⟩, h62⟩, h59⟩, h61⟩, h35⟩, h32⟩ := h
  constructor
  · intro e; subst e; revert h92; decide
  · intro e; subst e; revert h44; decide
theorem valI_ok (l : List UInt8) : OkI (valI l) := by
  intro p hp h
  unfold valI at hp
  obtain ⟨i, _, rfl⟩ := List.mem_map.1 hp
  exact odd_no h
/-- the bytes of a pair -/
def rdnI (r : ByteArray × ByteArray) : List (Bool × UInt8) := (r.1.data.toList ++ [61]).map (fun c => (false, c)) ++ valI r.2.data.toList
theorem encI_plain (l : List UInt8) : encI (l.map (fun c => (false, c))) = l := by
  induction l with
  | nil => rfl
  | cons c l ih => rw [List.map_cons, encI_cons, ih]; rfl
theorem rdnI_enc (r : ByteArray × ByteArray) : encI (rdnI r) = (rdnS r).data.toList := by
  unfold rdnI rdnS
  rw [encI_append, encI_plain, valI_enc]
  simp [escS]
theorem name_bytes {s : ByteArray} (h : nmL s = true) : ∀ c ∈ s.data.toList, c ≠ 92 ∧ c ≠ 44 ∧ c ≠ 61 := by
  have h1 : allB s.data.toList = true := by unfold nmL at h; simp at h; exact h.2
  unfold allB at h1
  rw [List.all_eq_true] at h1
  intro c hc
  have := h1 c hc
  refine ⟨?_, ?_, ?_⟩ <;> (intro e; subst e; revert this; decide)
theorem rdnI_ok {r : ByteArray × ByteArray} (h : rdnB r = true) : OkI (rdnI r) := by
  unfold rdnB at h
  simp only [Bool.and_eq_true] at h
  intro p hp hf
  unfold rdnI at hp
  rw [List.mem_append] at hp
  rcases hp with hp | hp
  · obtain ⟨c, hc, rfl⟩ := List.mem_map.1 hp
    rw [List.mem_append] at hc
    rcases hc with hc | hc
    · have := name_bytes h.1 c hc; exact ⟨this.1, this.2.1⟩
    · simp at hc; subst hc; decide
  · exact valI_ok _ p hp hf
theorem takeWhile_name {l t : List UInt8} (h : ∀ c ∈ l, c ≠ 61) : (l ++ 61 :: t).takeWhile (· != 61) = l ∧ (l ++ 61 :: t).dropWhile (· != 61) = 61 :: t := by
  induction l with
  | nil => simp
  | cons c l ih =>
    have hc := h c (List.mem_cons_self ..)
    have ih := ih (fun x hx => h x (List.mem_cons_of_mem _ hx))
    have hb : (c != 61) = true := by simpa using hc
    rw [List.cons_append, List.takeWhile_cons, List.dropWhile_cons, hb]
    exact ⟨by rw [if_pos rfl, ih.1], by rw [if_pos rfl, ih.2]⟩
theorem rdn_list (r : ByteArray × ByteArray) : (rdnS r).data.toList = r.1.data.toList ++ 61 :: escL r.2.data.toList := by unfold rdnS; simp [escS]
theorem rdn1_text {r : ByteArray × ByteArray} (h : rdnB r = true) : rdn1 (rdnS r).data.toList = r := by
  have hn : nmL r.1 = true := by unfold rdnB at h; simp only [Bool.and_eq_true] at h; exact h.1
  obtain ⟨h1, h2⟩ := takeWhile_name (l := r.1.data.toList) (t := escL r.2.data.toList) (fun c hc => (name_bytes hn c hc).2.2)
  unfold rdn1
  rw [rdn_list, h1, h2, List.drop_succ_cons, List.drop_zero, ← valI_enc]
  have := unescF_enc (valI r.2.data.toList) (valI_ok _) []
  rw [List.append_nil, valI_snd] at this
  rw [this]
  simp [unescF, toS_self]
theorem rdn2_text {r : ByteArray × ByteArray} (h : rdnB r = true) : rdn2 (rdnS r).data.toList = r := by
  have hn : nmL r.1 = true := by unfold rdnB at h; simp only [Bool.and_eq_true] at h; exact h.1
  obtain ⟨h1, h2⟩ := takeWhile_name (l := r.1.data.toList) (t := escL r.2.data.toList) (fun c hc => (name_bytes hn c hc).2.2)
  unfold rdn2
  rw [rdn_list, if_pos (by simp), h1, h2, List.drop_succ_cons, List.drop_zero, ← valI_enc, unesc2_enc _ (valI_ok _), valI_snd, toS_self, toS_self]
theorem text_cons (r : ByteArray × ByteArray) (d : RdnL) : textL (r :: d) = (rdnS r).data.toList ++ (if d = [] then [] else 44 :: textL d) := by
  unfold textL
  rw [List.map_cons, Lib.join_cons]
  cases d with
  | nil => simp [Lib.joinTail]
  | cons s d => rw [if_neg (by simp), List.map_cons, Lib.join_cons]; simp [Lib.joinTail]
theorem rdn_ne (r : ByteArray × ByteArray) : (rdnS r).data.toList ≠ [] := by rw [rdn_list]; simp
/-- a name is got back from its text -/
theorem scan_text (d : RdnL) (h : d.all rdnB = true) : scanL (textL d) = d := by
  induction d with
  | nil => rfl
  | cons r d ih =>
    rw [List.all_cons, Bool.and_eq_true] at h
    have ih := ih h.2
    have hne : textL (r :: d) ≠ [] := by rw [text_cons]; intro e; exact rdn_ne r (List.append_eq_nil_iff.1 e).1
    have he : endF false (textL (r :: d)) = (rdnS r).data.toList.length := by
      rw [text_cons, ← rdnI_enc, endF_enc _ (rdnI_ok h.1)]
      split
      · simp [endF]
      · simp [endF]
    rw [scanL_cons hne, he, text_cons, List.take_left, rdn1_text h.1]
    by_cases hd : d = []
    · subst hd
      rw [if_pos rfl, List.append_nil, List.drop_eq_nil_of_le (by omega), scanL_nil]
    · rw [if_neg hd, List.drop_append, List.drop_eq_nil_of_le (by omega), List.nil_append, show (rdnS r).data.toList.length + 1 - (rdnS r).data.toList.length = 1 by omega, List.drop_succ_cons, List.drop_zero, ih]
theorem cut_text (d : RdnL) (h : d.all rdnB = true) (hne : d ≠ []) : (cutF [] (textL d)).map rdn2 = d := by
  induction d with
  | nil => exact absurd rfl hne
  | cons r d ih =>
    rw [List.all_cons, Bool.and_eq_true] at h
    rw [text_cons, ← rdnI_enc, cutF_enc _ (rdnI_ok h.1), List.nil_append]
    by_cases hd : d = []
    · subst hd
      rw [if_pos rfl, cutF_nil, List.map_singleton, rdnI_enc, rdn2_text h.1]
    · rw [if_neg hd]
      have ih := ih h.2 hd
      have e : cutF (encI (rdnI r)) (44 :: textL d) = encI (rdnI r) :: cutF [] (textL d) := by
        rcases ht : textL d with _ | ⟨c, l⟩
        · rw [cutF_one, if_pos rfl, cutF_nil]
        · rw [cutF_two, if_neg (by decide), if_pos rfl]
      rw [e, List.map_cons, ih, rdnI_enc, rdn2_text h.1]
end Go.Proofs.Ytjajpdghamecoaa
