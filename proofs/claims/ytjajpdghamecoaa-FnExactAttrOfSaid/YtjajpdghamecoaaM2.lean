/- Merged texts: Text2, ScanMath, Scan, Key, KeyMath, Key2, Key3, Under, Join, JoinR. -/
import Derived.Test.YtjajpdghamecoaaM1
import Derived.Deep.QuietTactic
import Derived.BigQuiet
import Derived.Deep.RegionWith
import Derived.BigRegion
import Derived.Laws.StructEq
import Derived.Lib.BufferWrite
import Derived.Deep.OwnRows
/- DnText: what the specification's text returns. -/
namespace Go.Proofs.Ytjajpdghamecoaa
open Go.RowKit
attribute [local go_sem ↓] Go.wp_at_zero Go.wp_at_succ

/-- the text of the first k pairs -/
def textTo (d : RdnL) (k : Nat) : ByteArray := textS (d.take k)
theorem join_snoc (l : List (List UInt8)) (x sep : List UInt8) (h : l ≠ []) : Lib.join (l ++ [x]) sep = Lib.join l sep ++ sep ++ x := by
  rcases l with _ | ⟨y, l⟩
  · exact absurd rfl h
  · rw [List.cons_append, Lib.join_cons, Lib.join_cons]
    simp [Lib.joinTail, List.append_assoc]
theorem textTo_one (d : RdnL) (h : 0 < d.length) : textTo d 1 = rdnS d[0] := by
  unfold textTo textS textL
  rw [List.take_succ_eq_append_getElem h, List.take_zero, List.nil_append, List.map_singleton, Lib.join_one]
theorem textTo_succ (d : RdnL) (k : Nat) (h : k < d.length) (h0 : 0 < k) : textTo d (k + 1) = textTo d k ++ ⟨#[44]⟩ ++ rdnS d[k] := by
  unfold textTo textS textL
  rw [List.take_succ_eq_append_getElem h, List.map_append, List.map_singleton, join_snoc _ _ _ (by
    intro e
    have := congrArg List.length e
    rw [List.length_map, List.length_take, List.length_nil] at this; omega)]
  apply ByteArray.ext
  simp
theorem textTo_size (d : RdnL) (k : Nat) (h : Fits d) (h6 : d.length ≤ 6) : (textTo d k).size ≤ 30000000 := by
  have h1 := text_len (d.take k) ⟨by have := h.1; simp; omega, fun r hr => h.2 r (List.mem_of_mem_take hr)⟩
  have h2 : (d.take k).length ≤ 6 := by rw [List.length_take]; omega
  have h3 : (textTo d k).size = (textL (d.take k)).length := rfl
  rw [h3]
  omega
theorem cat_assoc (a b c : ByteArray) : a ++ b ++ c = a ++ (b ++ c) := by apply ByteArray.ext; simp

set_option maxRecDepth 100000 in
set_option maxHeartbeats 1000000 in
theorem l02Text_any (ao : Option Addr) (d : RdnL) (cap : Nat) (w : World) (hd : DnAt w ao d) (hf : Fits d) (h6 : d.length ≤ 6) :
    Calls Try.prog 48 #[.slice ao d.length cap] w fun e w' => e = .returned (.string (textS d)) ∧ Below w.heap.size w w' := by
  have HD := Lib.hid hd; have HF := Lib.hid hf; clear hd hf
  go_enter Try.func48, Try.ntmps48
  go_wp2
  go_loopw [3, 4] (fun t i wr => ∃ k : Nat, k ≤ d.length ∧ i = .int .i64 k ∧ t = .string (textTo d k) ∧ Below w.heap.size w wr) (fun _ i _ => d.length - (intOf i).toNat)
  case atStart => exact ⟨0, Nat.zero_le _, rfl, rfl, Below.refl _ _⟩
  case round =>
    obtain ⟨k, hk, rfl, rfl, hbel⟩ := hrel
    have hsz := hbel.size
    by_cases hlt : k < d.length
    · obtain ⟨b, off, rfl, hb0, hd1, hd2⟩ := HD.out.at hlt
      have hb : b < wr.heap.size := Nat.lt_of_lt_of_le hb0 hsz
      have hc1 := (hbel.cell (p := ⟨b, off + k * 2, none⟩) hb0).trans hd1
      have hc2 := (hbel.cell (p := ⟨b, off + k * 2 + 1, none⟩) hb0).trans hd2
      clear hd1 hd2
      have hz := HF.out.small hlt
      have hts := textTo_size d k HF.out h6
      have g1 : (0 : Int) ≤ (k : Int) := by omega
      have g2 : (k : Int) < (d.length : Int) := by omega
      have HE : Hid (rdnS d[k] = d[k].1 ++ ⟨#[61]⟩ ++ escS d[k].2) := Lib.hid rfl
      by_cases h0 : k = 0
      · subst h0
        have HN := Lib.hid (textTo_one d hlt)
        rw [show off + 0 * 2 = off by omega] at hc1 hc2
        have e0 : textTo d 0 = ByteArray.empty := rfl
        generalize textTo d 0 = T at *
        have E0 := Lib.hid e0
        clear e0
        generalize d[0].1 = A at *
        generalize d[0].2 = V at *
        have hes := escS_size V
        have ha0 := cat T A (by omega)
        have ha1 := cat (T ++ A) ⟨#[61]⟩ (by rw [ByteArray.size_append, sz1]; omega)
        have ha2 := cat (T ++ A ++ ⟨#[61]⟩) (escS V) (by rw [ByteArray.size_append, ByteArray.size_append, sz1]; omega)
        clear hes
        go_wp2_with fail
        go_region_held3 (fun w' => w'.cell? ⟨b, off, none⟩ = some (.string A) ∧ w'.cell? ⟨b, off + 1, none⟩ = some (.string V))
          (first | go_keep | exact ⟨(hb2.cell (p := ⟨b, off, none⟩) hb).trans hc1, (hb2.cell (p := ⟨b, off + 1, none⟩) hb).trans hc2⟩)
          (first | (go_at_call 90; refine (l02Escape_any _ _ hz.2).mono ?_; rintro e w2 ⟨rfl, hb2⟩))
        go_wp2
        go_roundw
        case rel => exact ⟨1, by omega, by go_num, by rw [HN.out, HE.out, E0.out]; simp, hbel.drew.trans (hb2.mono hsz)⟩
        case measure => simp [intOf]; omega
      · have HN := Lib.hid (textTo_succ d k hlt (by omega))
        have h0' : 0 < k := by omega
        generalize textTo d k = T at *
        generalize d[k].1 = A at *
        generalize d[k].2 = V at *
        have hes := escS_size V
        have ha := cat T ⟨#[44]⟩ (by rw [sz1]; omega)
        have ha0 := cat (T ++ ⟨#[44]⟩) A (by rw [ByteArray.size_append, sz1]; omega)
        have ha1 := cat (T ++ ⟨#[44]⟩ ++ A) ⟨#[61]⟩ (by rw [ByteArray.size_append, ByteArray.size_append, sz1, sz1]; omega)
        have ha2 := cat (T ++ ⟨#[44]⟩ ++ A ++ ⟨#[61]⟩) (escS V) (by rw [ByteArray.size_append, ByteArray.size_append, ByteArray.size_append, sz1, sz1]; omega)
        clear hes h0
        go_wp2_with fail
        go_region_held3 (fun w' => w'.cell? ⟨b, off + k * 2, none⟩ = some (.string A) ∧ w'.cell? ⟨b, off + k * 2 + 1, none⟩ = some (.string V))
          (first | go_keep | exact ⟨(hb2.cell (p := ⟨b, off + k * 2, none⟩) hb).trans hc1, (hb2.cell (p := ⟨b, off + k * 2 + 1, none⟩) hb).trans hc2⟩)
          (first | (go_at_call 90; refine (l02Escape_any _ _ hz.2).mono ?_; rintro e w2 ⟨rfl, hb2⟩))
        go_wp2
        go_roundw
        case rel => exact ⟨k + 1, by omega, by go_num, by rw [HN.out, HE.out]; simp only [cat_assoc], hbel.drew.trans (hb2.mono hsz)⟩
        case measure => simp [intOf]; omega
    · have HE : Hid (textTo d k = textS d) := Lib.hid (by unfold textTo; rw [List.take_of_length_le (by omega)])
      go_wp2
      go_ret
      exact ⟨ret_str HE.out, hbel⟩
def dnTextS (d : RdnL) : ByteArray := if dnB d = true then textS d else ByteArray.empty
theorem dnText_yes {d : RdnL} (h : dnB d = true) : dnTextS d = textS d := by unfold dnTextS; rw [if_pos h]
theorem dnText_no {d : RdnL} (h : dnB d = false) : dnTextS d = ByteArray.empty := by unfold dnTextS; rw [h]; rfl
theorem dnB_six {d : RdnL} (h : dnB d = true) : d.length ≤ 6 := by unfold dnB at h; simp at h; exact h.1
set_option maxHeartbeats 400000 in
theorem DnText_any (ao : Option Addr) (d : RdnL) (cap : Nat) (w : World) (hd : DnAt w ao d) (hf : Fits d) :
    Calls Try.prog 11 #[.slice ao d.length cap] w fun e w' => e = .returned (.string (dnTextS d)) ∧ Below w.heap.size w w' := by
  cases hr : dnB d
  · have HE := Lib.hid (dnText_no hr)
    go_enter Try.func11, Try.ntmps11
    go_wp2_with (first | (go_at_call 13; refine (DnRight_any _ _ _ _ hd hf).mono ?_; rintro e w1 ⟨rfl, hb1⟩; rw [hr]))
    go_ret
    exact ⟨ret_str HE.out.symm, hb1⟩
  · rw [dnText_yes hr]
    exact DnText_in ao d cap w hd hf hr
set_option maxHeartbeats 400000 in
theorem SpecDnText_any (ao : Option Addr) (d : RdnL) (cap : Nat) (w : World) (hd : DnAt w ao d) (hf : Fits d) :
    Calls Try.prog 12 #[.slice ao d.length cap] w fun e w' => e = .returned (.string (dnTextS d)) ∧ Below w.heap.size w w' := by
  have hl := hf.1
  cases hr : dnB d
  · have HE := Lib.hid (dnText_no hr)
    by_cases h4 : 400 < d.length
    · go_enter Try.func12, Try.ntmps12
      go_wp2
      go_ret
      exact ⟨ret_str HE.out.symm, Below.refl _ _⟩
    · go_enter Try.func12, Try.ntmps12
      go_wp2_with (first | (go_at_call 14; refine (SpecDnRight_any _ _ _ _ hd hf).mono ?_; rintro e w1 ⟨rfl, hb1⟩; rw [hr]))
      go_ret
      exact ⟨ret_str HE.out.symm, hb1⟩
  · have HE := Lib.hid (dnText_yes hr)
    have h6 := dnB_six hr
    go_enter Try.func12, Try.ntmps12
    go_wp2_with (first | (go_at_call 14; refine (SpecDnRight_any _ _ _ _ hd hf).mono ?_; rintro e w1 ⟨rfl, hb1⟩; rw [hr]) | (go_at_call 48; refine (l02Text_any _ _ _ _ (hd.below hb1) hf h6).mono ?_; rintro e w2 ⟨rfl, hb2⟩))
    go_ret
    exact ⟨ret_str HE.out.symm, hb1.trans (hb2.mono hb1.size)⟩
end Go.Proofs.Ytjajpdghamecoaa
/- Reading names: the plain mathematics. -/
namespace Go.Proofs.Ytjajpdghamecoaa
open Go.RowKit

/-- where a pair ends -/
def endF : Bool → List UInt8 → Nat
  | _, [] => 0
  | b, c :: l => if c = 44 ∧ b = false then 0 else 1 + endF ((c == 92) && !b) l
/-- a value without its backslashes -/
def unescF : Bool → List UInt8 → List UInt8
  | _, [] => []
  | b, c :: l => if ((c == 92) && !b) = true then unescF true l else c :: unescF false l
theorem endF_le (b : Bool) (l : List UInt8) : endF b l ≤ l.length := by
  induction l generalizing b with
  | nil => simp [endF]
  | cons c l ih =>
    unfold endF
    split
    · simp
    · have := ih ((c == 92) && !b)
      rw [List.length_cons]; omega
def toS (l : List UInt8) : ByteArray := ⟨l.toArray⟩
theorem toS_list (l : List UInt8) : (toS l).data.toList = l := by simp [toS]
theorem toS_self (s : ByteArray) : toS s.data.toList = s := by simp [toS]
/-- a pair out of its text -/
def rdn1 (l : List UInt8) : ByteArray × ByteArray := (toS (l.takeWhile (· != 61)), toS (unescF false ((l.dropWhile (· != 61)).drop 1)))
def scanN : Nat → List UInt8 → RdnL
  | 0, _ => []
  | _ + 1, [] => []
  | n + 1, c :: l => rdn1 ((c :: l).take (endF false (c :: l))) :: scanN n ((c :: l).drop (endF false (c :: l) + 1))
def scanL (l : List UInt8) : RdnL := scanN l.length l
theorem scanN_more (n m : Nat) (l : List UInt8) (hn : l.length ≤ n) (hm : l.length ≤ m) : scanN n l = scanN m l := by
  induction n generalizing m l with
  | zero =>
    have : l = [] := List.eq_nil_of_length_eq_zero (by omega)
    subst this
    cases m <;> rfl
  | succ n ih =>
    cases l with
    | nil => cases m <;> rfl
    | cons c l =>
      cases m with
      | zero => simp at hm
      | succ m =>
        unfold scanN
        rw [ih m _ (by rw [List.length_drop, List.length_cons] at *; omega) (by rw [List.length_drop, List.length_cons] at *; omega)]
theorem scanL_nil : scanL [] = [] := rfl
theorem scanL_cons {l : List UInt8} (h : l ≠ []) : scanL l = rdn1 (l.take (endF false l)) :: scanL (l.drop (endF false l + 1)) := by
  cases l with
  | nil => exact absurd rfl h
  | cons c l =>
    show scanN (l.length + 1) (c :: l) = _
    unfold scanN scanL
    rw [scanN_more l.length _ _ (by rw [List.length_drop, List.length_cons]; omega) (Nat.le_refl _)]
theorem scanL_len (l : List UInt8) : (scanL l).length ≤ l.length := by
  have : ∀ n (l : List UInt8), (scanN n l).length ≤ n := by
    intro n
    induction n with
    | zero => intro l; simp [scanN]
    | succ n ih =>
      intro l
      cases l with
      | nil => simp [scanN]
      | cons c l => simp only [scanN, List.length_cons]; have := ih ((c :: l).drop (endF false (c :: l) + 1)); omega
  exact this _ _

/-- the parts of a text -/
def cutF : List UInt8 → List UInt8 → List (List UInt8)
  | b, [] => [b]
  | b, [c] => if c = 44 then [b, []] else [b ++ [c]]
  | b, c :: d :: l => if c = 92 then cutF (b ++ [c, d]) l else if c = 44 then b :: cutF [] (d :: l) else cutF (b ++ [c]) (d :: l)
theorem cutF_nil (b : List UInt8) : cutF b [] = [b] := by rw [cutF]
theorem cutF_one (b : List UInt8) (c : UInt8) : cutF b [c] = if c = 44 then [b, []] else [b ++ [c]] := by rw [cutF]
theorem cutF_two (b : List UInt8) (c d : UInt8) (l : List UInt8) : cutF b (c :: d :: l) = if c = 92 then cutF (b ++ [c, d]) l else if c = 44 then b :: cutF [] (d :: l) else cutF (b ++ [c]) (d :: l) := by rw [cutF]
def unesc2 : List UInt8 → List UInt8
  | [] => []
  | [c] => [c]
  | c :: d :: l => if c = 92 then d :: unesc2 l else c :: unesc2 (d :: l)
def rdn2 (l : List UInt8) : ByteArray × ByteArray := if 61 ∈ l then (toS (l.takeWhile (· != 61)), toS (unesc2 ((l.dropWhile (· != 61)).drop 1))) else (toS [], toS [])

/-- bytes, each with a backslash or not -/
def encI (x : List (Bool × UInt8)) : List UInt8 := x.flatMap fun p => if p.1 = true then [92, p.2] else [p.2]
def OkI (x : List (Bool × UInt8)) : Prop := ∀ p ∈ x, p.1 = false → p.2 ≠ 92 ∧ p.2 ≠ 44
theorem encI_cons (p : Bool × UInt8) (x : List (Bool × UInt8)) : encI (p :: x) = (if p.1 = true then [92, p.2] else [p.2]) ++ encI x := by unfold encI; simp
theorem encI_append (x y : List (Bool × UInt8)) : encI (x ++ y) = encI x ++ encI y := by unfold encI; simp
theorem OkI.tail {p : Bool × UInt8} {x : List (Bool × UInt8)} (h : OkI (p :: x)) : OkI x := fun q hq => h q (List.mem_cons_of_mem _ hq)
theorem endF_enc (x : List (Bool × UInt8)) (h : OkI x) (t : List UInt8) : endF false (encI x ++ t) = (encI x).length + endF false t := by
  induction x with
  | nil => simp [encI]
  | cons p x ih =>
    obtain ⟨b, c⟩ := p
    have ih := ih h.tail
    rw [encI_cons]
    cases b
    · have hp := h (false, c) (List.mem_cons_self ..) rfl
      simp only [Bool.false_eq_true, if_false, List.cons_append, List.nil_append, List.append_assoc]
      have e1 : endF false (c :: (encI x ++ t)) = 1 + endF ((c == 92) && !false) (encI x ++ t) := by rw [endF, if_neg (fun hh => hp.2 hh.1)]
      have : ((c == 92) && !false) = false := by simp [hp.1]
      rw [e1, this, ih, List.length_cons]; omega
    · simp only [if_true, List.cons_append, List.nil_append, List.append_assoc]
      have e1 : endF false (92 :: c :: (encI x ++ t)) = 1 + endF true (c :: (encI x ++ t)) := by
        rw [endF, if_neg (by simp)]; rfl
      have e2 : endF true (c :: (encI x ++ t)) = 1 + endF false (encI x ++ t) := by
        rw [endF, if_neg (by simp)]; simp
      rw [e1, e2, ih, List.length_cons, List.length_cons]; omega
theorem unescF_enc (x : List (Bool × UInt8)) (h : OkI x) (t : List UInt8) : unescF false (encI x ++ t) = x.map (·.2) ++ unescF false t := by
  induction x with
  | nil => simp [encI]
  | cons p x ih =>
    obtain ⟨b, c⟩ := p
    have ih := ih h.tail
    rw [encI_cons]
    cases b
    · have hp := h (false, c) (List.mem_cons_self ..) rfl
      simp only [Bool.false_eq_true, if_false, List.cons_append, List.nil_append, List.append_assoc, List.map_cons]
      rw [unescF, if_neg (by simp [hp.1]), ih]
    · simp only [if_true, List.cons_append, List.nil_append, List.append_assoc, List.map_cons]
      rw [unescF, if_pos (by simp), unescF, if_neg (by simp), ih]
theorem unesc2_enc (x : List (Bool × UInt8)) (h : OkI x) : unesc2 (encI x) = x.map (·.2) := by
  induction x with
  | nil => simp [encI, unesc2]
  | cons p x ih =>
    obtain ⟨b, c⟩ := p
    have ih := ih h.tail
    rw [encI_cons]
    cases b
    · have hp := h (false, c) (List.mem_cons_self ..) rfl
      simp only [Bool.false_eq_true, if_false, List.cons_append, List.nil_append, List.map_cons]
      rcases he : encI x with _ | ⟨d, l⟩
      · rw [he] at ih; simp only [unesc2] at ih ⊢; rw [← ih]
      · rw [unesc2, if_neg hp.1, ← he, ih]
    · simp only [if_true, List.cons_append, List.nil_append, List.map_cons]
      rw [unesc2, if_pos rfl, ih]
theorem cutF_enc (x : List (Bool × UInt8)) (h : OkI x) (b t : List UInt8) : cutF b (encI x ++ t) = cutF (b ++ encI x) t := by
  induction x generalizing b with
  | nil => simp [encI]
  | cons p x ih =>
    obtain ⟨q, c⟩ := p
    have ih := ih h.tail
    rw [encI_cons]
    cases q
    · have hp := h (false, c) (List.mem_cons_self ..) rfl
      simp only [Bool.false_eq_true, if_false, List.cons_append, List.nil_append, List.append_assoc]
      have e : cutF b (c :: (encI x ++ t)) = cutF (b ++ [c]) (encI x ++ t) := by
        rcases he : encI x ++ t with _ | ⟨d, l⟩
        · rw [cutF_one, if_neg hp.2, cutF_nil]
        · rw [cutF_two, if_neg hp.1, if_neg hp.2]
      rw [e, ih]; simp
    · simp only [if_true, List.cons_append, List.nil_append, List.append_assoc]
      rw [cutF_two, if_pos rfl, ih]; simp

/-- the bytes of a value, with its backslashes -/
def valI (l : List UInt8) : List (Bool × UInt8) := (List.range l.length).map fun i => (oddI ((l.getD i 0).toNat : Int) i l.length, l.getD i 0)
theorem valI_enc (l : List UInt8) : encI (valI l) = escL l := by
  unfold encI valI escL escTo
  rw [List.flatMap_map]
theorem valI_snd (l : List UInt8) : (valI l).map (·.2) = l := by
  unfold valI
  rw [List.map_map]
  apply List.ext_getElem?
  intro i
  rw [List.getElem?_map]
  rcases Nat.lt_or_ge i l.length with h | h
  · rw [List.getElem?_range h, List.getElem?_eq_getElem h]; simp [h]
  · rw [List.getElem?_eq_none (by simpa using h), List.getElem?_eq_none h]; rfl
theorem odd_no {c : UInt8} {i n : Nat} (h : oddI (c.toNat : Int) i n = false) : c ≠ 92 ∧ c ≠ 44 := by
  unfold oddI at h
  simp only [Bool.or_eq_false_iff] at h
  obtain ⟨⟨⟨⟨⟨⟨⟨⟨⟨h44, h43⟩, h34⟩, h92⟩, h60⟩, h62⟩, h59⟩, h61⟩, h35⟩, h32⟩ := h
  constructor
  · intro e; subst e; revert h92; decide
  · intro e; subst e; revert h44; decide
theorem valI_ok (l : List UInt8) : OkI (valI l) := by
  intro p hp h
  unfold valI at hp
  obtain ⟨i, _, rfl⟩ := List.mem_map.1 hp
  exact odd_no h
/-- the bytes of a pair -/
def rdnI (r : ByteArray × ByteArray) : List (Bool × UInt8) := (r.1.data.toList ++ [61]).map (fun c => (false, c)) ++ valI r.2.data.toList
theorem encI_plain (l : List UInt8) : encI (l.map (fun c => (false, c))) = l := by
  induction l with
  | nil => rfl
  | cons c l ih => rw [List.map_cons, encI_cons, ih]; rfl
theorem rdnI_enc (r : ByteArray × ByteArray) : encI (rdnI r) = (rdnS r).data.toList := by
  unfold rdnI rdnS
  rw [encI_append, encI_plain, valI_enc]
  simp [escS]
theorem name_bytes {s : ByteArray} (h : nmL s = true) : ∀ c ∈ s.data.toList, c ≠ 92 ∧ c ≠ 44 ∧ c ≠ 61 := by
  have h1 : allB s.data.toList = true := by unfold nmL at h; simp at h; exact h.2
  unfold allB at h1
  rw [List.all_eq_true] at h1
  intro c hc
  have := h1 c hc
  refine ⟨?_, ?_, ?_⟩ <;> (intro e; subst e; revert this; decide)
theorem rdnI_ok {r : ByteArray × ByteArray} (h : rdnB r = true) : OkI (rdnI r) := by
  unfold rdnB at h
  simp only [Bool.and_eq_true] at h
  intro p hp hf
  unfold rdnI at hp
  rw [List.mem_append] at hp
  rcases hp with hp | hp
  · obtain ⟨c, hc, rfl⟩ := List.mem_map.1 hp
    rw [List.mem_append] at hc
    rcases hc with hc | hc
    · have := name_bytes h.1 c hc; exact ⟨this.1, this.2.1⟩
    · simp at hc; subst hc; decide
  · exact valI_ok _ p hp hf
theorem takeWhile_name {l t : List UInt8} (h : ∀ c ∈ l, c ≠ 61) : (l ++ 61 :: t).takeWhile (· != 61) = l ∧ (l ++ 61 :: t).dropWhile (· != 61) = 61 :: t := by
  induction l with
  | nil => simp
  | cons c l ih =>
    have hc := h c (List.mem_cons_self ..)
    have ih := ih (fun x hx => h x (List.mem_cons_of_mem _ hx))
    have hb : (c != 61) = true := by simpa using hc
    rw [List.cons_append, List.takeWhile_cons, List.dropWhile_cons, hb]
    exact ⟨by rw [if_pos rfl, ih.1], by rw [if_pos rfl, ih.2]⟩
theorem rdn_list (r : ByteArray × ByteArray) : (rdnS r).data.toList = r.1.data.toList ++ 61 :: escL r.2.data.toList := by unfold rdnS; simp [escS]
theorem rdn1_text {r : ByteArray × ByteArray} (h : rdnB r = true) : rdn1 (rdnS r).data.toList = r := by
  have hn : nmL r.1 = true := by unfold rdnB at h; simp only [Bool.and_eq_true] at h; exact h.1
  obtain ⟨h1, h2⟩ := takeWhile_name (l := r.1.data.toList) (t := escL r.2.data.toList) (fun c hc => (name_bytes hn c hc).2.2)
  unfold rdn1
  rw [rdn_list, h1, h2, List.drop_succ_cons, List.drop_zero, ← valI_enc]
  have := unescF_enc (valI r.2.data.toList) (valI_ok _) []
  rw [List.append_nil, valI_snd] at this
  rw [this]
  simp [unescF, toS_self]
theorem rdn2_text {r : ByteArray × ByteArray} (h : rdnB r = true) : rdn2 (rdnS r).data.toList = r := by
  have hn : nmL r.1 = true := by unfold rdnB at h; simp only [Bool.and_eq_true] at h; exact h.1
  obtain ⟨h1, h2⟩ := takeWhile_name (l := r.1.data.toList) (t := escL r.2.data.toList) (fun c hc => (name_bytes hn c hc).2.2)
  unfold rdn2
  rw [rdn_list, if_pos (by simp), h1, h2, List.drop_succ_cons, List.drop_zero, ← valI_enc, unesc2_enc _ (valI_ok _), valI_snd, toS_self, toS_self]
theorem text_cons (r : ByteArray × ByteArray) (d : RdnL) : textL (r :: d) = (rdnS r).data.toList ++ (if d = [] then [] else 44 :: textL d) := by
  unfold textL
  rw [List.map_cons, Lib.join_cons]
  cases d with
  | nil => simp [Lib.joinTail]
  | cons s d => rw [if_neg (by simp), List.map_cons, Lib.join_cons]; simp [Lib.joinTail]
theorem rdn_ne (r : ByteArray × ByteArray) : (rdnS r).data.toList ≠ [] := by rw [rdn_list]; simp
/-- a name is got back from its text -/
theorem scan_text (d : RdnL) (h : d.all rdnB = true) : scanL (textL d) = d := by
  induction d with
  | nil => rfl
  | cons r d ih =>
    rw [List.all_cons, Bool.and_eq_true] at h
    have ih := ih h.2
    have hne : textL (r :: d) ≠ [] := by rw [text_cons]; intro e; exact rdn_ne r (List.append_eq_nil_iff.1 e).1
    have he : endF false (textL (r :: d)) = (rdnS r).data.toList.length := by
      rw [text_cons, ← rdnI_enc, endF_enc _ (rdnI_ok h.1)]
      split
      · simp [endF]
      · simp [endF]
    rw [scanL_cons hne, he, text_cons, List.take_left, rdn1_text h.1]
    by_cases hd : d = []
    · subst hd
      rw [if_pos rfl, List.append_nil, List.drop_eq_nil_of_le (by omega), scanL_nil]
    · rw [if_neg hd, List.drop_append, List.drop_eq_nil_of_le (by omega), List.nil_append, show (rdnS r).data.toList.length + 1 - (rdnS r).data.toList.length = 1 by omega, List.drop_succ_cons, List.drop_zero, ih]
theorem cut_text (d : RdnL) (h : d.all rdnB = true) (hne : d ≠ []) : (cutF [] (textL d)).map rdn2 = d := by
  induction d with
  | nil => exact absurd rfl hne
  | cons r d ih =>
    rw [List.all_cons, Bool.and_eq_true] at h
    rw [text_cons, ← rdnI_enc, cutF_enc _ (rdnI_ok h.1), List.nil_append]
    by_cases hd : d = []
    · subst hd
      rw [if_pos rfl, cutF_nil, List.map_singleton, rdnI_enc, rdn2_text h.1]
    · rw [if_neg hd]
      have ih := ih h.2 hd
      have e : cutF (encI (rdnI r)) (44 :: textL d) = encI (rdnI r) :: cutF [] (textL d) := by
        rcases ht : textL d with _ | ⟨c, l⟩
        · rw [cutF_one, if_pos rfl, cutF_nil]
        · rw [cutF_two, if_neg (by decide), if_pos rfl]
      rw [e, List.map_cons, ih, rdnI_enc, rdn2_text h.1]
end Go.Proofs.Ytjajpdghamecoaa
/- Reading names: what the small functions of the program return. -/
namespace Go.Proofs.Ytjajpdghamecoaa
open Go.RowKit

theorem drop_at (s : ByteArray) (k : Nat) (h : k < s.size) : s.data.toList.drop k = s[k] :: s.data.toList.drop (k + 1) := by
  rw [List.drop_eq_getElem_cons (by simpa using h)]; rfl
theorem ret_num {k : IntKind} {a b : Nat} (h : a = b) : Ending.returned (.int k (a : Int)) = .returned (.int k (b : Int)) := by rw [h]
theorem u8_ne {c : UInt8} {n : Nat} (h : ¬ (c.toNat : Int) = n) : c ≠ UInt8.ofNat n ∨ 256 ≤ n := by
  by_cases hn : 256 ≤ n
  · exact .inr hn
  · left; intro e; subst e; apply h; simp; omega
theorem endF_stop {c : UInt8} {l : List UInt8} (h : c = 44) : endF false (c :: l) = 0 := by rw [endF, if_pos ⟨h, rfl⟩]
theorem endF_go {b : Bool} {c : UInt8} {l : List UInt8} (h : ¬ (c = 44 ∧ b = false)) : endF b (c :: l) = 1 + endF ((c == 92) && !b) l := by rw [endF, if_neg h]
def EndAt (s : ByteArray) (b : Bool) (k : Nat) : Prop := endF false s.data.toList = k + endF b (s.data.toList.drop k)
theorem EndAt.step {s : ByteArray} {b : Bool} {k : Nat} (h : EndAt s b k) (hk : k < s.size) (hc : ¬ (s[k] = 44 ∧ b = false)) (b' : Bool) (hb : b' = ((s[k] == 92) && !b)) : EndAt s b' (k + 1) := by
  unfold EndAt at h ⊢
  rw [h, drop_at s k hk, endF_go hc, ← hb]; omega
set_option maxHeartbeats 1000000 in
theorem rdnEnd_any (s : ByteArray) (w : World) (hs : s.size ≤ 1048576) :
    Calls Try.prog 94 #[.string s] w fun e w' => e = .returned (.int .i64 (endF false s.data.toList : Nat)) ∧ w = w' := by
  go_enter Try.func94, Try.ntmps94
  go_wp2
  go_loop [3, 7] (fun t i => ∃ (k : Nat) (b : Bool), k ≤ s.size ∧ i = .int .i64 k ∧ t = .bool b ∧ EndAt s b k) (fun _ i => s.size - (intOf i).toNat)
  case atStart => exact ⟨0, false, Nat.zero_le _, rfl, rfl, by unfold EndAt; simp⟩
  case round =>
    obtain ⟨k, b, hk, rfl, rfl, hE⟩ := hrel
    have HE := Lib.hid hE; clear hE
    by_cases hlt : k < s.size
    · by_cases h44 : (s[k].toNat : Int) = 44
      · have hb1 : ((s[k].toNat : Int) == 44) = true := by rw [h44]; rfl
        have hb2 : ((s[k].toNat : Int) == 92) = false := by rw [h44]; rfl
        have e44 := Lib.hid (nat_of_u8 (n := 44) h44 (by omega))
        clear h44
        cases b
        · have HR : Hid (k = endF false s.data.toList) := Lib.hid (by
            have := HE.out; unfold EndAt at this
            rw [drop_at s k hlt, endF_stop e44.out] at this; omega)
          go_wp2
          go_ret
          exact ⟨ret_num HR.out, rfl⟩
        · have HN := Lib.hid (HE.out.step hlt (by simp) false (by simp))
          go_wp2
          go_round
          case rel => exact ⟨k + 1, false, by omega, by go_num, rfl, HN.out⟩
          case measure => simp [intOf]; omega
      · have hb1 : ((s[k].toNat : Int) == 44) = false := by rw [beq_eq_false_iff_ne]; exact h44
        have n44 : s[k] ≠ 44 := fun e => h44 (by rw [e]; rfl)
        by_cases h92 : (s[k].toNat : Int) = 92
        · have hb2 : ((s[k].toNat : Int) == 92) = true := by rw [h92]; rfl
          have e92 : s[k] = 92 := nat_of_u8 (n := 92) h92 (by omega)
          have HN := Lib.hid (HE.out.step hlt (fun h => n44 h.1) (!b) (by rw [e92]; simp))
          clear h44 h92 n44 e92
          cases b
          all_goals
            go_wp2
            go_round
            case rel => exact ⟨k + 1, _, by omega, by go_num, rfl, HN.out⟩
            case measure => simp [intOf]; omega
        · have hb2 : ((s[k].toNat : Int) == 92) = false := by rw [beq_eq_false_iff_ne]; exact h92
          have n92 : s[k] ≠ 92 := fun e => h92 (by rw [e]; rfl)
          have HN := Lib.hid (HE.out.step hlt (fun h => n44 h.1) false (by simp [n92]))
          clear h44 h92 n44 n92
          go_wp2
          go_round
          case rel => exact ⟨k + 1, false, by omega, by go_num, rfl, HN.out⟩
          case measure => simp [intOf]; omega
    · have HR : Hid (s.size = endF false s.data.toList) := Lib.hid (by
        have := HE.out; unfold EndAt at this
        rw [List.drop_eq_nil_of_le (by simp; omega), endF] at this; omega)
      go_wp2
      go_ret
      exact ⟨ret_num HR.out, rfl⟩
theorem unescF_skip {c : UInt8} {l : List UInt8} (h : c = 92) : unescF false (c :: l) = unescF true l := by rw [unescF, if_pos (by simp [h])]
theorem unescF_add {b : Bool} {c : UInt8} {l : List UInt8} (h : ¬ (c = 92 ∧ b = false)) : unescF b (c :: l) = c :: unescF false l := by
  rw [unescF, if_neg]
  intro e; apply h; simpa using e
def UnAt (s : ByteArray) (pre : List UInt8) (b : Bool) (k : Nat) : Prop := unescF false s.data.toList = pre ++ unescF b (s.data.toList.drop k) ∧ pre.length ≤ k
set_option maxRecDepth 100000 in
set_option maxHeartbeats 1000000 in
theorem unescapeValue_any (s : ByteArray) (w : World) (hs : s.size ≤ 1048576) :
    Calls Try.prog 96 #[.string s] w fun e w' => e = .returned (.string (toS (unescF false s.data.toList))) ∧ Below w.heap.size w w' := by
  go_enter Try.func96, Try.ntmps96
  go_wp2
  go_loopw [3, 4, 8] (fun v t i wr => ∃ (k : Nat) (b : Bool) (pre : List UInt8), k ≤ s.size ∧ i = .int .i64 k ∧ t = .bool b ∧ UnAt s pre b k ∧ wr.ownsRow w.heap.size 5 1 v pre.length (bs pre) ∧ Below w.heap.size w wr) (fun _ _ i _ => s.size - (intOf i).toNat)
  case atStart => exact ⟨0, false, [], Nat.zero_le _, rfl, rfl, ⟨by simp, Nat.le_refl _⟩, ⟨rfl, .inl ⟨rfl, rfl⟩⟩, Below.refl _ _⟩
  case round =>
    obtain ⟨k, b, pre, hk, rfl, rfl, hU, hown, hbel⟩ := hrel
    have hpl := hU.2
    have HU := Lib.hid hU; clear hU
    have hsz := hbel.size
    by_cases hlt : k < s.size
    · by_cases h92 : (s[k].toNat : Int) = 92
      · have hb2 : ((s[k].toNat : Int) == 92) = true := by rw [h92]; rfl
        have e92 := Lib.hid (nat_of_u8 (n := 92) h92 (by omega))
        clear h92
        cases b
        · have HN : Hid (UnAt s pre true (k + 1)) := Lib.hid ⟨by rw [HU.out.1, drop_at s k hlt, unescF_skip e92.out], by omega⟩
          go_wp2
          go_roundw
          case rel => exact ⟨k + 1, true, pre, by omega, by go_num, rfl, HN.out, hown, hbel⟩
          case measure => simp [intOf]; omega
        · have HN : Hid (UnAt s (pre ++ [s[k]]) false (k + 1)) := Lib.hid ⟨by rw [HU.out.1, drop_at s k hlt, unescF_add (by simp)]; simp, by simp; omega⟩
          go_wp2_with (first | (at_builtin; refine append_byte w.heap.size rfl _ _ rfl _ pre rfl hown s[k] _ rfl rfl (by omega) hsz hbel ?_; intro v' w1 hown' hbel' hsz') | (fail "none"))
          go_roundw
          case rel => exact ⟨k + 1, false, _, by omega, by go_num, rfl, HN.out, hown', hbel'⟩
          case measure => simp [intOf]; omega
      · have hb2 : ((s[k].toNat : Int) == 92) = false := by rw [beq_eq_false_iff_ne]; exact h92
        have n92 : s[k] ≠ 92 := fun e => h92 (by rw [e]; rfl)
        have HN : Hid (UnAt s (pre ++ [s[k]]) false (k + 1)) := Lib.hid ⟨by rw [HU.out.1, drop_at s k hlt, unescF_add (fun h => n92 h.1)]; simp, by simp; omega⟩
        clear h92 n92
        go_wp2_with (first | (at_builtin; refine append_byte w.heap.size rfl _ _ rfl _ pre rfl hown s[k] _ rfl rfl (by omega) hsz hbel ?_; intro v' w1 hown' hbel' hsz') | (fail "none"))
        go_roundw
        case rel => exact ⟨k + 1, false, _, by omega, by go_num, rfl, HN.out, hown', hbel'⟩
        case measure => simp [intOf]; omega
    · have HR : Hid (toS (unescF false s.data.toList) = ⟨pre.toArray⟩) := Lib.hid (by
        have := HU.out.1
        rw [List.drop_eq_nil_of_le (by simp; omega), unescF, List.append_nil] at this
        unfold toS; rw [this])
      have hcv := str_own _ _ _ _ hown
      go_wp2
      go_ret
      exact ⟨ret_str HR.out.symm, hbel⟩
theorem idx (l : List UInt8) : (Lib.indexByte l 61 = -1 ∧ l.takeWhile (· != 61) = l ∧ l.dropWhile (· != 61) = []) ∨
    ∃ k : Nat, k < l.length ∧ Lib.indexByte l 61 = (k : Int) ∧ l.take k = l.takeWhile (· != 61) ∧ l.drop k = l.dropWhile (· != 61) := by
  induction l with
  | nil => left; exact ⟨rfl, rfl, rfl⟩
  | cons c l ih =>
    by_cases hc : c = 61
    · right; subst hc; exact ⟨0, by simp, by simp [Lib.indexByte], by simp, by simp⟩
    · have hb : (c != 61) = true := by simpa using hc
      have hb' : (c == 61) = false := by simpa using hc
      rcases ih with ⟨h1, h2, h3⟩ | ⟨k, h1, h2, h3, h4⟩
      · left
        refine ⟨by rw [Lib.indexByte, hb', h1]; rfl, ?_, ?_⟩
        · rw [List.takeWhile_cons, hb, if_pos rfl, h2]
        · rw [List.dropWhile_cons, hb, if_pos rfl, h3]
      · right
        refine ⟨k + 1, by simp; omega, ?_, ?_, ?_⟩
        · rw [Lib.indexByte, hb', h2]
          have : ((k : Int) == -1) = false := by rw [beq_eq_false_iff_ne]; omega
          rw [this]; simp
        · rw [List.takeWhile_cons, hb, if_pos rfl, List.take_succ_cons, h3]
        · rw [List.dropWhile_cons, hb, if_pos rfl, List.drop_succ_cons, h4]
end Go.Proofs.Ytjajpdghamecoaa
/- Normalized pairs, keys, sameness: what the texts return. -/
namespace Go.Proofs.Ytjajpdghamecoaa
open Go.RowKit
attribute [local go_sem ↓] Go.wp_at_zero Go.wp_at_succ

/-- two blocks of two cells, over a call -/
theorem keep22 {w W w1 : World} {a b x y : Value} {T U : TypeId} (hb : Below W.heap.size W w1) (hW : W.heap = ((w.alloc (.cells #[a, b] T)).alloc (.cells #[x, y] U)).heap) :
    (w1.cell? ⟨w.heap.size, 0, none⟩ = some a ∧ w1.cell? ⟨w.heap.size, 1, none⟩ = some b ∧ w1.cell? ⟨w.heap.size + 1, 0, none⟩ = some x ∧ w1.cell? ⟨w.heap.size + 1, 1, none⟩ = some y) ∧
    (w1.frozen? ⟨w.heap.size, 0, none⟩ = false ∧ w1.frozen? ⟨w.heap.size, 1, none⟩ = false ∧ w1.frozen? ⟨w.heap.size + 1, 0, none⟩ = false ∧ w1.frozen? ⟨w.heap.size + 1, 1, none⟩ = false) ∧ w.heap.size + 1 < w1.heap.size := by
  have hs : w.heap.size + 1 < W.heap.size := by rw [hW]; simp
  have hblk : w1.heap[w.heap.size]? = some (.cells #[a, b] T) := by
    rw [hb.block _ (by omega), hW, Below.heap_alloc _ _ _ (by simp)]; exact heap_alloc_new w _
  have hblk2 : w1.heap[w.heap.size + 1]? = some (.cells #[x, y] U) := by
    rw [hb.block _ hs, hW]
    have := heap_alloc_new (w.alloc (.cells #[a, b] T)) (.cells #[x, y] U)
    simpa using this
  refine ⟨⟨?_, ?_, ?_, ?_⟩, ⟨?_, ?_, ?_, ?_⟩, Nat.lt_of_lt_of_le hs hb.size⟩
  all_goals first | (unfold World.cell?; rw [hblk]; rfl) | (unfold World.frozen?; rw [hblk]; rfl) | (unfold World.cell?; rw [hblk2]; rfl) | (unfold World.frozen?; rw [hblk2]; rfl)
theorem below_past2 {w W w1 : World} {o o' : Obj} (hb : Below W.heap.size W w1) (h1 : W.heap = ((w.alloc o).alloc o').heap) (h2 : W.os = w.os) (h3 : W.tape = w.tape) (h4 : W.output = w.output) : Below w.heap.size w w1 := by
  have hs : W.heap.size = w.heap.size + 2 := by rw [h1]; simp
  refine ⟨hb.os.trans h2, hb.tape.trans h3, hb.output.trans h4, by have := hb.size; omega, fun k hk => ?_⟩
  rw [hb.block k (by omega), h1, Below.heap_alloc _ _ _ (by simp; omega), Below.heap_alloc w o k hk]

set_option maxRecDepth 100000 in
set_option maxHeartbeats 1000000 in
theorem normRdn_any (a v : ByteArray) (w : World) (hv : v.size ≤ maxLen) :
    Calls Try.prog 60 #[.agg #[.string a, .string v]] w fun e w' => e = .returned (.agg #[.string a, .string (normS v)]) ∧ Below w.heap.size w w' := by
  go_enter Try.func60, Try.ntmps60
  go_wp2_with fail
  go_region_with (first | (go_at_call 99; refine (Norm_any _ _ hv).mono ?_; rintro e w2 ⟨rfl, hb2⟩; obtain ⟨⟨c0, c1, c2, c3⟩, ⟨f0, f1, f2, f3⟩, hz⟩ := keep22 (w := w) hb2 rfl; have HB := Lib.hid (below_past2 (w := w) hb2 rfl rfl rfl rfl); clear hb2))
  all_goals go_wp2
  all_goals refine bodyPost_ret (v := .agg #[.string a, .string (normS v)]) (by simp [results, Try.results60, go_sem, c2, c3]) rfl ⟨rfl, ?_⟩
  all_goals exact (HB.out.setCell (by simp) _).setCell (by simp) _
end Go.Proofs.Ytjajpdghamecoaa
/- Keys of names: the plain mathematics. -/
namespace Go.Proofs.Ytjajpdghamecoaa
open Go.RowKit

/-- what is compared of a pair -/
def nrm (r : ByteArray × ByteArray) : List UInt8 × List UInt8 := (r.1.data.toList, normL r.2.data.toList)
def sameB (a b : RdnL) : Bool := decide (a.map nrm = b.map nrm)
/-- one pair of a key -/
def rkL (r : ByteArray × ByteArray) : List UInt8 := 1 :: (r.1.data.toList ++ 61 :: normL r.2.data.toList)
def keyL (d : RdnL) : List UInt8 := d.reverse.flatMap rkL
def keyS (d : RdnL) : ByteArray := ⟨(keyL d).toArray⟩

theorem pair_eq (a v a' v' : ByteArray) : ((a.toList == a'.toList) && ((normS v).toList == (normS v').toList)) = decide (nrm (a, v) = nrm (a', v')) := by
  rw [Lib.toList_data, Lib.toList_data, Lib.toList_data, Lib.toList_data, Bool.eq_iff_iff]
  simp [nrm, normS]
theorem Try.fields61 : Try.prog.underlying 61 = some (.struct (Try.prog.fieldsOf 61)) := by kernel_rfl
theorem Try.held61 : Try.prog.stoodInHeld 61 = false := by kernel_rfl
theorem neq39 (a v a' v' : ByteArray) (W : World) : (binOp .neq 61 (.agg #[.string a, .string v]) (.agg #[.string a', .string v'])).run Try.prog W = .ok (.bool (!((a.toList == a'.toList) && (v.toList == v'.toList)))) W := by
  rw [run_neq_struct, run_equalIn_agg W 9999 61 _ _ Try.fields61 Try.held61]
  simp [go_sem]
  by_cases h1 : a.toList = a'.toList
  · by_cases h2 : v.toList = v'.toList
    · rw [if_pos h1, if_pos h2]; simp [h1, h2]
    · rw [if_pos h1, if_neg h2]; simp [h2]
  · rw [if_neg h1]; simp [h1]
theorem neqNorm (a v a' v' : ByteArray) (W : World) : (binOp .neq 61 (.agg #[.string a, .string (normS v)]) (.agg #[.string a', .string (normS v')])).run Try.prog W = .ok (.bool (!decide (nrm (a, v) = nrm (a', v')))) W := by
  rw [neq39, pair_eq]

/-- bytes of a name, and of a normalized value -/
def cleanR (p : List UInt8 × List UInt8) : Prop := (1 ∉ p.1 ∧ 61 ∉ p.1) ∧ 1 ∉ p.2
theorem name_clean {s : ByteArray} (h : nmL s = true) : 1 ∉ s.data.toList ∧ 61 ∉ s.data.toList := by
  have h1 : allB s.data.toList = true := by unfold nmL at h; simp at h; exact h.2
  unfold allB at h1
  rw [List.all_eq_true] at h1
  constructor
  · intro hm; have := h1 _ hm; revert this; decide
  · intro hm; have := h1 _ hm; revert this; decide
theorem nstep_mem {o : List UInt8} {c x : UInt8} (h : x ∈ nstep o c) : x ∈ o ∨ x = low c := by
  unfold nstep at h
  split at h
  · exact .inl h
  · simpa using h
theorem nfold_mem {l : List UInt8} {x : UInt8} (h : x ∈ nfold l) : ∃ c ∈ l, x = low c := by
  have : ∀ (l o : List UInt8), x ∈ l.foldl nstep o → x ∈ o ∨ ∃ c ∈ l, x = low c := by
    intro l
    induction l with
    | nil => intro o h; exact .inl h
    | cons c l ih =>
      intro o h
      rcases ih _ h with h1 | ⟨d, hd, hx⟩
      · rcases nstep_mem h1 with h2 | h2
        · exact .inl h2
        · exact .inr ⟨c, List.mem_cons_self .., h2⟩
      · exact .inr ⟨d, List.mem_cons_of_mem _ hd, hx⟩
  rcases this l [] h with h1 | h1
  · simp at h1
  · exact h1
theorem chop_mem {o : List UInt8} {x : UInt8} (h : x ∈ chop o) : x ∈ o := by
  unfold chop at h
  split at h
  · exact List.dropLast_subset _ h
  · exact h
/-- the bytes of a normalized text are printable -/
theorem norm_plain (l : List UInt8) : ∀ x ∈ normL l, 32 ≤ x.toNat ∧ x.toNat ≤ 126 := by
  intro x hx
  unfold normL at hx
  split at hx
  · rename_i h
    obtain ⟨c, hc, rfl⟩ := nfold_mem (chop_mem hx)
    have hp := h.2
    unfold plainB at hp
    rw [List.all_eq_true] at hp
    have hp := hp c hc
    simp at hp
    by_cases hcap : 65 ≤ c.toNat ∧ c.toNat ≤ 90
    · have := low_in c hcap; omega
    · rw [low_out c hcap]; omega
  · simp at hx
theorem norm_clean (l : List UInt8) : 1 ∉ normL l := by
  intro h
  have := norm_plain l _ h
  revert this; decide
theorem clean_of {d : RdnL} (h : d.all rdnB = true) : ∀ p ∈ d.map nrm, cleanR p := by
  intro p hp
  obtain ⟨r, hr, rfl⟩ := List.mem_map.1 hp
  rw [List.all_eq_true] at h
  have := h r hr
  unfold rdnB at this
  simp at this
  exact ⟨name_clean this.1, norm_clean _⟩
def rkP (p : List UInt8 × List UInt8) : List UInt8 := 1 :: (p.1 ++ 61 :: p.2)
theorem split_at {c : UInt8} : ∀ {a b x y : List UInt8}, c ∉ a → c ∉ b → a ++ c :: x = b ++ c :: y → a = b ∧ x = y
  | [], [], _, _, _, _, h => ⟨rfl, by simpa using h⟩
  | [], b0 :: b, _, _, _, hb, h => by
    simp at h; exact absurd h.1.symm (fun e => hb (by simp [e]))
  | a0 :: a, [], _, _, ha, _, h => by
    simp at h; exact absurd h.1 (fun e => ha (by simp [e]))
  | a0 :: a, b0 :: b, x, y, ha, hb, h => by
    simp at h
    obtain ⟨h1, h2⟩ := h
    have := split_at (c := c) (fun e => ha (by simp [e])) (fun e => hb (by simp [e])) h2
    exact ⟨by rw [h1, this.1], this.2⟩
/-- of two lists of pairs with one key -/
theorem key_inj : ∀ (a b : List (List UInt8 × List UInt8)), (∀ p ∈ a, cleanR p) → (∀ p ∈ b, cleanR p) → a.flatMap rkP = b.flatMap rkP → a = b
  | [], [], _, _, _ => rfl
  | [], q :: b, _, _, h => by simp [rkP] at h
  | p :: a, [], _, _, h => by simp [rkP] at h
  | p :: a, q :: b, ha, hb, h => by
    have hp := ha p (List.mem_cons_self ..)
    have hq := hb q (List.mem_cons_self ..)
    have ha' : ∀ x ∈ a, cleanR x := fun x hx => ha x (List.mem_cons_of_mem _ hx)
    have hb' : ∀ x ∈ b, cleanR x := fun x hx => hb x (List.mem_cons_of_mem _ hx)
    simp only [List.flatMap_cons, rkP, List.cons_append, List.cons.injEq, true_and, List.append_assoc] at h
    obtain ⟨e1, h2⟩ := split_at (c := 61) hp.1.2 hq.1.2 h
    have tail : ∀ (l : List (List UInt8 × List UInt8)), l.flatMap rkP = [] ∨ ∃ t, l.flatMap rkP = 1 :: t := by
      intro l
      cases l with
      | nil => exact .inl rfl
      | cons r l => exact .inr ⟨_, rfl⟩
    have h3 : p.2 = q.2 ∧ a.flatMap rkP = b.flatMap rkP := by
      have h2' : p.2 ++ a.flatMap rkP = q.2 ++ b.flatMap rkP := h2
      rcases tail a with ea | ⟨s, ea⟩ <;> rcases tail b with eb | ⟨t, eb⟩
      · rw [ea, eb] at h2' ⊢; simpa using h2'
      · rw [ea, eb] at h2'
        exact absurd (show (1 : UInt8) ∈ p.2 by rw [show p.2 = q.2 ++ 1 :: t by simpa using h2']; simp) hp.2
      · rw [ea, eb] at h2'
        exact absurd (show (1 : UInt8) ∈ q.2 by rw [show q.2 = p.2 ++ 1 :: s by simpa using h2'.symm]; simp) hq.2
      · rw [ea, eb] at h2' ⊢
        obtain ⟨x, y⟩ := split_at (c := 1) hp.2 hq.2 h2'
        exact ⟨x, by rw [y]⟩
    have := key_inj a b ha' hb' h3.2
    rw [this, Prod.ext e1 h3.1]
theorem keyL_map (d : RdnL) : keyL d = (d.map nrm).reverse.flatMap rkP := by
  unfold keyL
  rw [← List.map_reverse, List.flatMap_map]; rfl
theorem key_same {a b : RdnL} (ha : a.all rdnB = true) (hb : b.all rdnB = true) : ((keyS a).toList == (keyS b).toList) = sameB a b := by
  rw [Lib.toList_data, Lib.toList_data, Bool.eq_iff_iff]
  simp only [beq_iff_eq, sameB, decide_eq_true_eq]
  show keyL a = keyL b ↔ _
  constructor
  · intro h
    rw [keyL_map, keyL_map] at h
    have := key_inj _ _ (fun p hp => clean_of ha p (by simpa using hp)) (fun p hp => clean_of hb p (by simpa using hp)) h
    simpa using this
  · intro h; rw [keyL_map, keyL_map, h]
theorem keyL_take (d : RdnL) (k : Nat) (h : k < d.length) : keyL (d.take (k + 1)) = rkL d[k] ++ keyL (d.take k) := by
  unfold keyL
  rw [List.take_succ_eq_append_getElem h, List.reverse_append, List.flatMap_append]; simp
theorem keyL_drop (d : RdnL) (k : Nat) (h : k < d.length) : keyL (d.drop k) = keyL (d.drop (k + 1)) ++ rkL d[k] := by
  unfold keyL
  rw [List.drop_eq_getElem_cons h, List.reverse_cons, List.flatMap_append]; simp
theorem rk_len (r : ByteArray × ByteArray) (h : r.1.size ≤ 1048576) : (rkL r).length ≤ 1048678 := by
  have := normL_len r.2.data.toList
  unfold rkL
  simp only [List.length_cons, List.length_append, size_len]; omega
theorem keyL_len (d : RdnL) (h : ∀ r ∈ d, r.1.size ≤ 1048576) : (keyL d).length ≤ d.length * 1048678 := by
  induction d with
  | nil => simp [keyL]
  | cons r d ih =>
    have h1 := ih (fun x hx => h x (List.mem_cons_of_mem _ hx))
    have h2 := rk_len r (h r (List.mem_cons_self ..))
    have e : keyL (r :: d) = keyL d ++ rkL r := by unfold keyL; simp
    rw [e, List.length_append, List.length_cons, Nat.add_mul]; omega
theorem keyS_small (d : RdnL) (h : Fits d) (h6 : d.length ≤ 6) : (keyS d).size ≤ 7000000 := by
  have := keyL_len d (fun r hr => (h.2 r hr).1)
  have e : (keyS d).size = (keyL d).length := rfl
  rw [e]; omega
theorem Fits.take {d : RdnL} (h : Fits d) (k : Nat) : Fits (d.take k) := ⟨by have := h.1; simp; omega, fun r hr => h.2 r (List.mem_of_mem_take hr)⟩
theorem Fits.drop {d : RdnL} (h : Fits d) (k : Nat) : Fits (d.drop k) := ⟨by have := h.1; simp; omega, fun r hr => h.2 r (List.mem_of_mem_drop hr)⟩
theorem normS_size (s : ByteArray) : (normS s).size ≤ 100 := by have := normL_len s.data.toList; exact this
end Go.Proofs.Ytjajpdghamecoaa
/- Sameness and keys of names: what the texts return. -/
namespace Go.Proofs.Ytjajpdghamecoaa
open Go.RowKit
attribute [local go_sem ↓] Go.wp_at_zero Go.wp_at_succ

theorem normRdn_from (w0 : World) (a v : ByteArray) (w : World) (hv : v.size ≤ maxLen) (hB : Below w0.heap.size w0 w) :
    Calls Try.prog 60 #[.agg #[.string a, .string v]] w fun e w' => e = .returned (.agg #[.string a, .string (normS v)]) ∧ Below w0.heap.size w0 w' :=
  (normRdn_any a v w hv).mono fun _ _ ⟨he, hb⟩ => ⟨he, hB.trans (hb.mono hB.size)⟩
theorem map_take_succ {α β : Type} (f : α → β) (l : List α) (k : Nat) (h : k < l.length) : (l.take (k + 1)).map f = (l.take k).map f ++ [f l[k]] := by
  rw [List.take_succ_eq_append_getElem h, List.map_append]; rfl
theorem same_len {a b : RdnL} (h : a.length ≠ b.length) : sameB a b = false := by
  unfold sameB
  rw [decide_eq_false_iff_not]
  intro e
  have := congrArg List.length e
  simp at this; exact h this
theorem same_bad {a b : RdnL} {k : Nat} (ha : k < a.length) (hb : k < b.length) (h : nrm a[k] ≠ nrm b[k]) : sameB a b = false := by
  unfold sameB
  rw [decide_eq_false_iff_not]
  intro e
  apply h
  have : (a.map nrm)[k]? = (b.map nrm)[k]? := by rw [e]
  rw [List.getElem?_map, List.getElem?_map, List.getElem?_eq_getElem ha, List.getElem?_eq_getElem hb] at this
  simpa using this

set_option maxRecDepth 100000 in
set_option maxHeartbeats 1000000 in
theorem sameRdns_any (ao bo : Option Addr) (a b : RdnL) (ca cb : Nat) (w : World) (hda : DnAt w ao a) (hdb : DnAt w bo b) (hfa : Fits a) (hfb : Fits b) :
    Calls Try.prog 58 #[.slice ao a.length ca, .slice bo b.length cb] w fun e w' => e = .returned (.bool (sameB a b)) ∧ Below w.heap.size w w' := by
  have hla := hfa.1
  have hlb := hfb.1
  have HA := Lib.hid hda; have HB := Lib.hid hdb; have FA := Lib.hid hfa; have FB := Lib.hid hfb; clear hda hdb hfa hfb
  by_cases hl : a.length = b.length
  · have Hl := Lib.hid hl
    have hne : ((a.length : Int) != (b.length : Int)) = false := by rw [hl]; simp
    go_enter Try.func58, Try.ntmps58
    clear hl
    go_wp2
    go_loopw [13] (fun i wr => ∃ k : Nat, k ≤ a.length ∧ i = .int .i64 k ∧ (a.take k).map nrm = (b.take k).map nrm ∧ Below w.heap.size w wr) (fun i _ => a.length - (intOf i).toNat)
    case atStart => exact ⟨0, Nat.zero_le _, rfl, rfl, Below.refl _ _⟩
    case round =>
      obtain ⟨k, hk, rfl, hs, hbel⟩ := hrel
      have HS := Lib.hid hs; clear hs
      have hsz := hbel.size
      by_cases hlt : k < a.length
      · have hltb : k < b.length := by have := Hl.out; omega
        obtain ⟨p, off, rfl, hp0, hd1, hd2⟩ := HA.out.at hlt
        obtain ⟨q, off', rfl, hq0, he1, he2⟩ := HB.out.at hltb
        have hz1 := (FA.out.at hlt).2
        have hz2 := (FB.out.at hltb).2
        have hnq := neqNorm a[k].1 a[k].2 b[k].1 b[k].2
        have HBd := Lib.hid (fun h => same_bad (a := a) (b := b) hlt hltb h)
        have HT : Hid (nrm a[k] = nrm b[k] → (a.take (k + 1)).map nrm = (b.take (k + 1)).map nrm) := Lib.hid (fun h => by rw [map_take_succ nrm a k hlt, map_take_succ nrm b k hltb, HS.out, h])
        have HD : Hid (nrm (a[k].1, a[k].2) = nrm a[k] ∧ nrm (b[k].1, b[k].2) = nrm b[k]) := Lib.hid ⟨rfl, rfl⟩
        generalize a[k].1 = A at *
        generalize a[k].2 = V at *
        generalize b[k].1 = A' at *
        generalize b[k].2 = V' at *
        have SK : Hid (∀ W : World, Below w.heap.size w W → (Below w.heap.size w W ∧ W.cell? ⟨p, off + k * 2, none⟩ = some (.string A) ∧ W.cell? ⟨p, off + k * 2 + 1, none⟩ = some (.string V) ∧ W.cell? ⟨q, off' + k * 2, none⟩ = some (.string A') ∧ W.cell? ⟨q, off' + k * 2 + 1, none⟩ = some (.string V'))) :=
          Lib.hid (fun W h => ⟨h, (h.cell (p := ⟨p, _, none⟩) hp0).trans hd1, (h.cell (p := ⟨p, _, none⟩) hp0).trans hd2, (h.cell (p := ⟨q, _, none⟩) hq0).trans he1, (h.cell (p := ⟨q, _, none⟩) hq0).trans he2⟩)
        have hbd := hbel.drew
        clear hd1 hd2 he1 he2
        have g1 : (0 : Int) ≤ (k : Int) := by omega
        have g2 : (k : Int) < (a.length : Int) := by omega
        have g3 : (k : Int) < (b.length : Int) := by omega
        cases hdec : decide (nrm (A, V) = nrm (A', V'))
        · have HX := Lib.hid (HBd.out (by rw [← HD.out.1, ← HD.out.2]; exact of_decide_eq_false hdec))
          rw [hdec] at hnq
          go_wp2_with fail
          go_region_held3 (fun W => Below w.heap.size w W ∧ W.cell? ⟨p, off + k * 2, none⟩ = some (.string A) ∧ W.cell? ⟨p, off + k * 2 + 1, none⟩ = some (.string V) ∧ W.cell? ⟨q, off' + k * 2, none⟩ = some (.string A') ∧ W.cell? ⟨q, off' + k * 2 + 1, none⟩ = some (.string V'))
            (exact SK.out _ (by assumption))
            (first | (go_at_call 60; refine (normRdn_from w _ _ _ (by assumption) (by assumption)).mono ?_; rintro e w2 ⟨rfl, hb2⟩))
          all_goals
            go_wp2
            go_ret
            exact ⟨ret_bool HX.out.symm, hb2⟩
        · have HX := Lib.hid (HT.out (by rw [← HD.out.1, ← HD.out.2]; exact of_decide_eq_true hdec))
          rw [hdec] at hnq
          go_wp2_with fail
          go_region_held3 (fun W => Below w.heap.size w W ∧ W.cell? ⟨p, off + k * 2, none⟩ = some (.string A) ∧ W.cell? ⟨p, off + k * 2 + 1, none⟩ = some (.string V) ∧ W.cell? ⟨q, off' + k * 2, none⟩ = some (.string A') ∧ W.cell? ⟨q, off' + k * 2 + 1, none⟩ = some (.string V'))
            (exact SK.out _ (by assumption))
            (first | (go_at_call 60; refine (normRdn_from w _ _ _ (by assumption) (by assumption)).mono ?_; rintro e w2 ⟨rfl, hb2⟩))
          all_goals
            go_wp2
            go_roundw
            case rel => exact ⟨k + 1, by omega, by go_num, HX.out, hb2⟩
            case measure => simp [intOf]; omega
      · have HE : Hid (sameB a b = true) := Lib.hid (by
          have h := HS.out
          have := Hl.out
          rw [List.take_of_length_le (by omega), List.take_of_length_le (by omega)] at h
          unfold sameB; exact decide_eq_true h)
        go_wp2
        go_ret
        exact ⟨ret_bool HE.out.symm, hbel⟩
  · have hne : ((a.length : Int) != (b.length : Int)) = true := by rw [bne_iff_ne]; omega
    have HE := Lib.hid (same_len hl)
    clear hl
    go_enter Try.func58, Try.ntmps58
    go_wp2
    go_ret
    exact ⟨ret_bool HE.out.symm, Below.refl _ _⟩

def dnSameB (a b : RdnL) : Bool := dnB a && dnB b && sameB a b
set_option maxHeartbeats 400000 in
theorem DnSame_any (ao bo : Option Addr) (a b : RdnL) (ca cb : Nat) (w : World) (hda : DnAt w ao a) (hdb : DnAt w bo b) (hfa : Fits a) (hfb : Fits b) :
    Calls Try.prog 21 #[.slice ao a.length ca, .slice bo b.length cb] w fun e w' => e = .returned (.bool (dnSameB a b)) ∧ Below w.heap.size w w' := by
  have HV : Hid (dnSameB a b = (dnB a && dnB b && sameB a b)) := Lib.hid rfl
  cases h1 : dnB a
  · go_enter Try.func21, Try.ntmps21
    go_wp2_with (first | (go_at_call 13; refine (DnRight_any _ _ _ _ hda hfa).mono ?_; rintro e w1 ⟨rfl, hb1⟩; rw [h1]))
    go_ret
    exact ⟨ret_bool (by rw [HV.out, h1]; rfl), hb1⟩
  · cases h2 : dnB b
    · go_enter Try.func21, Try.ntmps21
      go_wp2_with fail
      refine (DnRight_any _ _ _ _ hda hfa).mono ?_
      rintro e w1 ⟨rfl, hb1⟩
      rw [h1]
      go_wp2_with fail
      refine (DnRight_any _ _ _ _ (hdb.below hb1) hfb).mono ?_
      rintro e w2 ⟨rfl, hb2⟩
      rw [h2]
      go_wp2
      go_ret
      exact ⟨ret_bool (by rw [HV.out, h1, h2]; rfl), hb1.trans (hb2.mono hb1.size)⟩
    · go_enter Try.func21, Try.ntmps21
      go_wp2_with fail
      refine (DnRight_any _ _ _ _ hda hfa).mono ?_
      rintro e w1 ⟨rfl, hb1⟩
      rw [h1]
      go_wp2_with fail
      refine (DnRight_any _ _ _ _ (hdb.below hb1) hfb).mono ?_
      rintro e w2 ⟨rfl, hb2⟩
      rw [h2]
      have hb12 := hb1.trans (hb2.mono hb1.size)
      go_wp2_with fail
      refine (sameRdns_any _ _ _ _ _ _ _ (hda.below hb12) (hdb.below hb12) hfa hfb).mono ?_
      rintro e w3 ⟨rfl, hb3⟩
      go_wp2
      go_ret
      exact ⟨ret_bool (by rw [HV.out, h1, h2]; rfl), hb12.trans (hb3.mono hb12.size)⟩
end Go.Proofs.Ytjajpdghamecoaa
/- Keys of names, and what is under what: what the texts return. -/
namespace Go.Proofs.Ytjajpdghamecoaa
open Go.RowKit
attribute [local go_sem ↓] Go.wp_at_zero Go.wp_at_succ

theorem SpecNorm_from (w0 : World) (v : ByteArray) (w : World) (hv : v.size ≤ maxLen) (hB : Below w0.heap.size w0 w) :
    Calls Try.prog 93 #[.string v] w fun e w' => e = .returned (.string (normS v)) ∧ Below w0.heap.size w0 w' :=
  (SpecNorm_any v w hv).mono fun _ _ ⟨he, hb⟩ => ⟨he, hB.trans (hb.mono hB.size)⟩
theorem keyS_drop (d : RdnL) (k : Nat) (h : k < d.length) : keyS (d.drop k) = keyS (d.drop (k + 1)) ++ ⟨#[1]⟩ ++ d[k].1 ++ ⟨#[61]⟩ ++ normS d[k].2 := by
  unfold keyS
  rw [keyL_drop d k h]
  apply ByteArray.ext
  simp [rkL, normS]
theorem keyS_take (d : RdnL) (k : Nat) (h : k < d.length) : keyS (d.take (k + 1)) = ⟨#[1]⟩ ++ d[k].1 ++ ⟨#[61]⟩ ++ normS d[k].2 ++ keyS (d.take k) := by
  unfold keyS
  rw [keyL_take d k h]
  apply ByteArray.ext
  simp [rkL, normS]

set_option maxRecDepth 100000 in
set_option maxHeartbeats 1000000 in
theorem l02Key_any (ao : Option Addr) (d : RdnL) (cap : Nat) (w : World) (hd : DnAt w ao d) (hf : Fits d) (h6 : d.length ≤ 6) :
    Calls Try.prog 59 #[.slice ao d.length cap] w fun e w' => e = .returned (.string (keyS d)) ∧ Below w.heap.size w w' := by
  have HD := Lib.hid hd; have HF := Lib.hid hf; clear hd hf
  go_enter Try.func59, Try.ntmps59
  go_wp2
  go_loopw [3, 4] (fun t i wr => ∃ k : Nat, k ≤ d.length ∧ i = .int .i64 ((k : Int) - 1) ∧ t = .string (keyS (d.drop k)) ∧ Below w.heap.size w wr) (fun _ i _ => (intOf i + 1).toNat)
  case atStart => exact ⟨d.length, Nat.le_refl _, rfl, by rw [List.drop_length]; rfl, Below.refl _ _⟩
  case round =>
    obtain ⟨k1, hk, rfl, rfl, hbel⟩ := hrel
    have hsz := hbel.size
    have hts := keyS_small (d.drop k1) (HF.out.drop k1) (by rw [List.length_drop]; omega)
    by_cases h0 : k1 = 0
    · subst h0
      rw [show ((0 : Nat) : Int) - 1 = -1 by rfl, List.drop_zero]
      go_wp2
      go_ret
      exact ⟨rfl, hbel⟩
    · obtain ⟨k, rfl⟩ : ∃ k, k1 = k + 1 := ⟨k1 - 1, by omega⟩
      clear h0
      have hlt : k < d.length := by omega
      rw [show ((k + 1 : Nat) : Int) - 1 = (k : Int) by omega]
      obtain ⟨b, off, rfl, hb0, hd1, hd2⟩ := HD.out.at hlt
      have hz := HF.out.small hlt
      have hzM := (HF.out.at hlt).2
      have HN := Lib.hid (keyS_drop d k hlt)
      have hns := normS_size d[k].2
      have g1 : (0 : Int) ≤ (k : Int) := by omega
      have g2 : (k : Int) < (d.length : Int) := by omega
      generalize keyS (d.drop (k + 1)) = T at *
      generalize d[k].1 = A at *
      generalize d[k].2 = V at *
      have SK : Hid (∀ W : World, Below w.heap.size w W → (Below w.heap.size w W ∧ W.cell? ⟨b, off + k * 2, none⟩ = some (.string A) ∧ W.cell? ⟨b, off + k * 2 + 1, none⟩ = some (.string V))) :=
        Lib.hid (fun W h => ⟨h, (h.cell (p := ⟨b, _, none⟩) hb0).trans hd1, (h.cell (p := ⟨b, _, none⟩) hb0).trans hd2⟩)
      have hbd := hbel.drew
      clear hd1 hd2
      have ha := cat T ⟨#[1]⟩ (by rw [sz1]; omega)
      have ha0 := cat (T ++ ⟨#[1]⟩) A (by rw [ByteArray.size_append, sz1]; omega)
      have ha1 := cat (T ++ ⟨#[1]⟩ ++ A) ⟨#[61]⟩ (by rw [ByteArray.size_append, ByteArray.size_append, sz1, sz1]; omega)
      have ha2 := cat (T ++ ⟨#[1]⟩ ++ A ++ ⟨#[61]⟩) (normS V) (by rw [ByteArray.size_append, ByteArray.size_append, ByteArray.size_append, sz1, sz1]; omega)
      go_wp2_with fail
      go_region_held3 (fun W => Below w.heap.size w W ∧ W.cell? ⟨b, off + k * 2, none⟩ = some (.string A) ∧ W.cell? ⟨b, off + k * 2 + 1, none⟩ = some (.string V))
        (exact SK.out _ (by assumption))
        (first | (go_at_call 93; refine (SpecNorm_from w _ _ (by assumption) (by assumption)).mono ?_; rintro e w2 ⟨rfl, hb2⟩))
      all_goals
        go_wp2
        go_roundw
        case rel => exact ⟨k, by omega, by go_num, by rw [HN.out], hb2⟩
        case measure => simp [intOf]
def dnKeyS (d : RdnL) : ByteArray := if dnB d = true then keyS d else ByteArray.empty
theorem dnKey_yes {d : RdnL} (h : dnB d = true) : dnKeyS d = keyS d := by unfold dnKeyS; rw [if_pos h]
theorem dnKey_no {d : RdnL} (h : dnB d = false) : dnKeyS d = ByteArray.empty := by unfold dnKeyS; rw [h]; rfl

set_option maxRecDepth 100000 in
set_option maxHeartbeats 1000000 in
theorem DnKey_any (ao : Option Addr) (d : RdnL) (cap : Nat) (w : World) (hd : DnAt w ao d) (hf : Fits d) :
    Calls Try.prog 25 #[.slice ao d.length cap] w fun e w' => e = .returned (.string (dnKeyS d)) ∧ Below w.heap.size w w' := by
  cases hr : dnB d
  · have HE := Lib.hid (dnKey_no hr)
    go_enter Try.func25, Try.ntmps25
    go_wp2_with (first | (go_at_call 13; refine (DnRight_any _ _ _ _ hd hf).mono ?_; rintro e w1 ⟨rfl, hb1⟩; rw [hr]))
    go_ret
    exact ⟨ret_str HE.out.symm, hb1⟩
  · have HE := Lib.hid (dnKey_yes hr)
    have h6 := dnB_six hr
    have HD := Lib.hid hd; have HF := Lib.hid hf; clear hd hf
    go_enter Try.func25, Try.ntmps25
    go_wp2_with (first | (go_at_call 13; refine (DnRight_any _ _ _ _ HD.out HF.out).mono ?_; rintro e w1 ⟨rfl, hb1⟩; rw [hr]))
    clear hr
    go_loopw [3, 11] (fun t i wr => ∃ k : Nat, k ≤ d.length ∧ i = .int .i64 k ∧ t = .string (keyS (d.take k)) ∧ Below w.heap.size w wr) (fun _ i _ => d.length - (intOf i).toNat)
    case atStart => exact ⟨0, Nat.zero_le _, rfl, rfl, hb1⟩
    case round =>
      obtain ⟨k, hk, rfl, rfl, hbel⟩ := hrel
      have hsz := hbel.size
      have hts := keyS_small (d.take k) (HF.out.take k) (by rw [List.length_take]; omega)
      by_cases hlt : k < d.length
      · obtain ⟨b, off, rfl, hb0, hd1, hd2⟩ := HD.out.at hlt
        have hc1 := (hbel.cell (p := ⟨b, off + k * 2, none⟩) hb0).trans hd1
        have hc2 := (hbel.cell (p := ⟨b, off + k * 2 + 1, none⟩) hb0).trans hd2
        have hz := HF.out.small hlt
        have hzM := (HF.out.at hlt).2
        have HN := Lib.hid (keyS_take d k hlt)
        have hns := normS_size d[k].2
        clear hd1 hd2
        generalize keyS (d.take k) = T at *
        generalize d[k].1 = A at *
        generalize d[k].2 = V at *
        have ha := cat ⟨#[1]⟩ A (by rw [sz1]; omega)
        have ha0 := cat (⟨#[1]⟩ ++ A) ⟨#[61]⟩ (by rw [ByteArray.size_append, sz1, sz1]; omega)
        have ha1 := cat (⟨#[1]⟩ ++ A ++ ⟨#[61]⟩) (normS V) (by rw [ByteArray.size_append, ByteArray.size_append, sz1, sz1]; omega)
        have ha2 := cat (⟨#[1]⟩ ++ A ++ ⟨#[61]⟩ ++ normS V) T (by rw [ByteArray.size_append, ByteArray.size_append, ByteArray.size_append, sz1, sz1]; omega)
        go_wp2_with fail
        refine (normRdn_from w _ _ _ hzM hbel).mono ?_
        rintro e w2 ⟨rfl, hb2⟩
        go_wp2
        go_roundw
        case rel => exact ⟨k + 1, by omega, by go_num, by rw [HN.out], hb2.alloc hb2.size _⟩
        case measure => simp [intOf]; omega
      · have HT : Hid (keyS (d.take k) = keyS d) := Lib.hid (by rw [List.take_of_length_le (by omega)])
        go_wp2
        go_ret
        exact ⟨ret_str (by rw [HE.out, HT.out]), hbel⟩
set_option maxHeartbeats 400000 in
theorem SpecDnKey_any (ao : Option Addr) (d : RdnL) (cap : Nat) (w : World) (hd : DnAt w ao d) (hf : Fits d) :
    Calls Try.prog 26 #[.slice ao d.length cap] w fun e w' => e = .returned (.string (dnKeyS d)) ∧ Below w.heap.size w w' := by
  have hl := hf.1
  cases hr : dnB d
  · have HE := Lib.hid (dnKey_no hr)
    by_cases h4 : 400 < d.length
    · go_enter Try.func26, Try.ntmps26
      go_wp2
      go_ret
      exact ⟨ret_str HE.out.symm, Below.refl _ _⟩
    · go_enter Try.func26, Try.ntmps26
      go_wp2_with (first | (go_at_call 14; refine (SpecDnRight_any _ _ _ _ hd hf).mono ?_; rintro e w1 ⟨rfl, hb1⟩; rw [hr]))
      go_ret
      exact ⟨ret_str HE.out.symm, hb1⟩
  · have HE := Lib.hid (dnKey_yes hr)
    have h6 := dnB_six hr
    go_enter Try.func26, Try.ntmps26
    go_wp2_with (first | (go_at_call 14; refine (SpecDnRight_any _ _ _ _ hd hf).mono ?_; rintro e w1 ⟨rfl, hb1⟩; rw [hr]) | (go_at_call 59; refine (l02Key_any _ _ _ _ (hd.below hb1) hf h6).mono ?_; rintro e w2 ⟨rfl, hb2⟩))
    go_ret
    exact ⟨ret_str HE.out.symm, hb1.trans (hb2.mono hb1.size)⟩
end Go.Proofs.Ytjajpdghamecoaa
/- What is the same, and what is under what: what the texts return. -/
namespace Go.Proofs.Ytjajpdghamecoaa
open Go.RowKit

theorem dnB_all_of {d : RdnL} (h : dnB d = true) : d.all rdnB = true := by unfold dnB at h; simp only [Bool.and_eq_true] at h; exact h.2
theorem same_no {a b : RdnL} (h : dnB a = false ∨ dnB b = false) : dnSameB a b = false := by
  unfold dnSameB; rcases h with h | h <;> rw [h] <;> simp
theorem same_yes {a b : RdnL} (h1 : dnB a = true) (h2 : dnB b = true) : dnSameB a b = ((keyS a).toList == (keyS b).toList) := by
  unfold dnSameB; rw [h1, h2, key_same (dnB_all_of h1) (dnB_all_of h2)]; simp
set_option maxHeartbeats 1000000 in
theorem SpecDnSame_any (ao bo : Option Addr) (a b : RdnL) (ca cb : Nat) (w : World) (hda : DnAt w ao a) (hdb : DnAt w bo b) (hfa : Fits a) (hfb : Fits b) :
    Calls Try.prog 24 #[.slice ao a.length ca, .slice bo b.length cb] w fun e w' => e = .returned (.bool (dnSameB a b)) ∧ Below w.heap.size w w' := by
  have hla := hfa.1
  have hlb := hfb.1
  by_cases h4 : 400 < a.length
  · have HE := Lib.hid (same_no (a := a) (b := b) (.inl (dnB_long (by omega))))
    clear hda hdb hfa hfb
    go_enter Try.func24, Try.ntmps24
    go_wp2
    go_ret
    exact ⟨ret_bool HE.out.symm, Below.refl _ _⟩
  by_cases h5 : 400 < b.length
  · have HE := Lib.hid (same_no (a := a) (b := b) (.inr (dnB_long (by omega))))
    clear hda hdb hfa hfb
    go_enter Try.func24, Try.ntmps24
    go_wp2
    go_ret
    exact ⟨ret_bool HE.out.symm, Below.refl _ _⟩
  cases h1 : dnB a
  · have HE := Lib.hid (same_no (a := a) (b := b) (.inl h1))
    go_enter Try.func24, Try.ntmps24
    go_wp2_with fail
    refine (SpecDnRight_any _ _ _ _ hda hfa).mono ?_
    rintro e w1 ⟨rfl, hb1⟩
    rw [h1]
    go_wp2
    go_ret
    exact ⟨ret_bool HE.out.symm, hb1⟩
  cases h2 : dnB b
  · have HE := Lib.hid (same_no (a := a) (b := b) (.inr h2))
    go_enter Try.func24, Try.ntmps24
    go_wp2_with fail
    refine (SpecDnRight_any _ _ _ _ hda hfa).mono ?_
    rintro e w1 ⟨rfl, hb1⟩
    rw [h1]
    go_wp2_with fail
    refine (SpecDnRight_any _ _ _ _ (hdb.below hb1) hfb).mono ?_
    rintro e w2 ⟨rfl, hb2⟩
    rw [h2]
    go_wp2
    go_ret
    exact ⟨ret_bool HE.out.symm, hb1.trans (hb2.mono hb1.size)⟩
  · have HE := Lib.hid (same_yes h1 h2)
    have a6 := dnB_six h1
    have b6 := dnB_six h2
    go_enter Try.func24, Try.ntmps24
    go_wp2_with fail
    refine (SpecDnRight_any _ _ _ _ hda hfa).mono ?_
    rintro e w1 ⟨rfl, hb1⟩
    rw [h1]
    go_wp2_with fail
    refine (SpecDnRight_any _ _ _ _ (hdb.below hb1) hfb).mono ?_
    rintro e w2 ⟨rfl, hb2⟩
    rw [h2]
    have hb12 := hb1.trans (hb2.mono hb1.size)
    go_wp2_with fail
    refine (l02Key_any _ _ _ _ (hda.below hb12) hfa a6).mono ?_
    rintro e w3 ⟨rfl, hb3⟩
    have hb13 := hb12.trans (hb3.mono hb12.size)
    go_wp2_with fail
    refine (l02Key_any _ _ _ _ (hdb.below hb13) hfb b6).mono ?_
    rintro e w4 ⟨rfl, hb4⟩
    go_wp2
    go_ret
    exact ⟨ret_bool HE.out.symm, hb13.trans (hb4.mono hb13.size)⟩

theorem Try.elem23 : Try.prog.elem 23 = 61 := by kernel_rfl
theorem Try.size61 (w : World) : (sizeOf 61).run Try.prog w = .ok 2 w := by kernel_rfl
/-- dn[k:] -/
theorem cut27 (w : World) (ao : Option Addr) (d : RdnL) (k cap : Nat) (hk : k ≤ d.length) (hc : d.length ≤ cap) (hd : DnAt w ao d) :
    ∃ ao', (∀ W : World, (Instr.slice 23 (.slice ao d.length cap) (some (.int .i64 (k : Int))) none none).run Try.prog W = .ok (.slice ao' (d.length - k) (cap - k)) W) ∧ DnAt w ao' (d.drop k) := by
  refine ⟨if cap = k then ao else ao.map (·.add (k * 2)), fun W => ?_, ?_⟩
  · rw [run_slice_l W 23 ao d.length cap (by rw [Try.elem23]; exact Try.underlying23) .i64 (k : Int) (by omega) (by omega), Try.elem23, Try.size61]
    simp [Result.andThen, sliced]
  · by_cases h0 : d.length = k
    · exact .inl (List.drop_eq_nil_of_le (by omega))
    · rw [if_neg (by omega)]
      obtain ⟨b, off, rfl, hb, _⟩ := hd.at (k := 0) (by omega)
      refine .inr ⟨b, off + k * 2, ?_, hb, fun i hi => ?_⟩
      · simp [Addr.add]
      · rw [List.length_drop] at hi
        rw [List.getElem_drop]
        obtain ⟨b', off', e, _, c1, c2⟩ := hd.at (k := k + i) (by omega)
        cases e
        rw [show off + k * 2 + i * 2 = off + (k + i) * 2 by omega]
        exact ⟨c1, c2⟩

def underB (d b : RdnL) : Bool := dnB d && dnB b && decide (b.length ≤ d.length) && sameB (d.drop (d.length - b.length)) b
theorem under_no {d b : RdnL} (h : dnB d = false ∨ dnB b = false ∨ d.length < b.length) : underB d b = false := by
  unfold underB; rcases h with h | h | h
  · rw [h]; simp
  · rw [h]; simp
  · have : decide (b.length ≤ d.length) = false := decide_eq_false (by omega)
    rw [this]; simp
theorem under_yes {d b : RdnL} (h1 : dnB d = true) (h2 : dnB b = true) (h3 : b.length ≤ d.length) : underB d b = sameB (d.drop (d.length - b.length)) b := by
  unfold underB; rw [h1, h2]; simp [h3]
set_option maxHeartbeats 1000000 in
theorem DnUnder_any (ao bo : Option Addr) (d b : RdnL) (ca cb : Nat) (w : World) (hc : d.length ≤ ca) (hda : DnAt w ao d) (hdb : DnAt w bo b) (hfa : Fits d) (hfb : Fits b) :
    Calls Try.prog 22 #[.slice ao d.length ca, .slice bo b.length cb] w fun e w' => e = .returned (.bool (underB d b)) ∧ Below w.heap.size w w' := by
  have hla := hfa.1
  have hlb := hfb.1
  cases h1 : dnB d
  · have HE := Lib.hid (under_no (d := d) (b := b) (.inl h1))
    go_enter Try.func22, Try.ntmps22
    go_wp2_with fail
    refine (DnRight_any _ _ _ _ hda hfa).mono ?_
    rintro e w1 ⟨rfl, hb1⟩
    rw [h1]
    go_wp2
    go_ret
    exact ⟨ret_bool HE.out.symm, hb1⟩
  cases h2 : dnB b
  · have HE := Lib.hid (under_no (d := d) (b := b) (.inr (.inl h2)))
    go_enter Try.func22, Try.ntmps22
    go_wp2_with fail
    refine (DnRight_any _ _ _ _ hda hfa).mono ?_
    rintro e w1 ⟨rfl, hb1⟩
    rw [h1]
    go_wp2_with fail
    refine (DnRight_any _ _ _ _ (hdb.below hb1) hfb).mono ?_
    rintro e w2 ⟨rfl, hb2⟩
    rw [h2]
    go_wp2
    go_ret
    exact ⟨ret_bool HE.out.symm, hb1.trans (hb2.mono hb1.size)⟩
  by_cases h3 : d.length < b.length
  · have HE := Lib.hid (under_no (d := d) (b := b) (.inr (.inr h3)))
    go_enter Try.func22, Try.ntmps22
    go_wp2_with fail
    refine (DnRight_any _ _ _ _ hda hfa).mono ?_
    rintro e w1 ⟨rfl, hb1⟩
    rw [h1]
    go_wp2_with fail
    refine (DnRight_any _ _ _ _ (hdb.below hb1) hfb).mono ?_
    rintro e w2 ⟨rfl, hb2⟩
    rw [h2]
    go_wp2
    go_ret
    exact ⟨ret_bool HE.out.symm, hb1.trans (hb2.mono hb1.size)⟩
  · have HE := Lib.hid (under_yes h1 h2 (by omega))
    go_enter Try.func22, Try.ntmps22
    go_wp2_with fail
    refine (DnRight_any _ _ _ _ hda hfa).mono ?_
    rintro e w1 ⟨rfl, hb1⟩
    rw [h1]
    go_wp2_with fail
    refine (DnRight_any _ _ _ _ (hdb.below hb1) hfb).mono ?_
    rintro e w2 ⟨rfl, hb2⟩
    rw [h2]
    have hb12 := hb1.trans (hb2.mono hb1.size)
    obtain ⟨ao', hcut, hdr⟩ := cut27 w2 ao d (d.length - b.length) ca (by omega) hc (hda.below hb12)
    rw [show ((d.length - b.length : Nat) : Int) = (d.length : Int) - (b.length : Int) by omega] at hcut
    have HL : Hid ((d.drop (d.length - b.length)).length = d.length - (d.length - b.length)) := Lib.hid (List.length_drop ..)
    have HS := Lib.hid (sameRdns_any ao' bo (d.drop (d.length - b.length)) b (ca - (d.length - b.length)) cb w2 hdr (hdb.below hb12) (hfa.drop _) hfb)
    rw [HL.out] at HS
    have HDR := Lib.hid hdr
    clear hdr
    go_wp2_with fail
    refine HS.out.mono ?_
    rintro e w3 ⟨rfl, hb3⟩
    go_wp2
    go_ret
    exact ⟨ret_bool HE.out.symm, hb12.trans (hb3.mono hb12.size)⟩
theorem dnB_drop {d : RdnL} (h : dnB d = true) (k : Nat) : dnB (d.drop k) = true := by
  have h1 := dnB_six h
  have h2 := dnB_all_of h
  unfold dnB
  rw [Bool.and_eq_true]
  refine ⟨decide_eq_true (by rw [List.length_drop]; omega), ?_⟩
  rw [List.all_eq_true] at h2 ⊢
  exact fun x hx => h2 x (List.mem_of_mem_drop hx)
set_option maxHeartbeats 1000000 in
theorem SpecDnUnder_any (ao bo : Option Addr) (d b : RdnL) (ca cb : Nat) (w : World) (hc : d.length ≤ ca) (hda : DnAt w ao d) (hdb : DnAt w bo b) (hfa : Fits d) (hfb : Fits b) :
    Calls Try.prog 23 #[.slice ao d.length ca, .slice bo b.length cb] w fun e w' => e = .returned (.bool (underB d b)) ∧ Below w.heap.size w w' := by
  have hla := hfa.1
  have hlb := hfb.1
  by_cases h4 : 400 < d.length
  · have HE := Lib.hid (under_no (d := d) (b := b) (.inl (dnB_long (by omega))))
    clear hda hdb hfa hfb
    go_enter Try.func23, Try.ntmps23
    go_wp2
    go_ret
    exact ⟨ret_bool HE.out.symm, Below.refl _ _⟩
  by_cases h5 : 400 < b.length
  · have HE := Lib.hid (under_no (d := d) (b := b) (.inr (.inl (dnB_long (by omega)))))
    clear hda hdb hfa hfb
    go_enter Try.func23, Try.ntmps23
    go_wp2
    go_ret
    exact ⟨ret_bool HE.out.symm, Below.refl _ _⟩
  cases h1 : dnB d
  · have HE := Lib.hid (under_no (d := d) (b := b) (.inl h1))
    go_enter Try.func23, Try.ntmps23
    go_wp2_with fail
    refine (SpecDnRight_any _ _ _ _ hda hfa).mono ?_
    rintro e w1 ⟨rfl, hb1⟩
    rw [h1]
    go_wp2
    go_ret
    exact ⟨ret_bool HE.out.symm, hb1⟩
  cases h2 : dnB b
  · have HE := Lib.hid (under_no (d := d) (b := b) (.inr (.inl h2)))
    go_enter Try.func23, Try.ntmps23
    go_wp2_with fail
    refine (SpecDnRight_any _ _ _ _ hda hfa).mono ?_
    rintro e w1 ⟨rfl, hb1⟩
    rw [h1]
    go_wp2_with fail
    refine (SpecDnRight_any _ _ _ _ (hdb.below hb1) hfb).mono ?_
    rintro e w2 ⟨rfl, hb2⟩
    rw [h2]
    go_wp2
    go_ret
    exact ⟨ret_bool HE.out.symm, hb1.trans (hb2.mono hb1.size)⟩
  by_cases h3 : d.length < b.length
  · have HE := Lib.hid (under_no (d := d) (b := b) (.inr (.inr h3)))
    go_enter Try.func23, Try.ntmps23
    go_wp2_with fail
    refine (SpecDnRight_any _ _ _ _ hda hfa).mono ?_
    rintro e w1 ⟨rfl, hb1⟩
    rw [h1]
    go_wp2_with fail
    refine (SpecDnRight_any _ _ _ _ (hdb.below hb1) hfb).mono ?_
    rintro e w2 ⟨rfl, hb2⟩
    rw [h2]
    go_wp2
    go_ret
    exact ⟨ret_bool HE.out.symm, hb1.trans (hb2.mono hb1.size)⟩
  · have HE : Hid (underB d b = ((keyS (d.drop (d.length - b.length))).toList == (keyS b).toList)) := Lib.hid (by
      rw [under_yes h1 h2 (by omega), key_same (dnB_all_of (dnB_drop h1 _)) (dnB_all_of h2)])
    have a6 := dnB_six (dnB_drop h1 (d.length - b.length))
    have b6 := dnB_six h2
    go_enter Try.func23, Try.ntmps23
    go_wp2_with fail
    refine (SpecDnRight_any _ _ _ _ hda hfa).mono ?_
    rintro e w1 ⟨rfl, hb1⟩
    rw [h1]
    go_wp2_with fail
    refine (SpecDnRight_any _ _ _ _ (hdb.below hb1) hfb).mono ?_
    rintro e w2 ⟨rfl, hb2⟩
    rw [h2]
    have hb12 := hb1.trans (hb2.mono hb1.size)
    obtain ⟨ao', hcut, hdr⟩ := cut27 w2 ao d (d.length - b.length) ca (by omega) hc (hda.below hb12)
    rw [show ((d.length - b.length : Nat) : Int) = (d.length : Int) - (b.length : Int) by omega] at hcut
    have HL : Hid ((d.drop (d.length - b.length)).length = d.length - (d.length - b.length)) := Lib.hid (List.length_drop ..)
    have HS := Lib.hid (l02Key_any ao' (d.drop (d.length - b.length)) (ca - (d.length - b.length)) w2 hdr (hfa.drop _) a6)
    rw [HL.out] at HS
    have HDR := Lib.hid hdr
    clear hdr a6
    go_wp2_with fail
    refine HS.out.mono ?_
    rintro e w3 ⟨rfl, hb3⟩
    have hb13 := hb12.trans (hb3.mono hb12.size)
    go_wp2_with fail
    refine (l02Key_any _ _ _ _ (hdb.below hb13) hfb b6).mono ?_
    rintro e w4 ⟨rfl, hb4⟩
    go_wp2
    go_ret
    exact ⟨ret_bool HE.out.symm, hb13.trans (hb4.mono hb13.size)⟩
end Go.Proofs.Ytjajpdghamecoaa
/- concat: what the program's text returns. -/
namespace Go.Proofs.Ytjajpdghamecoaa
open Go.RowKit

def joinL (ss : List ByteArray) : List UInt8 := ss.flatMap (fun s => s.data.toList)
def joinS (ss : List ByteArray) : ByteArray := ⟨(joinL ss).toArray⟩
theorem joinL_snoc (ss : List ByteArray) (s : ByteArray) : joinL (ss ++ [s]) = joinL ss ++ s.data.toList := by simp [joinL]
theorem joinL_split (ss : List ByteArray) (k : Nat) : joinL ss = joinL (ss.take k) ++ joinL (ss.drop k) := by
  have h := List.take_append_drop k ss
  unfold joinL
  rw [← List.flatMap_append, h]
theorem joinL_take_le (ss : List ByteArray) (k : Nat) : (joinL (ss.take k)).length ≤ (joinL ss).length := by
  rw [joinL_split ss k]; simp
theorem joinL_take_succ (ss : List ByteArray) (k : Nat) (h : k < ss.length) : joinL (ss.take (k + 1)) = joinL (ss.take k) ++ (ss[k]).data.toList := by
  rw [List.take_succ_eq_append_getElem h, joinL_snoc]
theorem modify_push {α : Type} (A : Array α) (x : α) (f : α → α) : (A.push x).modify A.size f = A.push (f x) := by
  apply Array.ext_getElem?
  intro i
  rw [Array.getElem?_modify, Array.getElem?_push, Array.getElem?_push]
  by_cases h : A.size = i
  · subst h; simp
  · rw [if_neg h, if_neg (fun e => h e.symm), if_neg (fun e => h e.symm)]
theorem setRow_alloc (w : World) (C X : Array Value) : (w.alloc (.cells C 5)).setRow w.heap.size X = w.alloc (.cells X 5) := by
  unfold World.setRow World.alloc
  simp only [modify_push]
theorem info5size : (Try.prog.info? 5).map (·.size) = some 1 := by kernel_rfl

/-- out[at:] and the copy of s into it -/
theorem cut_copy (w : World) (C : Array Value) (n k : Nat) (s : ByteArray) (hC : C.size = n) (hk : k + s.size ≤ n) :
    ∃ A : Addr, (∀ W : World, (Instr.slice 22 (.slice (some ⟨w.heap.size, 0, none⟩) n n) (some (.int .i64 (k : Int))) none none).run Try.prog W = .ok (.slice (some A) (n - k) (n - k)) W) ∧
      (Builtin.copy_ #[22, 9] 3 #[.slice (some A) (n - k) (n - k), .string s]).run Try.prog (w.alloc (.cells C 5)) =
        .ok (.int .i64 (s.size : Int)) (w.alloc (.cells (C.toList.take k ++ bs s.data.toList ++ C.toList.drop (k + s.size)).toArray 5)) := by
  refine ⟨if n = k then ⟨w.heap.size, 0, none⟩ else ⟨w.heap.size, k, none⟩, fun W => ?_, ?_⟩
  · rw [run_slice_l W 22 (some ⟨w.heap.size, 0, none⟩) n n (by rw [Try.elem22]; exact Try.underlying22) .i64 (k : Int) (by omega) (by omega), Try.elem22, Try.size5]
    simp [Result.andThen, sliced]
    split <;> simp [add_plain]
  · by_cases e : n = k
    · have hs0 : s.size = 0 := by omega
      rw [if_pos e, Lib.run_copy_empty_string _ 22 9 3 5 _ _ _ s Try.underlying22 (by rw [info5size]; rfl) hs0]
      have hl : s.data.toList = [] := List.eq_nil_of_length_eq_zero (by rw [size_len]; exact hs0)
      rw [hl, hs0]
      have hL : C.toList.length = n := by simpa using hC
      simp [bs, goInt]
    · rw [if_neg e, Lib.run_copy_row_string _ 22 9 3 5 w.heap.size k (n - k) (n - k) s C 5 Try.underlying22 info5size (heap_alloc_new w _) (by omega) (by omega), setRow_alloc]
      rfl

/-- what the copied row holds -/
theorem copied (C : Array Value) (n k : Nat) (l m : List UInt8) (hC : C.size = n) (hl : l.length = k) (hk : k + m.length ≤ n) (hp : C.toList.take k = bs l) :
    (C.toList.take k ++ bs m ++ C.toList.drop (k + m.length)).toArray.size = n ∧
      (C.toList.take k ++ bs m ++ C.toList.drop (k + m.length)).toArray.toList.take (k + m.length) = bs (l ++ m) := by
  have hL : C.toList.length = n := by simpa using hC
  refine ⟨by simp [bs_length]; omega, ?_⟩
  rw [hp]
  have : bs (l ++ m) = bs l ++ bs m := by simp [bs]
  have hlen : (bs l ++ bs m).length = k + m.length := by simp [bs_length, hl]
  rw [this, ← hlen]
  exact List.take_left

theorem cut_copied (w : World) (C : Array Value) (n : Nat) (l : List UInt8) (s : ByteArray) (hC : C.size = n) (hk : l.length + s.size ≤ n) (hp : C.toList.take l.length = bs l) :
    ∃ (A : Addr) (X : Array Value), (X.size = n ∧ X.toList.take (l.length + s.size) = bs (l ++ s.data.toList)) ∧
      (∀ W : World, (Instr.slice 22 (.slice (some ⟨w.heap.size, 0, none⟩) n n) (some (.int .i64 (l.length : Int))) none none).run Try.prog W = .ok (.slice (some A) (n - l.length) (n - l.length)) W) ∧
      (Builtin.copy_ #[22, 9] 3 #[.slice (some A) (n - l.length) (n - l.length), .string s]).run Try.prog (w.alloc (.cells C 5)) = .ok (.int .i64 (s.size : Int)) (w.alloc (.cells X 5)) := by
  obtain ⟨A, h1, h2⟩ := cut_copy w C n l.length s hC hk
  have h3 := copied C n l.length l s.data.toList hC rfl (by rw [size_len]; exact hk) hp
  rw [size_len] at h3
  exact ⟨A, _, h3, h1, h2⟩

set_option maxRecDepth 100000 in
set_option maxHeartbeats 400000 in
theorem concat_any (b off cap : Nat) (ss : List ByteArray) (w : World) (hm : ss.length ≤ 1000000) (hb : b < w.heap.size) (hlen : (joinL ss).length ≤ 1000000000)
    (hcell : ∀ i (hi : i < ss.length), w.cell? ⟨b, off + i, none⟩ = some (.string ss[i])) :
    Calls Try.prog 84 #[.slice (some ⟨b, off, none⟩) ss.length cap] w fun e w' => e = .returned (.string (joinS ss)) ∧ Below w.heap.size w w' := by
  have Hc := Lib.hid hcell; clear hcell
  have hmk := fun (n : Nat) (h : n ≤ 1000000000) => run_make_row' (P := Try.prog) 22 5 (.int .u8 0) 1 Try.underlying22 Try.info5 rfl .i64 .i64 n (by omega) (by omega)
  have Hmk := Lib.hid hmk; clear hmk
  go_enter Try.func84, Try.ntmps84
  go_wp2
  go_loop [3, 12] (fun t i => ∃ k : Nat, k ≤ ss.length ∧ i = .int .i64 k ∧ t = .int .i64 ((joinL (ss.take k)).length : Nat)) (fun _ i => ss.length - (intOf i).toNat)
  case atStart => exact ⟨0, Nat.zero_le _, rfl, rfl⟩
  case round =>
    obtain ⟨k, hk, rfl, rfl⟩ := hrel
    have hle := joinL_take_le ss k
    by_cases hlt : k < ss.length
    · have hck := Hc.out k hlt
      have hs2 := joinL_take_le ss (k + 1)
      have HS := Lib.hid (joinL_take_succ ss k hlt)
      rw [HS.out, List.length_append, size_len] at hs2
      generalize hq : (joinL (ss.take k)).length = q at *
      have Hq := Lib.hid hq; clear hq
      go_wp2
      go_round
      case rel => exact ⟨k + 1, by omega, by go_num, by rw [HS.out, List.length_append, Hq.out, size_len]; go_num⟩
      case measure => simp [intOf]; omega
    · have e : ss.take k = ss := List.take_of_length_le (by omega)
      rw [e]
      clear e hle
      have hM := Hmk.out _ hlen w
      generalize hn : (joinL ss).length = n at *
      have Hn := Lib.hid hn; clear hn
      have hMz : (madeCells #[Value.int IntKind.u8 0] n).size = n := size_madeCells _ _
      generalize madeCells #[Value.int IntKind.u8 0] n = M at *
      have HM := Lib.hid hMz; clear hMz
      go_wp2
      go_loopw [7, 25] (fun t i wr => ∃ (j : Nat) (C : Array Value), j ≤ ss.length ∧ i = .int .i64 j ∧ t = .int .i64 ((joinL (ss.take j)).length : Nat) ∧ C.size = n ∧ C.toList.take (joinL (ss.take j)).length = bs (joinL (ss.take j)) ∧ wr = w.alloc (.cells C 5)) (fun _ i _ => ss.length - (intOf i).toNat)
      case atStart => exact ⟨0, M, Nat.zero_le _, rfl, rfl, HM.out, by simp [joinL, bs], rfl⟩
      case round =>
        clear hM HM
        obtain ⟨j, C, hj, rfl, rfl, hC, hp, rfl⟩ := hrel
        have HC := Lib.hid hC; clear hC
        have Hp := Lib.hid hp; clear hp
        by_cases hjlt : j < ss.length
        · have hck : (w.alloc (.cells C 5)).cell? ⟨b, off + j, none⟩ = some (.string ss[j]) := by
            rw [(Below.refl w.heap.size w |>.alloc (Nat.le_refl _) (.cells C 5)).cell hb]; exact Hc.out j hjlt
          have hs2 := joinL_take_le ss (j + 1)
          have HS := Lib.hid (joinL_take_succ ss j hjlt)
          rw [HS.out, List.length_append, size_len, Hn.out] at hs2
          obtain ⟨A, X, hX, hsl, hcp⟩ := cut_copied w C n (joinL (ss.take j)) ss[j] HC.out hs2 Hp.out
          have HX := Lib.hid hX; clear hX
          generalize hq : (joinL (ss.take j)).length = q at *
          have Hq := Lib.hid hq; clear hq
          go_wp2
          go_roundw
          case rel =>
            refine ⟨j + 1, X, by omega, by go_num, ?_, HX.out.1, ?_, rfl⟩
            · rw [HS.out, List.length_append, Hq.out, size_len]; go_num
            · rw [HS.out, List.length_append, Hq.out, size_len]; exact HX.out.2
          case measure => simp [intOf]; omega
        · have e : ss.take j = ss := List.take_of_length_le (by omega)
          have h1 := Hp.out
          rw [e, Hn.out] at h1
          rw [e, Hn.out]
          have hstr := str22 (w.alloc (.cells C 5)) ⟨w.heap.size, 0, none⟩ n (joinL ss) n Hn.out (fun i hi => by
            rw [add_plain, World.cell?_alloc_mark]
            have h2 : C.toList[i]? = (bs (joinL ss))[i]? := by rw [← h1, List.getElem?_take_of_lt (by rw [← Hn.out]; exact hi)]
            rw [← Array.getElem?_toList, h2]
            simp [bs, List.getElem?_eq_getElem hi])
          clear e h1
          go_wp2
          go_ret
          exact ⟨rfl, (Below.refl _ _).alloc (Nat.le_refl _) _⟩
theorem joinS_one (a : ByteArray) : joinS [a] = a := by
  apply ByteArray.ext
  simp [joinS, joinL]
theorem joinS_two (a b : ByteArray) : joinS [a, b] = a ++ b := by
  apply ByteArray.ext
  simp [joinS, joinL]
theorem concat_one (a : ByteArray) (w : World) (h : a.size ≤ 1000000) :
    Calls Try.prog 84 #[.slice (some ⟨w.heap.size, 0, none⟩) 1 1] (w.alloc (.cells #[.string a] 9)) fun e w' => e = .returned (.string a) ∧ Below w.heap.size w w' := by
  have := concat_any w.heap.size 0 1 [a] (w.alloc (.cells #[.string a] 9)) (by simp) (by simp) (by simp [joinL]; omega) (fun i hi => by
    match i, hi with
    | 0, _ => simp)
  rw [joinS_one] at this
  exact this.mono fun e w' ⟨he, hb⟩ => ⟨he, ((Below.refl _ _).alloc (Nat.le_refl _) _).trans (hb.mono (by simp))⟩
end Go.Proofs.Ytjajpdghamecoaa
/- joinRdns: what the program's text returns. -/
namespace Go.Proofs.Ytjajpdghamecoaa
open Go.RowKit
attribute [local go_sem ↓] Go.wp_at_zero Go.wp_at_succ

theorem more {w0 W : World} (h : Below w0.heap.size w0 W) (o : Obj) : Below w0.heap.size w0 (W.alloc o) := h.alloc h.size o
/-- a copy of a string -/
theorem concat_at (w0 : World) (B : Nat) (a : ByteArray) (w : World) (ha : a.size ≤ 1048576) (hB : B < w.heap.size) (hc : w.cell? ⟨B, 0, none⟩ = some (.string a)) (hb : Below w0.heap.size w0 w) :
    Calls Try.prog 84 #[.slice (some ⟨B, 0, none⟩) 1 1] w fun e w' => e = .returned (.string a) ∧ Below w0.heap.size w0 w' ∧ Below w.heap.size w w' := by
  have := concat_any B 0 1 [a] w (by simp) hB (by simp [joinL]; omega) (fun i hi => by
    match i, hi with
    | 0, _ => exact hc)
  rw [joinS_one] at this
  exact this.mono fun e w' ⟨he, h⟩ => ⟨he, hb.trans (h.mono hb.size), h⟩
theorem wp_world {P : Program} {c : Code} {Q : Exit → Act → World → Prop} {a : Act} {w : World} (R : World → Prop) (h : R w) (k : ∀ W, R W → c.wp P Q a W) : c.wp P Q a w := k w h
theorem keep_two {W w2 : World} {R : Nat} {A V : Value} (hb : Below W.heap.size W w2) (h : W.cell? ⟨R, 0, none⟩ = some A ∧ W.cell? ⟨R, 1, none⟩ = some V) : w2.cell? ⟨R, 0, none⟩ = some A ∧ w2.cell? ⟨R, 1, none⟩ = some V :=
  ⟨(hb.cell (p := ⟨R, 0, none⟩) (World.block_lt_of_cell? _ _ h.1)).trans h.1, (hb.cell (p := ⟨R, 1, none⟩) (World.block_lt_of_cell? _ _ h.2)).trans h.2⟩
theorem keep_far {W w2 : World} {R : Nat} {A V : Value} {row : Option Nat} (hg : W.grownBy w2 row) (hne : row ≠ some R) (h : W.cell? ⟨R, 0, none⟩ = some A ∧ W.cell? ⟨R, 1, none⟩ = some V) : w2.cell? ⟨R, 0, none⟩ = some A ∧ w2.cell? ⟨R, 1, none⟩ = some V :=
  ⟨(hg.cell_far ⟨R, 0, none⟩ (World.block_lt_of_cell? _ _ h.1) (Ne.symm hne)).trans h.1, (hg.cell_far ⟨R, 1, none⟩ (World.block_lt_of_cell? _ _ h.2) (Ne.symm hne)).trans h.2⟩
section
variable {ops : Array Oper} {o : Oper} {a : Act} {Q : Exit → Act → World → Prop} {K : Act → World → Prop} {E : Prop} {w0 wr : World}
theorem step_rdn2 (B : Nat) (hgd : o.guard = none) (s x : Operand)
    (ho : o.op = .call { callee := .builtin .append, args := #[s, x], argTypes := #[23, 23] }) (v : Value) (pre : RdnL) (hs : a.eval s = v) (hown : wr.ownsRow B 61 2 v pre.length (rs pre))
    (A V : ByteArray) (hx : a.eval x = .slice (some ⟨wr.heap.size, 0, none⟩) 1 1) (hlen : pre.length ≤ 1000000000) (hB : B ≤ wr.heap.size) (hbel : Below B w0 wr)
    (h : ∀ g cap w', w'.ownsRow B 61 2 (.slice (some ⟨g, 0, none⟩) (pre.length + 1) cap) (pre ++ [(A, V)]).length (rs (pre ++ [(A, V)])) → Below B w0 w' → (wr.alloc (.cells #[.string A, .string V] 61)).grownBy w' v.ownBlock → K (a.put o.dst (.slice (some ⟨g, 0, none⟩) (pre.length + 1) cap)) w') :
    if Region.wanted o (yielded ops a.tmps) = true then Oper.wp Try.prog o a (wr.alloc (.cells #[.string A, .string V] 61)) K Q else E := by
  obtain ⟨i0, hi, hz0, hz1, hz2⟩ := info_parts Try.info61
  refine step_append_lies _ hgd s x 23 ho B 61 i0 _ 2 32 Try.underlying23 hi hz0 hz1 hz2 rfl (by decide) v pre.length (rs pre) hs (hown.alloc _) ⟨wr.heap.size, 0, none⟩ 1 1 [.string A, .string V] hx rfl (World.news_of_block (cs := #[.string A, .string V]) (t := 61) (fr := (0, 0)) (heap_alloc_new wr _)) ?_ (by omega) ?_ ?_ ?_ (wr.heap.size + 1) (by simp) ?_
  · intro u hu; simp at hu; rcases hu with rfl | rfl <;> rfl
  · unfold maxLen; omega
  · omega
  · simp; omega
  · intro g cap w' h1 h2 h3 h4
    have hb' : Below B w0 w' := (hbel.alloc hB _).grown h2 (by simp; omega) (fun k hk => (hown.lt k hk).1)
    refine h g cap w' ?_ hb' h2
    rw [rs_snoc]; simpa using h1
end
/-- lists of names, as slices -/
def PartsAt (w : World) (pb po : Nat) (ps : List (Option Addr × Nat × RdnL)) : Prop :=
  pb < w.heap.size ∧ ∀ i (h : i < ps.length), w.cell? ⟨pb, po + i, none⟩ = some (.slice ps[i].1 ps[i].2.2.length ps[i].2.1) ∧ DnAt w ps[i].1 ps[i].2.2 ∧ Fits ps[i].2.2
theorem PartsAt.below {w w' : World} {pb po : Nat} {ps : List (Option Addr × Nat × RdnL)} (h : PartsAt w pb po ps) (hb : Below w.heap.size w w') : PartsAt w' pb po ps :=
  ⟨Nat.lt_of_lt_of_le h.1 hb.size, fun i hi => ⟨(hb.cell (p := ⟨pb, _, none⟩) h.1).trans (h.2 i hi).1, (h.2 i hi).2.1.below hb, (h.2 i hi).2.2⟩⟩
def flat (ps : List (Option Addr × Nat × RdnL)) : RdnL := ps.flatMap (·.2.2)
theorem flat_succ (ps : List (Option Addr × Nat × RdnL)) (k : Nat) (h : k < ps.length) : flat (ps.take (k + 1)) = flat (ps.take k) ++ ps[k].2.2 := by
  unfold flat; rw [List.take_succ_eq_append_getElem h, List.flatMap_append]; simp

theorem flat_len (ps : List (Option Addr × Nat × RdnL)) (h : ∀ p ∈ ps, p.2.2.length ≤ 1048576) : (flat ps).length ≤ ps.length * 1048576 := by
  induction ps with
  | nil => simp [flat]
  | cons p ps ih =>
    have h1 := ih (fun x hx => h x (List.mem_cons_of_mem _ hx))
    have h2 := h p (List.mem_cons_self ..)
    have e : flat (p :: ps) = p.2.2 ++ flat ps := by unfold flat; simp
    rw [e, List.length_append, List.length_cons, Nat.add_mul]; omega
theorem PartsAt.len {w : World} {pb po : Nat} {ps : List (Option Addr × Nat × RdnL)} (h : PartsAt w pb po ps) (hm : ps.length ≤ 10) (k : Nat) : (flat (ps.take k)).length ≤ 100000000 := by
  have := flat_len (ps.take k) (fun p hp => by
    obtain ⟨i, hi, rfl⟩ := List.getElem_of_mem (List.mem_of_mem_take hp)
    exact (h.2 i hi).2.2.1)
  have h2 : (ps.take k).length ≤ 10 := by rw [List.length_take]; omega
  omega
end Go.Proofs.Ytjajpdghamecoaa
