/- Merged texts: Scan2, Scan3, Cut, Cut2, Rdn2, Parent, JoinD, JoinD2, Read, Read2, Read3, Law1, Law2, EntMath. -/
import Derived.Test.YtjajpdghamecoaaM2
import Derived.Laws.AppendOwnNone
import Derived.Laws.MakeOwn
/- Reading names: scanDn of the program. -/
namespace Go.Proofs.Ytjajpdghamecoaa
open Go.RowKit

def att (l : List UInt8) : List UInt8 := l.takeWhile (· != 61)
def vlu (l : List UInt8) : List UInt8 := (l.dropWhile (· != 61)).drop 1
def CutAt (s : ByteArray) (e : Ending) : Prop := ∃ b : Bool, e = .returned (.tuple #[.string (toS (att s.data.toList)), .string (toS (vlu s.data.toList)), .bool b])
theorem ext_take (s : ByteArray) (k : Nat) : s.extract 0 k = toS (s.data.toList.take k) := by
  apply ByteArray.ext; apply Array.toList_inj.1; rw [extract_list]; simp [toS]
theorem ext_drop (s : ByteArray) (k : Nat) : s.extract k s.size = toS (s.data.toList.drop k) := by
  apply ByteArray.ext; apply Array.toList_inj.1; rw [extract_list, List.take_of_length_le (by simp)]; simp [toS]
theorem below_drewN (w : World) (n : Nat) : Below w.heap.size w (w.drewN n) := ⟨rfl, rfl, rfl, Nat.le_refl _, fun _ _ => rfl⟩
set_option maxHeartbeats 1000000 in
theorem cutIn_any (s : ByteArray) (w : World) (hs : s.size ≤ 1048576) :
    Calls Try.prog 125 #[.string s, .string ⟨#[61]⟩] w fun e w' => CutAt s e ∧ Below w.heap.size w w' := by
  rcases idx s.data.toList with ⟨h1, h2, h3⟩ | ⟨k, hk, h1, h2, h3⟩
  · have HR : Hid (toS (att s.data.toList) = s ∧ toS (vlu s.data.toList) = ByteArray.empty) := Lib.hid ⟨by unfold att; rw [h2, toS_self], by unfold vlu; rw [h3]; rfl⟩
    have HI := Lib.hid (Try.stringslite_Index_one s 61 w)
    rw [h1] at HI
    clear h1 h2 h3
    go_enter Try.func125, Try.ntmps125
    go_wp2_with fail
    refine HI.out.mono ?_
    rintro e w1 ⟨rfl, hw⟩
    subst hw
    go_wp2
    go_ret3
    exact ⟨⟨false, by rw [HR.out.1, HR.out.2]; rfl⟩, Below.refl _ _⟩
  · have hk' : k < s.size := by simpa using hk
    have HR : Hid (toS (att s.data.toList) = s.extract 0 k ∧ toS (vlu s.data.toList) = s.extract (k + 1) s.size) := Lib.hid ⟨by unfold att; rw [← h2, ext_take], by unfold vlu; rw [← h3, List.drop_drop, ext_drop]⟩
    have HI := Lib.hid (Try.stringslite_Index_one s 61 w)
    rw [h1] at HI
    clear h1 h2 h3 hk
    have g1 : (0 : Int) ≤ (k : Int) := by omega
    have g2 : (k : Int) ≤ (s.size : Int) := by omega
    have g3 : (0 : Int) ≤ (k : Int) + 1 := by omega
    have g4 : (k : Int) + 1 ≤ (s.size : Int) := by omega
    have g5 : ((k : Int) + 1).toNat = k + 1 := by omega
    go_enter Try.func125, Try.ntmps125
    go_wp2_with fail
    refine HI.out.mono ?_
    rintro e w1 ⟨rfl, hw⟩
    subst hw
    go_wp2
    have g6 : IntKind.i64.wrap ((k : Int) + 1) = (k : Int) + 1 := IntWalk.i64_in _ (by omega)
    go_quiet (fail)
    go_wp2
    go_ret3
    exact ⟨⟨true, by rw [HR.out.1, HR.out.2]; rfl⟩, below_drewN _ _⟩
set_option maxHeartbeats 400000 in
theorem cut_any (s : ByteArray) (w : World) (hs : s.size ≤ 1048576) :
    Calls Try.prog 95 #[.string s, .string ⟨#[61]⟩] w fun e w' => CutAt s e ∧ Below w.heap.size w w' := by
  go_enter Try.func95, Try.ntmps95
  go_wp2_with fail
  refine (cutIn_any s w hs).mono ?_
  rintro e w1 ⟨⟨b, rfl⟩, hb1⟩
  go_wp2
  go_ret3
  exact ⟨⟨b, rfl⟩, hb1⟩
end Go.Proofs.Ytjajpdghamecoaa
/- Reading names: scanDn of the program. -/
namespace Go.Proofs.Ytjajpdghamecoaa
open Go.RowKit

def strOf : Value → ByteArray
  | .string s => s
  | _ => ByteArray.empty
theorem takeWhile_len (l : List UInt8) : (att l).length ≤ l.length := by unfold att; exact (List.takeWhile_sublist _).length_le
theorem vlu_len (l : List UInt8) : (vlu l).length ≤ l.length := by
  unfold vlu
  rw [List.length_drop]
  have : (l.dropWhile (· != 61)).length ≤ l.length := (List.dropWhile_sublist _).length_le
  omega
theorem toS_size (l : List UInt8) : (toS l).size = l.length := by rw [← size_len, toS_list]
theorem scan_step (s : ByteArray) (h : 0 < s.size) : scanL s.data.toList = [rdn1 (s.data.toList.take (endF false s.data.toList))] ++ scanL (s.data.toList.drop (endF false s.data.toList + 1)) := by
  rw [scanL_cons (by intro e; have := size_len s; rw [e] at this; simp at this; omega)]; rfl
set_option maxRecDepth 100000 in
set_option maxHeartbeats 1000000 in
theorem scanDn_any (t : ByteArray) (w : World) (ht : t.size ≤ 8000) :
    Calls Try.prog 52 #[.string t] w fun e w' => (∃ v, e = .returned v ∧ w'.ownsRow w.heap.size 61 2 v (scanL t.data.toList).length (rs (scanL t.data.toList))) ∧ Below w.heap.size w w' := by
  have hsl := scanL_len t.data.toList
  rw [size_len] at hsl
  go_enter Try.func52, Try.ntmps52
  go_wp2
  go_loopw [0, 3] (fun u v wr => ∃ (s : ByteArray) (pre : RdnL), u = .string s ∧ s.size ≤ 8000 ∧ scanL t.data.toList = pre ++ scanL s.data.toList ∧ wr.ownsRow w.heap.size 61 2 v pre.length (rs pre) ∧ Below w.heap.size w wr) (fun u _ _ => (strOf u).size)
  case atStart => exact ⟨t, [], rfl, ht, rfl, ⟨rfl, .inl ⟨rfl, rfl⟩⟩, Below.refl _ _⟩
  case round =>
    obtain ⟨s, pre, rfl, hs, hS, hown, hbel⟩ := hrel
    have hpl : pre.length ≤ 8000 := by
      have := congrArg List.length hS
      rw [List.length_append] at this; omega
    have HS := Lib.hid hS; clear hS
    have HO := Lib.hid hown; clear hown
    have hsz := hbel.size
    by_cases h0 : 0 < s.size
    · have hle := endF_le false s.data.toList
      rw [size_len] at hle
      have HST := Lib.hid (scan_step s h0)
      have HEn := Lib.hid (fun w => rdnEnd_any s w (by omega))
      generalize hn : endF false s.data.toList = n at *
      clear hn
      have g1 : (0 : Int) ≤ (n : Int) := by omega
      have g2 : (n : Int) ≤ (s.size : Int) := by omega
      go_wp2_with fail
      refine (HEn.out _).mono ?_
      rintro e w1 ⟨rfl, rfl⟩
      have HX := Lib.hid (ext_take s n)
      have hxs : (s.extract 0 n).size ≤ 1048576 := by rw [HX.out, toS_size, List.length_take]; omega
      have HC := Lib.hid (fun w => cut_any (s.extract 0 n) w hxs)
      go_wp2_with fail
      refine (HC.out _).mono ?_
      rintro e w2 ⟨⟨fl, rfl⟩, hb2⟩
      have B2 := Lib.hid (hbel.trans (hb2.mono hsz))
      have HO2 := Lib.hid (own_below HO.out hb2)
      clear hb2
      have HA : Hid ((s.extract 0 n).data.toList = s.data.toList.take n) := Lib.hid (by rw [HX.out, toS_list])
      have ha : (toS (att (s.extract 0 n).data.toList)).size ≤ 1000000 := by
        rw [toS_size]; refine Nat.le_trans (takeWhile_len _) ?_; rw [size_len]; rw [HX.out, toS_size, List.length_take]; omega
      have hv : (toS (vlu (s.extract 0 n).data.toList)).size ≤ 1048576 := by
        rw [toS_size]; refine Nat.le_trans (vlu_len _) ?_; rw [size_len]; exact hxs
      have HR : Hid (rdn1 (s.data.toList.take n) = (toS (att (s.extract 0 n).data.toList), toS (unescF false (toS (vlu (s.extract 0 n).data.toList)).data.toList))) := Lib.hid (by rw [toS_list, HA.out]; rfl)
      generalize toS (att (s.extract 0 n).data.toList) = A at *
      generalize toS (vlu (s.extract 0 n).data.toList) = V at *
      go_wp2_with fail
      refine (concat_one A w2 ha).mono ?_
      rintro e w3 ⟨rfl, hb3⟩
      have B3 := Lib.hid (B2.out.trans (hb3.mono B2.out.size))
      have HO3 := Lib.hid (own_below HO2.out hb3)
      clear hb3
      go_wp2_with fail
      refine (unescapeValue_any V w3 hv).mono ?_
      rintro e w4 ⟨rfl, hb4⟩
      have B4 := Lib.hid (B3.out.trans (hb4.mono B3.out.size))
      have HO4 := Lib.hid (own_below HO3.out hb4)
      clear hb4
      generalize toS (unescF false V.data.toList) = U at *
      have HD : Hid ((s.extract (min ((n : Int) + 1) (s.size : Int)).toNat s.size).data.toList = s.data.toList.drop (n + 1)) := Lib.hid (by
        rw [ext_drop, toS_list]
        by_cases he : n < s.size
        · rw [show (min ((n : Int) + 1) (s.size : Int)).toNat = n + 1 by omega]
        · rw [List.drop_eq_nil_of_le (by rw [size_len]; omega), List.drop_eq_nil_of_le (by rw [size_len]; omega)])
      have HL : Hid ((s.extract (min ((n : Int) + 1) (s.size : Int)).toNat s.size).size < s.size) := Lib.hid (by
        rw [← size_len, HD.out, List.length_drop, size_len]; omega)
      go_wp2_with (first | (at_builtin; refine append_rdn w.heap.size rfl _ _ rfl _ pre rfl HO4.out (A, U) rfl (by omega) B4.out.size B4.out ?_; intro v' w5 hown5 hbel5 hsz5; have HO5 := Lib.hid hown5; clear hown5) | (fail "none"))
      refine ⟨⟨_, pre ++ [(A, U)], rfl, by have := HL.out; omega, ?_, HO5.out, hbel5⟩, HL.out⟩
      rw [HS.out, HST.out, HR.out, HD.out, List.append_assoc]
    · have HE : Hid (scanL t.data.toList = pre) := Lib.hid (by
        rw [HS.out, List.eq_nil_of_length_eq_zero (show s.data.toList.length = 0 by rw [size_len]; omega), scanL_nil, List.append_nil])
      go_wp2
      go_ret
      exact ⟨⟨_, rfl, by rw [HE.out]; exact HO.out⟩, hbel⟩
end Go.Proofs.Ytjajpdghamecoaa
/- Reading names: l02Cut of the specification. -/
namespace Go.Proofs.Ytjajpdghamecoaa
open Go.RowKit
attribute [local go_sem ↓] Go.wp_at_zero Go.wp_at_succ

/-- rows of different elements lie in different blocks -/
theorem own_apart {w : World} {B e e' z z' n n' : Nat} {v u : Value} {xs ys : List Value} (h : w.ownsRow B e z v n xs) (g : w.ownsRow B e' z' u n' ys) (hne : e ≠ e') : u.ownBlock = none ∨ u.ownBlock ≠ v.ownBlock := by
  rcases g.2 with ⟨rfl, _⟩ | ⟨k, cap, cur, rfl, _, hk, _⟩
  · exact .inl rfl
  · right
    rcases h.2 with ⟨rfl, _⟩ | ⟨k', cap', cur', rfl, _, hk', _⟩
    · simp [Value.ownBlock]
    · intro hh
      have : k = k' := by simpa [Value.ownBlock] using hh
      subst this
      rw [hk] at hk'
      injection hk' with hk'
      injection hk' with _ ht
      exact hne ht.symm
section
variable {ops : Array Oper} {rest : List Oper} {o : Oper} {a : Act} {Q : Exit → Act → World → Prop} {K : Act → World → Prop} {E : Prop} {w0 wr : World}
theorem append_byte2 (B : Nat) (hgd : o.guard = none) (s x : Operand)
    (ho : o.op = .call { callee := .builtin .append, args := #[s, x], argTypes := #[22, 22] }) (v : Value) (pre : List UInt8) (hs : a.eval s = v) (hown : wr.ownsRow B 5 1 v pre.length (bs pre))
    (c : UInt8) (n : Int) (hn : n = (c.toNat : Int)) (hx : a.eval x = .slice (some ⟨wr.heap.size, 0, none⟩) 1 1) (hlen : pre.length ≤ 1000000000) (hB : B ≤ wr.heap.size) (hbel : Below B w0 wr)
    (h : ∀ v' w', w'.ownsRow B 5 1 v' (pre ++ [c]).length (bs (pre ++ [c])) → Below B w0 w' → (wr.alloc (.cells #[.int .u8 n] 5)).grownBy w' v.ownBlock → wpList Try.prog ops Q rest (a.put o.dst v') w') :
    wpList Try.prog ops Q (o :: rest) a (wr.alloc (.cells #[.int .u8 n] 5)) := by
  obtain ⟨i0, hi, hz0, hz1, hz2⟩ := info_parts Try.info5
  subst hn
  refine wpList_append_own _ hgd s x 22 ho B 5 i0 (.int .u8 0) 1 1 Try.underlying22 hi hz0 hz1 hz2 rfl (by decide) v pre.length (bs pre) hs (hown.alloc _) ⟨wr.heap.size, 0, none⟩ 1 1 [.int .u8 (c.toNat : Int)] hx rfl (cell_one_new _ _ _) ?_ ?_ ?_ ?_ ?_
  · intro u hu; simp at hu; subst hu; rfl
  · unfold maxLen; omega
  · omega
  · simp; omega
  · intro v' w' h1 h2 h3
    refine h v' w' ?_ ((hbel.alloc hB _).grown h2 (by simp; omega) (fun k hk => (hown.lt k hk).1)) h2
    rw [bs_snoc]; simpa using h1
theorem step_two (B : Nat) (hgd : o.guard = none) (s x : Operand)
    (ho : o.op = .call { callee := .builtin .append, args := #[s, x], argTypes := #[22, 22] }) (v : Value) (pre : List UInt8) (hs : a.eval s = v) (hown : wr.ownsRow B 5 1 v pre.length (bs pre))
    (c d : UInt8) (hx : a.eval x = .slice (some ⟨wr.heap.size, 0, none⟩) 2 2) (hlen : pre.length ≤ 1000000000) (hB : B ≤ wr.heap.size) (hbel : Below B w0 wr)
    (h : ∀ g cap w', w'.ownsRow B 5 1 (.slice (some ⟨g, 0, none⟩) (pre.length + 2) cap) (pre ++ [c, d]).length (bs (pre ++ [c, d])) → Below B w0 w' → (wr.alloc (.cells #[.int .u8 (c.toNat : Int), .int .u8 (d.toNat : Int)] 5)).grownBy w' v.ownBlock → K (a.put o.dst (.slice (some ⟨g, 0, none⟩) (pre.length + 2) cap)) w') :
    if Region.wanted o (yielded ops a.tmps) = true then Oper.wp Try.prog o a (wr.alloc (.cells #[.int .u8 (c.toNat : Int), .int .u8 (d.toNat : Int)] 5)).drew K Q else E := by
  obtain ⟨i0, hi, hz0, hz1, hz2⟩ := info_parts Try.info5
  refine step_append_lies _ hgd s x 22 ho B 5 i0 _ 1 1 Try.underlying22 hi hz0 hz1 hz2 rfl (by decide) v pre.length (bs pre) hs ((hown.alloc _).drew) ⟨wr.heap.size, 0, none⟩ 2 2 [.int .u8 (c.toNat : Int), .int .u8 (d.toNat : Int)] hx rfl (World.news_of_block (cs := #[.int .u8 (c.toNat : Int), .int .u8 (d.toNat : Int)]) (t := 5) (fr := (0, 0)) (heap_alloc_new wr _)) ?_ (by omega) ?_ ?_ ?_ (wr.heap.size + 1) (by simp) ?_
  · intro u hu; simp at hu; rcases hu with rfl | rfl <;> rfl
  · unfold maxLen; omega
  · omega
  · simp; omega
  · intro g cap w' h1 h2 h3 h4
    have h2' : (wr.alloc (.cells #[.int .u8 (c.toNat : Int), .int .u8 (d.toNat : Int)] 5)).grownBy w' v.ownBlock := ⟨h2.os, h2.tape, h2.output, h2.size, h2.block⟩
    refine h g cap w' ?_ ((hbel.alloc hB _).grown h2' (by simp; omega) (fun k hk => (hown.lt k hk).1)) h2'
    have e : bs (pre ++ [c, d]) = bs pre ++ [.int .u8 (c.toNat : Int), .int .u8 (d.toNat : Int)] := by simp [bs]
    rw [e]; simpa using h1
end
def tss (l : List (List UInt8)) : List ByteArray := l.map toS
theorem tss_snoc (l : List (List UInt8)) (x : List UInt8) : tss (l ++ [x]) = tss l ++ [toS x] := by unfold tss; simp
theorem tss_len (l : List (List UInt8)) : (tss l).length = l.length := by unfold tss; simp
/-- what is known of the parts at byte k -/
def CutS (s : ByteArray) (outs : List (List UInt8)) (b : List UInt8) (k : Nat) : Prop := cutF [] s.data.toList = outs ++ cutF b (s.data.toList.drop k) ∧ outs.length ≤ k ∧ b.length ≤ k
theorem CutS.one {s : ByteArray} {outs : List (List UInt8)} {b : List UInt8} {k : Nat} (h : CutS s outs b k) (hk : k < s.size) (h44 : s[k] ≠ 44) (h92 : s[k] ≠ 92 ∨ k + 1 = s.size) : CutS s outs (b ++ [s[k]]) (k + 1) := by
  refine ⟨?_, by have := h.2.1; omega, by have := h.2.2; simp; omega⟩
  rw [h.1, drop_at s k hk]
  rcases he : s.data.toList.drop (k + 1) with _ | ⟨d, l⟩
  · rw [cutF_one, if_neg h44, cutF_nil]
  · have hne : s[k] ≠ 92 := by
      rcases h92 with h | h
      · exact h
      · rw [List.drop_eq_nil_of_le (by rw [size_len]; omega)] at he; cases he
    rw [cutF_two, if_neg hne, if_neg h44]
theorem CutS.comma {s : ByteArray} {outs : List (List UInt8)} {b : List UInt8} {k : Nat} (h : CutS s outs b k) (hk : k < s.size) (h44 : s[k] = 44) : CutS s (outs ++ [b]) [] (k + 1) := by
  refine ⟨?_, by have := h.2.1; simp; omega, by simp⟩
  rw [h.1, drop_at s k hk]
  rcases he : s.data.toList.drop (k + 1) with _ | ⟨d, l⟩
  · rw [cutF_one, if_pos h44, cutF_nil]; simp
  · rw [cutF_two, if_neg (by rw [h44]; decide), if_pos h44]; simp
theorem CutS.two {s : ByteArray} {outs : List (List UInt8)} {b : List UInt8} {k : Nat} (h : CutS s outs b k) (hk : k < s.size) (hk1 : k + 1 < s.size) (h92 : s[k] = 92) : CutS s outs (b ++ [s[k], s[k + 1]]) (k + 2) := by
  refine ⟨?_, by have := h.2.1; omega, by have := h.2.2; simp; omega⟩
  rw [h.1, drop_at s k hk, drop_at s (k + 1) hk1, cutF_two, if_pos h92]
theorem CutS.last {s : ByteArray} {outs : List (List UInt8)} {b : List UInt8} {k : Nat} (h : CutS s outs b k) (hk : ¬ k < s.size) : cutF [] s.data.toList = outs ++ [b] := by
  rw [h.1, List.drop_eq_nil_of_le (by rw [size_len]; omega), cutF_nil]
end Go.Proofs.Ytjajpdghamecoaa
/- Reading names: l02Cut of the specification. -/
namespace Go.Proofs.Ytjajpdghamecoaa
open Go.RowKit
attribute [local go_sem ↓] Go.wp_at_zero Go.wp_at_succ

theorem wpl_world {P : Program} {ops : Array Oper} {Q : Exit → Act → World → Prop} {l : List Oper} {a : Act} {w : World} (R : World → Prop) (h : R w) (k : ∀ W, R W → wpList P ops Q l a W) : wpList P ops Q l a w := k w h
theorem made2 (w : World) : ((w.alloc (.cells #[] 9)).alloc (.cells #[] 5)).ownsRow w.heap.size 5 1 (.slice (some ⟨w.heap.size + 1, 0, none⟩) 0 0) 0 (bs []) := by
  have h := World.ownsRow_made (base := w.heap.size) (e := 5) (size := 1) (w.alloc (.cells #[] 9)) #[] 0 (by simp) (by unfold maxLen; omega) rfl
  rw [World.size_alloc] at h; exact h
set_option maxRecDepth 100000 in
set_option maxHeartbeats 2000000 in
theorem l02Cut_any (s : ByteArray) (w : World) (hs : s.size ≤ 8000) :
    Calls Try.prog 97 #[.string s] w fun e w' => (∃ v, e = .returned v ∧ w'.ownsRow w.heap.size 9 1 v (tss (cutF [] s.data.toList)).length (ss (tss (cutF [] s.data.toList)))) ∧ Below w.heap.size w w' := by
  go_enter Try.func97, Try.ntmps97
  go_wp2
  go_loopw [3, 4, 5] (fun v u i wr => ∃ (k : Nat) (outs : List (List UInt8)) (b : List UInt8), k ≤ s.size ∧ i = .int .i64 k ∧ CutS s outs b k ∧ wr.ownsRow w.heap.size 9 1 v (tss outs).length (ss (tss outs)) ∧ wr.ownsRow w.heap.size 5 1 u b.length (bs b) ∧ Below w.heap.size w wr) (fun _ _ i _ => s.size - (intOf i).toNat)
  case atStart => exact ⟨0, [], [], Nat.zero_le _, rfl, ⟨by simp, by simp, by simp⟩, (World.ownsRow_made _ _ 0 (Nat.le_refl _) (by unfold maxLen; omega) rfl).alloc _, made2 w, more (more (Below.refl _ _) _) _⟩
  case round =>
    obtain ⟨k, outs, b, hk, rfl, hC, hv, hu, hbel⟩ := hrel
    have hlo : (tss outs).length ≤ 8000 := by have := hC.2.1; rw [tss_len]; omega
    have hlb : b.length ≤ 8000 := by have := hC.2.2; omega
    have HC := Lib.hid hC; have HV := Lib.hid hv; have HU := Lib.hid hu
    have HA := Lib.hid (own_apart hv hu (by decide))
    have HA' := Lib.hid (own_apart hu hv (by decide))
    clear hC hv hu
    have hsz := hbel.size
    by_cases hlt : k < s.size
    · by_cases h92 : (s[k].toNat : Int) = 92
      · have hb1 : ((s[k].toNat : Int) == 92) = true := by rw [h92]; rfl
        have hb2 : ((s[k].toNat : Int) == 44) = false := by rw [h92]; rfl
        have E92 := Lib.hid (nat_of_u8 (n := 92) h92 (by omega))
        clear h92
        by_cases hl2 : k + 1 < s.size
        · have HN := Lib.hid (HC.out.two hlt hl2 E92.out)
          have g0 : (0 : Int) ≤ (k : Int) := by omega
          have g1 : (k : Int) < (s.size : Int) := by omega
          have g2 : (0 : Int) ≤ (k : Int) + 1 := by omega
          have g3 : (k : Int) + 1 < (s.size : Int) := by omega
          have g4 : ((k : Int) + 1).toNat = k + 1 := by omega
          go_wp2_with fail
          have g5 : IntKind.i64.wrap ((k : Int) + 1) = (k : Int) + 1 := IntWalk.i64_in _ (by omega)
          go_region_held3 (fun _ => True) (trivial)
            (first | (refine step_two w.heap.size (by rfl) _ _ (by rfl) _ b (by rfl) HU.out _ _ (by rfl) (Nat.le_trans hlb (by omega)) hsz hbel ?_; intro g cp w1 hown1 hbel1 hg1) | (fail "none"))
          all_goals
            have HV1 := Lib.hid ((HV.out.alloc (.cells #[.int .u8 (s[k].toNat : Int), .int .u8 (s[k + 1].toNat : Int)] 5)).kept hg1 HA'.out)
            have HU1 := Lib.hid hown1
            clear hown1 hg1 g5
            go_wp2
            go_roundw
            case rel => exact ⟨k + 2, outs, b ++ [s[k], s[k + 1]], by omega, by go_num, HN.out, HV1.out, HU1.out, hbel1⟩
            case measure => simp [intOf]; omega
        · have HN := Lib.hid (HC.out.one hlt (by rw [E92.out]; decide) (.inr (by omega)))
          go_wp2_with (first | (at_builtin; refine append_byte2 w.heap.size rfl _ _ rfl _ b rfl HU.out s[k] _ rfl rfl (by omega) hsz hbel ?_; intro v' w1 hown1 hbel1 hg1; have HV1 := Lib.hid ((HV.out.alloc _).kept hg1 HA'.out); have HU1 := Lib.hid hown1; clear hown1 hg1) | (fail "none"))
          go_roundw
          case rel => exact ⟨k + 1, outs, b ++ [s[k]], by omega, by go_num, HN.out, HV1.out, HU1.out, hbel1⟩
          case measure => simp [intOf]; omega
      · have hb1 : ((s[k].toNat : Int) == 92) = false := by rw [beq_eq_false_iff_ne]; exact h92
        have N92 : Hid (s[k] ≠ 92) := Lib.hid (fun e => h92 (by rw [e]; rfl))
        clear h92
        by_cases h44 : (s[k].toNat : Int) = 44
        · have hb2 : ((s[k].toNat : Int) == 44) = true := by rw [h44]; rfl
          have HN := Lib.hid (HC.out.comma hlt (nat_of_u8 (n := 44) h44 (by omega)))
          clear h44
          have hcv := fun (W : World) (h : W.ownsRow w.heap.size 5 1 u4 b.length (bs b)) => str_own W _ _ _ h
          have hcv0 := hcv wr HU.out
          clear hcv
          go_wp2_with (first | (at_builtin; refine append_str w.heap.size rfl _ _ rfl _ (tss outs) rfl HV.out _ rfl (by omega) hsz hbel ?_; intro v' w1 hown1 hbel1 hsz1 hat1 hg1; have HV1 := Lib.hid hown1; clear hown1 hg1 hat1) | (fail "none"))
          go_roundw
          case rel => exact ⟨k + 1, outs ++ [b], [], by omega, by go_num, HN.out, by rw [tss_snoc]; exact HV1.out.alloc _, World.ownsRow_made _ _ 0 hsz1 (by unfold maxLen; omega) rfl, more hbel1 _⟩
          case measure => simp [intOf]; omega
        · have hb2 : ((s[k].toNat : Int) == 44) = false := by rw [beq_eq_false_iff_ne]; exact h44
          have HN := Lib.hid (HC.out.one hlt (fun e => h44 (by rw [e]; rfl)) (.inl N92.out))
          clear h44
          go_wp2_with (first | (at_builtin; refine append_byte2 w.heap.size rfl _ _ rfl _ b rfl HU.out s[k] _ rfl rfl (by omega) hsz hbel ?_; intro v' w1 hown1 hbel1 hg1; have HV1 := Lib.hid ((HV.out.alloc _).kept hg1 HA'.out); have HU1 := Lib.hid hown1; clear hown1 hg1) | (fail "none"))
          go_roundw
          case rel => exact ⟨k + 1, outs, b ++ [s[k]], by omega, by go_num, HN.out, HV1.out, HU1.out, hbel1⟩
          case measure => simp [intOf]; omega
    · have HE := Lib.hid (HC.out.last hlt)
      have hcv0 := str_own wr _ _ _ HU.out
      go_wp2_with (first | (at_builtin; refine append_str w.heap.size rfl _ _ rfl _ (tss outs) rfl HV.out _ rfl (by omega) hsz hbel ?_; intro v' w1 hown1 hbel1 hsz1 hat1 hg1; have HV1 := Lib.hid hown1; clear hown1 hg1 hat1) | (fail "none"))
      go_ret
      exact ⟨⟨_, rfl, by rw [HE.out, tss_snoc]; exact HV1.out⟩, hbel1⟩
end Go.Proofs.Ytjajpdghamecoaa
/- Reading names: l02Rdn of the specification. -/
namespace Go.Proofs.Ytjajpdghamecoaa
open Go.RowKit
attribute [local go_sem ↓] Go.wp_at_zero Go.wp_at_succ

theorem unesc2_one (c : UInt8) : unesc2 [c] = [c] := by rw [unesc2]
theorem unesc2_two (c d : UInt8) (l : List UInt8) : unesc2 (c :: d :: l) = if c = 92 then d :: unesc2 l else c :: unesc2 (d :: l) := by rw [unesc2]
def No61 (s : ByteArray) (k : Nat) : Prop := ∀ c ∈ s.data.toList.take k, c ≠ 61
theorem No61.step {s : ByteArray} {k : Nat} (h : No61 s k) (hk : k < s.size) (hc : s[k] ≠ 61) : No61 s (k + 1) := by
  intro c hm
  rw [take_snoc s k hk, List.mem_append] at hm
  rcases hm with hm | hm
  · exact h c hm
  · simp at hm; subst hm; exact hc
theorem No61.none {s : ByteArray} {k : Nat} (h : No61 s k) (hk : ¬ k < s.size) : rdn2 s.data.toList = (toS [], toS []) := by
  unfold rdn2
  rw [if_neg]
  intro hm
  have : s.data.toList.take k = s.data.toList := List.take_of_length_le (by rw [size_len]; omega)
  exact h 61 (by rw [this]; exact hm) rfl
theorem No61.some {s : ByteArray} {k : Nat} (h : No61 s k) (hk : k < s.size) (hc : s[k] = 61) : rdn2 s.data.toList = (toS (s.data.toList.take k), toS (unesc2 (s.data.toList.drop (k + 1)))) := by
  have e : s.data.toList = s.data.toList.take k ++ 61 :: s.data.toList.drop (k + 1) := by
    conv => lhs; rw [← List.take_append_drop k s.data.toList]
    rw [drop_at s k hk, hc]
  obtain ⟨h1, h2⟩ := takeWhile_name (l := s.data.toList.take k) (t := s.data.toList.drop (k + 1)) h
  unfold rdn2
  rw [if_pos (by rw [e]; simp)]
  rw [← e] at h1 h2
  rw [h1, h2]; simp
def UnB (s : ByteArray) (k : Nat) (pre : List UInt8) (j : Nat) : Prop := unesc2 (s.data.toList.drop (k + 1)) = pre ++ unesc2 (s.data.toList.drop j) ∧ pre.length ≤ j
theorem UnB.one {s : ByteArray} {k j : Nat} {pre : List UInt8} (h : UnB s k pre j) (hj : j < s.size) (hc : s[j] ≠ 92 ∨ j + 1 = s.size) : UnB s k (pre ++ [s[j]]) (j + 1) := by
  refine ⟨?_, by have := h.2; simp; omega⟩
  rw [h.1, drop_at s j hj]
  rcases he : s.data.toList.drop (j + 1) with _ | ⟨d, l⟩
  · rw [unesc2_one]; simp [unesc2]
  · have hne : s[j] ≠ 92 := by
      rcases hc with h | h
      · exact h
      · rw [List.drop_eq_nil_of_le (by rw [size_len]; omega)] at he; cases he
    rw [unesc2_two, if_neg hne]; simp
theorem UnB.two {s : ByteArray} {k j : Nat} {pre : List UInt8} (h : UnB s k pre j) (hj : j < s.size) (hj1 : j + 1 < s.size) (hc : s[j] = 92) : UnB s k (pre ++ [s[j + 1]]) (j + 2) := by
  refine ⟨?_, by have := h.2; simp; omega⟩
  rw [h.1, drop_at s j hj, drop_at s (j + 1) hj1, unesc2_two, if_pos hc]; simp
theorem UnB.last {s : ByteArray} {k j : Nat} {pre : List UInt8} (h : UnB s k pre j) (hj : ¬ j < s.size) : unesc2 (s.data.toList.drop (k + 1)) = pre := by
  rw [h.1, List.drop_eq_nil_of_le (by rw [size_len]; omega)]; simp [unesc2]
/-- two cells of block R that may be written -/
theorem two_new {w wr : World} {a b : Value} {T : TypeId} (hb : Below (w.heap.size + 1) (w.alloc (.cells #[a, b] T)) wr) :
    (wr.cell? ⟨w.heap.size, 0, none⟩ = some a ∧ wr.cell? ⟨w.heap.size, 1, none⟩ = some b) ∧ wr.frozen? ⟨w.heap.size, 0, none⟩ = false ∧ wr.frozen? ⟨w.heap.size, 1, none⟩ = false := by
  have hblk : wr.heap[w.heap.size]? = some (.cells #[a, b] T) := by rw [hb.block _ (by omega)]; exact heap_alloc_new w _
  refine ⟨⟨?_, ?_⟩, ?_, ?_⟩
  all_goals first | (unfold World.cell?; rw [hblk]; rfl) | (unfold World.frozen?; rw [hblk]; rfl)
theorem below_one {w wr : World} {o : Obj} (hb : Below (w.heap.size + 1) (w.alloc o) wr) : Below w.heap.size w wr := (more (Below.refl _ _) o).trans (hb.mono (by omega))
theorem made3 (w : World) (o : Obj) : ((w.alloc o).alloc (.cells #[] 5)).ownsRow (w.heap.size + 1) 5 1 (.slice (some ⟨w.heap.size + 1, 0, none⟩) 0 0) 0 (bs []) := by
  have h := World.ownsRow_made (base := w.heap.size + 1) (e := 5) (size := 1) (w.alloc o) #[] 0 (by simp) (by unfold maxLen; omega) rfl
  rw [World.size_alloc] at h; exact h
set_option maxRecDepth 100000 in
set_option maxHeartbeats 2000000 in
theorem l02Rdn_any (s : ByteArray) (w : World) (hs : s.size ≤ 8000) :
    Calls Try.prog 98 #[.string s] w fun e w' => e = .returned (.agg #[.string (rdn2 s.data.toList).1, .string (rdn2 s.data.toList).2]) ∧ Below w.heap.size w w' := by
  go_enter Try.func98, Try.ntmps98
  go_wp2
  go_loop [3] (fun i => ∃ k : Nat, k ≤ s.size ∧ i = .int .i64 k ∧ No61 s k) (fun i => s.size - (intOf i).toNat)
  case atStart => exact ⟨0, Nat.zero_le _, rfl, by unfold No61; simp⟩
  case round =>
    obtain ⟨k, hk, rfl, hN⟩ := hrel
    have HN := Lib.hid hN; clear hN
    by_cases hlt : k < s.size
    · by_cases h61 : (s[k].toNat : Int) = 61
      · have hb1 : ((s[k].toNat : Int) != 61) = false := by rw [h61]; rfl
        have HR := Lib.hid (HN.out.some hlt (nat_of_u8 (n := 61) h61 (by omega)))
        have hb2 : ((k : Int) == (s.size : Int)) = false := by rw [beq_eq_false_iff_ne]; omega
        clear h61
        go_wp2
        go_loopw [4, 5] (fun v i wr => ∃ (j : Nat) (pre : List UInt8), j ≤ s.size ∧ i = .int .i64 j ∧ UnB s k pre j ∧ wr.ownsRow (w.heap.size + 1) 5 1 v pre.length (bs pre) ∧ Below (w.heap.size + 1) (w.alloc (.cells #[.string ByteArray.empty, .string ByteArray.empty] 61)) wr) (fun _ i _ => s.size - (intOf i).toNat)
        case atStart => exact ⟨k + 1, [], by omega, by go_num, ⟨by simp, by simp⟩, made3 w _, (Below.refl _ _).alloc (by simp) _⟩
        case round =>
          obtain ⟨j, pre, hj, rfl, hU, hown, hbel⟩ := hrel
          have hpl := hU.2
          have HU := Lib.hid hU; clear hU
          have hsz : w.heap.size + 1 ≤ wr.heap.size := by have := hbel.size; simpa using this
          by_cases hjl : j < s.size
          · by_cases h92 : (s[j].toNat : Int) = 92
            · have hb3 : ((s[j].toNat : Int) == 92) = true := by rw [h92]; rfl
              have E92 := Lib.hid (nat_of_u8 (n := 92) h92 (by omega))
              clear h92
              by_cases hj1 : j + 1 < s.size
              · have HM := Lib.hid (HU.out.two hjl hj1 E92.out)
                go_wp2_with (first | (at_builtin; refine append_byte (w.heap.size + 1) rfl _ _ rfl _ pre rfl hown s[j + 1] _ rfl rfl (by omega) hsz hbel ?_; intro v' w1 hown1 hbel1 hsz1) | (fail "none"))
                go_roundw
                case rel => exact ⟨j + 2, _, by omega, by go_num, HM.out, hown1, hbel1⟩
                case measure => simp [intOf]; omega
              · have HM := Lib.hid (HU.out.one hjl (.inr (by omega)))
                go_wp2_with (first | (at_builtin; refine append_byte (w.heap.size + 1) rfl _ _ rfl _ pre rfl hown s[j] _ rfl rfl (by omega) hsz hbel ?_; intro v' w1 hown1 hbel1 hsz1) | (fail "none"))
                go_roundw
                case rel => exact ⟨j + 1, _, by omega, by go_num, HM.out, hown1, hbel1⟩
                case measure => simp [intOf]; omega
            · have hb3 : ((s[j].toNat : Int) == 92) = false := by rw [beq_eq_false_iff_ne]; exact h92
              have HM := Lib.hid (HU.out.one hjl (.inl (fun e => h92 (by rw [e]; rfl))))
              clear h92
              go_wp2_with (first | (at_builtin; refine append_byte (w.heap.size + 1) rfl _ _ rfl _ pre rfl hown s[j] _ rfl rfl (by omega) hsz hbel ?_; intro v' w1 hown1 hbel1 hsz1) | (fail "none"))
              go_roundw
              case rel => exact ⟨j + 1, _, by omega, by go_num, HM.out, hown1, hbel1⟩
              case measure => simp [intOf]; omega
          · have HL := Lib.hid (HU.out.last hjl)
            have hcv := str_own wr.drew _ _ _ hown.drew
            obtain ⟨⟨c0, c1⟩, f0, f1⟩ := two_new hbel
            have HX := Lib.hid (ext_take s k)
            have HB := Lib.hid hbel
            clear hbel hown
            go_wp2_with fail
            go_region
            go_wp2
            have e1 : (rdn2 s.data.toList).1 = s.extract 0 k := by rw [HR.out, HX.out]
            have e2 : (rdn2 s.data.toList).2 = ⟨pre.toArray⟩ := by rw [HR.out, HL.out]; rfl
            rw [e1, e2]
            refine bodyPost_ret (v := .agg #[.string (s.extract 0 k), .string ⟨pre.toArray⟩]) (by simp [results, Try.results98, go_sem, c0, c1]) rfl ⟨rfl, ?_⟩
            exact (((below_one HB.out).setCell (Nat.le_refl _) _).setCell (Nat.le_refl _) _).drew
      · have hb1 : ((s[k].toNat : Int) != 61) = true := by rw [bne_iff_ne]; exact h61
        have HM := Lib.hid (HN.out.step hlt (fun e => h61 (by rw [e]; rfl)))
        clear h61
        go_wp2
        go_round
        case rel => exact ⟨k + 1, by omega, by go_num, HM.out⟩
        case measure => simp [intOf]; omega
    · have HR := Lib.hid (HN.out.none hlt)
      have hb2 : ((k : Int) == (s.size : Int)) = true := by rw [beq_iff_eq]; omega
      go_wp2
      refine bodyPost_ret (v := .agg #[.string (rdn2 s.data.toList).1, .string (rdn2 s.data.toList).2]) (by rw [HR.out]; simp [results, Try.results98, go_sem]; rfl) rfl ⟨rfl, ?_⟩
      exact (Below.refl _ _).alloc (Nat.le_refl _) _
end Go.Proofs.Ytjajpdghamecoaa
/- DnParent and DnJoin: what the texts of the program and of the specification return. -/
namespace Go.Proofs.Ytjajpdghamecoaa
open Go.RowKit
attribute [local go_sem ↓] Go.wp_at_zero Go.wp_at_succ

theorem own_mono {w : World} {B B' e z n : Nat} {v : Value} {xs : List Value} (h : w.ownsRow B e z v n xs) (hB : B' ≤ B) : w.ownsRow B' e z v n xs := by
  refine ⟨h.1, ?_⟩
  rcases h.2 with h | ⟨g, cap, cur, h1, h2, h3⟩
  · exact .inl h
  · exact .inr ⟨g, cap, cur, h1, Nat.le_trans hB h2, h3⟩
/-- a new name is returned -/
def GivesDn (w : World) (d : RdnL) (e : Ending) (w' : World) : Prop := (∃ v, e = .returned v ∧ w'.ownsRow w.heap.size 61 2 v d.length (rs d)) ∧ Below w.heap.size w w'
theorem own_nil (w : World) (B : Nat) : w.ownsRow B 61 2 (.slice none 0 0) 0 (rs []) := ⟨rfl, .inl ⟨rfl, rfl⟩⟩
theorem dn_cells {w : World} {b off : Nat} {d : RdnL} (h : DnAt w (some ⟨b, off, none⟩) d) : ∀ j u, (rs d)[j]? = some u → w.cell? ((⟨b, off, none⟩ : Addr).add j) = some u := by
  intro j u hu
  have hj : j < (rs d).length := by
    rcases Nat.lt_or_ge j (rs d).length with h | h
    · exact h
    · rw [List.getElem?_eq_none h] at hu; cases hu
  rw [rs_length] at hj
  obtain ⟨b', off', e, _, c1, c2⟩ := h.at (k := j / 2) (by omega)
  cases e
  have ea : (⟨b, off, none⟩ : Addr).add j = ⟨b, off + j, none⟩ := by unfold Addr.add; split <;> simp_all
  rw [ea]
  have hg := rs_get d (j / 2) (by omega)
  rcases Nat.mod_two_eq_zero_or_one j with hm | hm
  · have ej : j = j / 2 * 2 := by omega
    rw [ej] at hu ⊢
    rw [hg.1] at hu
    rw [← hu]; exact c1
  · have ej : j = j / 2 * 2 + 1 := by omega
    rw [ej] at hu ⊢
    rw [hg.2] at hu
    rw [← hu, ← Nat.add_assoc]; exact c2
theorem rs_one (d : RdnL) : ∀ u ∈ rs d, u.oneCell' = true := by
  intro u hu
  unfold rs at hu
  rw [List.mem_flatMap] at hu
  obtain ⟨r, _, hr⟩ := hu
  simp at hr
  rcases hr with rfl | rfl <;> rfl
theorem rs_append (a b : RdnL) : rs (a ++ b) = rs a ++ rs b := by unfold rs; rw [List.flatMap_append]
/-- append(v, dn...) onto a row that the call owns -/
theorem append_dn {ops : Array Oper} {rest : List Oper} {o : Oper} {a : Act} {Q : Exit → Act → World → Prop} {w0 wr : World} (B : Nat) (hgd : o.guard = none) (s x : Operand)
    (ho : o.op = .call { callee := .builtin .append, args := #[s, x], argTypes := #[23, 23] }) (v : Value) (pre : RdnL) (hs : a.eval s = v) (hown : wr.ownsRow B 61 2 v pre.length (rs pre))
    (ao : Option Addr) (d : RdnL) (c n : Nat) (hn : n = d.length) (hx : a.eval x = .slice ao n c) (hd : DnAt wr ao d) (hc : ao = none → c = 0) (hlen : pre.length + d.length ≤ 1000000000) (hB : B ≤ wr.heap.size) (hbel : Below B w0 wr)
    (h : ∀ v' w', w'.ownsRow B 61 2 v' (pre ++ d).length (rs (pre ++ d)) → Below B w0 w' → wpList Try.prog ops Q rest (a.put o.dst v') w') :
    wpList Try.prog ops Q (o :: rest) a wr := by
  obtain ⟨i0, hi, hz0, hz1, hz2⟩ := info_parts Try.info61
  subst hn
  rcases ao with _ | ad
  · have hd0 : d = [] := by
      rcases hd with h | ⟨b, off, e, _⟩
      · exact h
      · cases e
    subst hd0
    have := hc rfl
    subst this
    refine wpList_append_own_none hgd s x 23 ho B 61 i0 2 Try.underlying23 hi v pre.length (rs pre) hs hown hx (h v wr (by rw [List.append_nil]; exact hown) hbel)
  · have hnews : ∀ j u, (rs d)[j]? = some u → wr.cell? (ad.add j) = some u := by
      rcases hd with hd | ⟨b, off, e, h2, h3⟩
      · subst hd; intro j u hu; simp [rs] at hu
      · cases e; exact dn_cells (.inr ⟨b, off, rfl, h2, h3⟩)
    refine wpList_append_own _ hgd s x 23 ho B 61 i0 _ 2 32 Try.underlying23 hi hz0 hz1 hz2 rfl (by decide) v pre.length (rs pre) hs hown ad d.length c (rs d) hx (rs_length d) hnews (rs_one d) ?_ ?_ hB ?_
    · unfold maxLen; omega
    · omega
    · intro v' w' h1 h2 h3
      refine h v' w' ?_ (hbel.grown h2 hB (fun k hk => (hown.lt k hk).1))
      rw [rs_append, List.length_append]; exact h1

theorem cut27s (w : World) (ao : Option Addr) (d : RdnL) (k cap : Nat) (hk : k ≤ d.length) (h0 : d.length ≠ 0) (hc : d.length ≤ cap) (hd : DnAt w ao d) :
    ∃ ad, (∀ W : World, (Instr.slice 23 (.slice ao d.length cap) (some (.int .i64 (k : Int))) none none).run Try.prog W = .ok (.slice (some ad) (d.length - k) (cap - k)) W) ∧ DnAt w (some ad) (d.drop k) := by
  obtain ⟨ao', h1, h2⟩ := cut27 w ao d k cap hk hc hd
  obtain ⟨b, off, rfl, hb, _⟩ := hd.at (k := 0) (by omega)
  have h3 := h1 w
  rw [run_slice_l w 23 _ d.length cap (by rw [Try.elem23]; exact Try.underlying23) .i64 (k : Int) (by omega) (by omega), Try.elem23, Try.size61] at h3
  rcases ao' with _ | ad
  · simp [Result.andThen, sliced] at h3
    split at h3 <;> simp at h3
  · exact ⟨ad, h1, h2⟩
def parentL (d : RdnL) : RdnL := if dnB d = true then d.drop 1 else []
theorem parent_no {d : RdnL} (h : dnB d = false ∨ d.length = 0) : parentL d = [] := by
  unfold parentL
  rcases h with h | h
  · rw [h]; rfl
  · rw [List.length_eq_zero_iff.1 h]; simp
theorem parent_yes {d : RdnL} (h : dnB d = true) : parentL d = d.drop 1 := by unfold parentL; rw [if_pos h]
end Go.Proofs.Ytjajpdghamecoaa
/- DnJoin: what the texts of the program and of the specification return. -/
namespace Go.Proofs.Ytjajpdghamecoaa
open Go.RowKit
attribute [local go_sem ↓] Go.wp_at_zero Go.wp_at_succ

theorem grown_set (w : World) (q j : Nat) (v : Value) : w.grownBy (w.setCell ⟨q, j, none⟩ v) (some q) :=
  ⟨rfl, rfl, rfl, by simp [World.setCell], fun k _ hk => Below.heap_setCell _ _ _ _ (fun e => hk (by simp [e]))⟩
theorem own_set {w : World} {B e z n q j : Nat} {v u : Value} {xs : List Value} (h : w.ownsRow B e z v n xs) (hq : q < B) : (w.setCell ⟨q, j, none⟩ u).ownsRow B e z v n xs :=
  h.kept (grown_set w q j u) (by
    cases hv : v.ownBlock with
    | none => exact .inl rfl
    | some g => exact .inr (fun hh => by have := (h.lt g hv).1; have := Option.some.inj hh; omega))
/-- four cells, of blocks R and R + 1, that are known and may be written -/
def Four (w : World) (R : Nat) (a b x y : Value) : Prop :=
  ((w.cell? ⟨R, 0, none⟩ = some a ∧ w.cell? ⟨R, 1, none⟩ = some b ∧ w.cell? ⟨R + 1, 0, none⟩ = some x ∧ w.cell? ⟨R + 1, 1, none⟩ = some y) ∧
    (w.frozen? ⟨R, 0, none⟩ = false ∧ w.frozen? ⟨R, 1, none⟩ = false ∧ w.frozen? ⟨R + 1, 0, none⟩ = false ∧ w.frozen? ⟨R + 1, 1, none⟩ = false)) ∧ R + 1 < w.heap.size
theorem Four.keep {W w1 : World} {R : Nat} {a b x y : Value} (h : Four W R a b x y) (hb : Below W.heap.size W w1) : Four w1 R a b x y := by
  obtain ⟨⟨⟨c0, c1, c2, c3⟩, ⟨f0, f1, f2, f3⟩⟩, hz⟩ := h
  exact ⟨⟨⟨(hb.cell (p := ⟨R, 0, none⟩) (by show R < _; omega)).trans c0, (hb.cell (p := ⟨R, 1, none⟩) (by show R < _; omega)).trans c1, (hb.cell (p := ⟨R + 1, 0, none⟩) hz).trans c2, (hb.cell (p := ⟨R + 1, 1, none⟩) hz).trans c3⟩,
    ⟨(hb.frozen (p := ⟨R, 0, none⟩) (by show R < _; omega)).trans f0, (hb.frozen (p := ⟨R, 1, none⟩) (by show R < _; omega)).trans f1, (hb.frozen (p := ⟨R + 1, 0, none⟩) hz).trans f2, (hb.frozen (p := ⟨R + 1, 1, none⟩) hz).trans f3⟩⟩, Nat.lt_of_lt_of_le hz hb.size⟩
theorem four_new (w : World) (a b x y : Value) (T U : TypeId) : Four ((w.alloc (.cells #[a, b] T)).alloc (.cells #[x, y] U)) w.heap.size a b x y := by
  obtain ⟨h1, h2, h3⟩ := keep22 (w := w) (W := ((w.alloc (.cells #[a, b] T)).alloc (.cells #[x, y] U))) (Below.refl _ _) rfl
  exact ⟨⟨h1, h2⟩, h3⟩

/-- a name and a code are returned -/
def GivesOut (w : World) (d : RdnL) (c : Int) (e : Ending) (w' : World) : Prop := (∃ v, e = .returned (.agg #[v, .int .i64 c]) ∧ w'.ownsRow w.heap.size 61 2 v d.length (rs d)) ∧ Below w.heap.size w w'
def joinC (r : ByteArray × ByteArray) (p : RdnL) : Int := if 400 < p.length then 2 else if (dnB p && rdnB r) = false then 1 else if 6 ≤ p.length then 9 else 0
def joinD (r : ByteArray × ByteArray) (p : RdnL) : RdnL := if joinC r p = 0 then r :: p else []
theorem join_cases (r : ByteArray × ByteArray) (p : RdnL) :
    (400 < p.length ∧ joinC r p = 2 ∧ joinD r p = []) ∨ (¬ 400 < p.length ∧ dnB p = false ∧ joinC r p = 1 ∧ joinD r p = []) ∨ (¬ 400 < p.length ∧ dnB p = true ∧ rdnB r = false ∧ joinC r p = 1 ∧ joinD r p = []) ∨
    (dnB p = true ∧ rdnB r = true ∧ p.length = 6 ∧ joinC r p = 9 ∧ joinD r p = []) ∨ (dnB p = true ∧ rdnB r = true ∧ p.length < 6 ∧ joinC r p = 0 ∧ joinD r p = r :: p) := by
  unfold joinD
  unfold joinC
  by_cases h1 : 400 < p.length
  · left; simp [h1]
  · right
    cases h2 : dnB p
    · left; simp [h1]
    · right
      have h6 := dnB_six h2
      cases h3 : rdnB r
      · left; simp [h1]
      · right
        by_cases h4 : 6 ≤ p.length
        · left; simp [h1, h4]; omega
        · right; simp [h1, h4]; omega
theorem own_any_nil (w : World) : w.ownsRow w.heap.size 61 2 (.slice none 0 0) 0 (rs []) := own_nil _ _

end Go.Proofs.Ytjajpdghamecoaa
/- DnJoin: what the specification's text returns. -/
namespace Go.Proofs.Ytjajpdghamecoaa
open Go.RowKit

theorem dnB_one (r : ByteArray × ByteArray) : dnB [r] = rdnB r := by unfold dnB; simp
theorem one_at (w : World) (A V : ByteArray) : DnAt (w.alloc (.cells #[.string A, .string V] 61)) (some ⟨w.heap.size, 0, none⟩) [(A, V)] :=
  .inr ⟨w.heap.size, 0, rfl, by simp, fun i hi => by
    match i, hi with
    | 0, _ => exact ⟨by simp, by simp⟩⟩
theorem own_one (w : World) (A V : ByteArray) (B : Nat) (hB : B ≤ w.heap.size) : (w.alloc (.cells #[.string A, .string V] 61)).ownsRow B 61 2 (.slice (some ⟨w.heap.size, 0, none⟩) 1 1) [(A, V)].length (rs [(A, V)]) :=
  ⟨rfl, .inr ⟨w.heap.size, 1, #[.string A, .string V], rfl, hB, heap_alloc_new w _, by simp, by unfold maxLen; simp, rfl, rfl⟩⟩
end Go.Proofs.Ytjajpdghamecoaa
/- Reading names: l02Read of the specification; DnRead. -/
namespace Go.Proofs.Ytjajpdghamecoaa
open Go.RowKit
attribute [local go_sem ↓] Go.wp_at_zero Go.wp_at_succ

theorem append_rdn2 {ops : Array Oper} {rest : List Oper} {o : Oper} {a : Act} {Q : Exit → Act → World → Prop} {w0 wr : World} (B : Nat) (hgd : o.guard = none) (s x : Operand)
    (ho : o.op = .call { callee := .builtin .append, args := #[s, x], argTypes := #[23, 23] }) (v : Value) (pre : RdnL) (hs : a.eval s = v) (hown : wr.ownsRow B 61 2 v pre.length (rs pre))
    (A V : ByteArray) (hx : a.eval x = .slice (some ⟨wr.heap.size, 0, none⟩) 1 1) (hlen : pre.length ≤ 1000000000) (hB : B ≤ wr.heap.size) (hbel : Below B w0 wr)
    (h : ∀ v' w', w'.ownsRow B 61 2 v' (pre ++ [(A, V)]).length (rs (pre ++ [(A, V)])) → Below B w0 w' → (wr.alloc (.cells #[.string A, .string V] 61)).grownBy w' v.ownBlock → wpList Try.prog ops Q rest (a.put o.dst v') w') :
    wpList Try.prog ops Q (o :: rest) a (wr.alloc (.cells #[.string A, .string V] 61)) := by
  obtain ⟨i0, hi, hz0, hz1, hz2⟩ := info_parts Try.info61
  refine wpList_append_lies _ hgd s x 23 ho B 61 i0 _ 2 32 Try.underlying23 hi hz0 hz1 hz2 rfl (by decide) v pre.length (rs pre) hs (hown.alloc _) ⟨wr.heap.size, 0, none⟩ 1 1 [.string A, .string V] hx rfl (World.news_of_block (cs := #[.string A, .string V]) (t := 61) (fr := (0, 0)) (heap_alloc_new wr _)) ?_ (by omega) ?_ ?_ ?_ (wr.heap.size + 1) (by simp) ?_
  · intro u hu; simp at hu; rcases hu with rfl | rfl <;> rfl
  · unfold maxLen; omega
  · omega
  · simp; omega
  · intro g cap w' h1 h2 h3 h4
    refine h _ w' ?_ ((hbel.alloc hB _).grown h2 (by simp; omega) (fun k hk => (hown.lt k hk).1)) h2
    rw [rs_snoc]; simpa using h1
theorem cutF_part (n : Nat) : ∀ (b l : List UInt8), l.length ≤ n → ∀ x ∈ cutF b l, x.length ≤ b.length + l.length := by
  induction n with
  | zero =>
    intro b l hl x hx
    have : l = [] := List.eq_nil_of_length_eq_zero (by omega)
    subst this
    rw [cutF_nil] at hx; simp at hx; subst hx; simp
  | succ n ih =>
    intro b l hl x hx
    match l, hl, hx with
    | [], _, hx => rw [cutF_nil] at hx; simp at hx; subst hx; simp
    | [c], _, hx =>
      rw [cutF_one] at hx
      split at hx
      · simp at hx; rcases hx with rfl | rfl <;> simp
      · simp at hx; subst hx; simp
    | c :: d :: l, hl, hx =>
      rw [cutF_two] at hx
      simp only [List.length_cons] at hl ⊢
      split at hx
      · have := ih (b ++ [c, d]) l (by omega) x hx
        simp only [List.length_append, List.length_cons, List.length_nil] at this; omega
      · split at hx
        · rw [List.mem_cons] at hx
          rcases hx with rfl | hx
          · omega
          · have := ih [] (d :: l) (by simp only [List.length_cons]; omega) x hx
            simp only [List.length_cons, List.length_nil] at this; omega
        · have := ih (b ++ [c]) (d :: l) (by simp only [List.length_cons]; omega) x hx
          simp only [List.length_append, List.length_cons, List.length_nil] at this; omega
theorem cutF_count (n : Nat) : ∀ (b l : List UInt8), l.length ≤ n → (cutF b l).length ≤ l.length + 1 := by
  induction n with
  | zero =>
    intro b l hl
    have : l = [] := List.eq_nil_of_length_eq_zero (by omega)
    subst this
    rw [cutF_nil]; simp
  | succ n ih =>
    intro b l hl
    match l, hl with
    | [], _ => rw [cutF_nil]; simp
    | [c], _ => rw [cutF_one]; split <;> simp
    | c :: d :: l, hl =>
      rw [cutF_two]
      simp only [List.length_cons] at hl ⊢
      split
      · have := ih (b ++ [c, d]) l (by omega); omega
      · split
        · have := ih [] (d :: l) (by simp only [List.length_cons]; omega)
          simp only [List.length_cons] at this ⊢; omega
        · have := ih (b ++ [c]) (d :: l) (by simp only [List.length_cons]; omega)
          simp only [List.length_cons] at this; omega
def specD (l : List UInt8) : RdnL := (cutF [] l).map rdn2
theorem unesc2_len (n : Nat) : ∀ l : List UInt8, l.length ≤ n → (unesc2 l).length ≤ l.length := by
  induction n with
  | zero =>
    intro l hl
    have : l = [] := List.eq_nil_of_length_eq_zero (by omega)
    subst this; simp [unesc2]
  | succ n ih =>
    intro l hl
    match l, hl with
    | [], _ => simp [unesc2]
    | [c], _ => rw [unesc2_one]; simp
    | c :: d :: l, hl =>
      rw [unesc2_two]
      simp only [List.length_cons] at hl ⊢
      split
      · have := ih l (by omega); simp only [List.length_cons]; omega
      · have := ih (d :: l) (by simp only [List.length_cons]; omega); simp only [List.length_cons] at this ⊢; omega
theorem rdn2_len (l : List UInt8) : (rdn2 l).1.size ≤ l.length ∧ (rdn2 l).2.size ≤ l.length := by
  unfold rdn2
  split
  · refine ⟨by rw [toS_size]; exact takeWhile_len l, ?_⟩
    rw [toS_size]
    exact Nat.le_trans (unesc2_len _ _ (Nat.le_refl _)) (vlu_len l)
  · simp [toS_size]
theorem spec_fits (s : ByteArray) (hs : s.size ≤ 8000) (k : Nat) : Fits ((specD s.data.toList).take k) := by
  have hc := cutF_count _ [] s.data.toList (Nat.le_refl _)
  rw [size_len] at hc
  refine Fits.take ⟨by unfold specD; rw [List.length_map]; omega, fun r hr => ?_⟩ k
  unfold specD at hr
  obtain ⟨x, hx, rfl⟩ := List.mem_map.1 hr
  have h1 := cutF_part _ [] s.data.toList (Nat.le_refl _) x hx
  have h2 := rdn2_len x
  rw [size_len] at h1
  simp only [List.length_nil] at h1
  omega
theorem rdn1_len (l : List UInt8) : (rdn1 l).1.size ≤ l.length ∧ (rdn1 l).2.size ≤ l.length := by
  have hu : ∀ (b : Bool) (l : List UInt8), (unescF b l).length ≤ l.length := by
    intro b l
    induction l generalizing b with
    | nil => simp [unescF]
    | cons c l ih =>
      rw [unescF]
      split
      · have := ih true; rw [List.length_cons]; omega
      · have := ih false; rw [List.length_cons, List.length_cons]; omega
  exact ⟨by unfold rdn1; rw [toS_size]; exact takeWhile_len l, by unfold rdn1; rw [toS_size]; exact Nat.le_trans (hu _ _) (vlu_len l)⟩
theorem scan_fits (s : ByteArray) (hs : s.size ≤ 8000) : Fits (scanL s.data.toList) := by
  have hl := scanL_len s.data.toList
  rw [size_len] at hl
  have : ∀ n (l : List UInt8), l.length ≤ 8000 → ∀ r ∈ scanN n l, r.1.size ≤ 8000 ∧ r.2.size ≤ 8000 := by
    intro n
    induction n with
    | zero => intro l _ r hr; simp [scanN] at hr
    | succ n ih =>
      intro l hl r hr
      cases l with
      | nil => simp [scanN] at hr
      | cons c l =>
        simp only [scanN, List.mem_cons] at hr
        rcases hr with rfl | hr
        · have := rdn1_len ((c :: l).take (endF false (c :: l)))
          have h2 : ((c :: l).take (endF false (c :: l))).length ≤ (c :: l).length := List.length_take_le' ..
          omega
        · exact ih _ (by rw [List.length_drop]; omega) r hr
  refine ⟨by omega, fun r hr => ?_⟩
  have := this _ s.data.toList (by rw [size_len]; exact hs) r hr
  omega
end Go.Proofs.Ytjajpdghamecoaa
/- Reading names: l02Read and DnRead. -/
namespace Go.Proofs.Ytjajpdghamecoaa
open Go.RowKit
attribute [local go_sem ↓] Go.wp_at_zero Go.wp_at_succ

/-- the text of the name read is the text -/
def okB (s : ByteArray) : Bool := (dnTextS (specD s.data.toList)).toList == s.toList
def ReadS (w : World) (s : ByteArray) (e : Ending) (w' : World) : Prop :=
  (∃ v, e = .returned (.tuple #[v, .bool (okB s)]) ∧ w'.ownsRow w.heap.size 61 2 v (specD s.data.toList).length (rs (specD s.data.toList))) ∧ Below w.heap.size w w'
theorem spec_succ (s : ByteArray) (k : Nat) (h : k < (cutF [] s.data.toList).length) : (specD s.data.toList).take (k + 1) = (specD s.data.toList).take k ++ [rdn2 (cutF [] s.data.toList)[k]] := by
  rw [List.take_succ_eq_append_getElem (by unfold specD; simpa using h)]
  unfold specD
  rw [List.getElem_map]
set_option maxRecDepth 100000 in
set_option maxHeartbeats 2000000 in
theorem l02Read_some (s : ByteArray) (w : World) (hs : s.size ≤ 8000) (h0 : 0 < s.size) :
    Calls Try.prog 56 #[.string s] w fun e w' => ReadS w s e w' := by
  have hcn := cutF_count _ [] s.data.toList (Nat.le_refl _)
  rw [size_len] at hcn
  have hemp : s.toList.isEmpty = false := by
    rw [Lib.toList_data, List.isEmpty_eq_false_iff]
    intro h; have := size_len s; rw [h] at this; simp at this; omega
  have HF := Lib.hid (spec_fits s hs)
  go_enter Try.func56, Try.ntmps56
  go_wp2_with fail
  refine (l02Cut_any s _ hs).mono ?_
  rintro e w2 ⟨⟨l, rfl, hl⟩, hb2⟩
  obtain ⟨lo, lc, rfl⟩ := own_slice hl
  have hlen : (tss (cutF [] s.data.toList)).length = (cutF [] s.data.toList).length := tss_len _
  rw [hlen] at hl ⊢
  have HL := Lib.hid (own_mono (B' := w.heap.size) hl (by simp))
  have B2 := Lib.hid ((more (Below.refl w.heap.size w) (.cells #[] 61)).trans (hb2.mono (by simp)))
  have HO : Hid (w2.ownsRow w.heap.size 61 2 (.slice (some ⟨w.heap.size, 0, none⟩) 0 0) 0 (rs [])) := Lib.hid (own_below (World.ownsRow_made _ _ 0 (Nat.le_refl _) (by unfold maxLen; omega) rfl) hb2)
  clear hl hb2 hlen
  generalize hn : (cutF [] s.data.toList).length = n at *
  have Hn := Lib.hid hn; clear hn
  go_wp2_with fail
  go_loopw [4, 6] (fun v i wr => ∃ k : Nat, k ≤ n ∧ i = .int .i64 k ∧ wr.ownsRow w.heap.size 61 2 v ((specD s.data.toList).take k).length (rs ((specD s.data.toList).take k)) ∧ wr.ownsRow w.heap.size 9 1 (.slice lo n lc) n (ss (tss (cutF [] s.data.toList))) ∧ Below w.heap.size w wr) (fun _ i _ => n - (intOf i).toNat)
  case atStart => exact ⟨0, Nat.zero_le _, rfl, by rw [List.take_zero]; exact HO.out, HL.out, B2.out⟩
  case round =>
    clear HO HL B2
    obtain ⟨k, hk, rfl, hown, hl, hbel⟩ := hrel
    have hpl : ((specD s.data.toList).take k).length ≤ 8001 := by rw [List.length_take]; omega
    have hsz := hbel.size
    have HO := Lib.hid hown
    have HL := Lib.hid hl
    by_cases hlt : k < n
    · have hkl : k < (cutF [] s.data.toList).length := by have := Hn.out; omega
      have HN := Lib.hid (spec_succ s k hkl)
      obtain ⟨g, cp, hv, _, hg⟩ := hl.form (by omega)
      have e : lo = some ⟨g, 0, none⟩ := by injection hv
      subst e
      have hcell : wr.cell? ⟨g, k, none⟩ = some (.string (toS (cutF [] s.data.toList)[k])) := by
        have := hl.cells (g := g) rfl k (.string (toS (cutF [] s.data.toList)[k])) (by
          unfold ss tss; rw [List.getElem?_map, List.getElem?_map, List.getElem?_eq_getElem hkl]; rfl)
        rwa [add_plain] at this
      have hxs : (toS (cutF [] s.data.toList)[k]).size ≤ 8000 := by
        have := cutF_part _ [] s.data.toList (Nat.le_refl _) _ (List.getElem_mem hkl)
        rw [size_len] at this
        rw [toS_size]; simp only [List.length_nil] at this; omega
      have HR := Lib.hid (fun w => l02Rdn_any (toS (cutF [] s.data.toList)[k]) w hxs)
      rw [toS_list] at HR
      have HD : Hid (rdn2 (cutF [] s.data.toList)[k] = ((rdn2 (cutF [] s.data.toList)[k]).1, (rdn2 (cutF [] s.data.toList)[k]).2)) := Lib.hid rfl
      clear hown hl hv
      generalize rdn2 (cutF [] s.data.toList)[k] = r at *
      generalize toS (cutF [] s.data.toList)[k] = x at *
      generalize r.1 = A at *
      generalize r.2 = V at *
      generalize (specD s.data.toList).take k = pre at *
      go_wp2_with fail
      refine (HR.out _).mono ?_
      rintro e w3 ⟨rfl, hb3⟩
      have HO3 := Lib.hid (own_below HO.out hb3)
      have HL3 := Lib.hid (own_below HL.out hb3)
      have B3 := Lib.hid (hbel.trans (hb3.mono hsz))
      have HA := Lib.hid (own_apart HO3.out HL3.out (by decide))
      clear hb3 hcell
      go_wp2_with (first | (at_builtin; refine append_rdn2 w.heap.size rfl _ _ rfl _ pre rfl HO3.out A V rfl (by omega) B3.out.size B3.out ?_; intro v' w4 hown4 hbel4 hg4; have HO4 := Lib.hid hown4; have HL4 := Lib.hid ((HL3.out.alloc _).kept hg4 HA.out); clear hown4 hg4) | (fail "none"))
      go_roundw
      case rel => exact ⟨k + 1, by omega, by go_num, by rw [HN.out, HD.out]; exact HO4.out, HL4.out, hbel4⟩
      case measure => simp [intOf]; omega
    · have e : (specD s.data.toList).take k = specD s.data.toList := List.take_of_length_le (by unfold specD; rw [List.length_map, Hn.out]; omega)
      rw [e] at HO hown
      have HF2 : Hid (Fits (specD s.data.toList)) := Lib.hid (by have := HF.out k; rw [e] at this; exact this)
      have HOK : Hid (okB s = ((dnTextS (specD s.data.toList)).toList == s.toList)) := Lib.hid rfl
      obtain ⟨ao, ac, rfl⟩ := own_slice hown
      have HDN := Lib.hid (own_dn hown)
      clear e hpl hown hl
      generalize hD : specD s.data.toList = D at *
      have HDs := Lib.hid hD; clear hD
      go_wp2_with fail
      refine (SpecDnText_any _ _ _ _ HDN.out HF2.out).mono ?_
      rintro e w3 ⟨rfl, hb3⟩
      have HO3 := Lib.hid (own_below HO.out hb3)
      have B3 := Lib.hid (hbel.trans (hb3.mono hsz))
      clear hb3
      go_wp2
      go_ret2
      exact ⟨⟨.slice ao D.length ac, by rw [HOK.out]; rfl, by rw [HDs.out]; exact HO3.out⟩, B3.out⟩
end Go.Proofs.Ytjajpdghamecoaa
/- DnRead: what the texts of the program and of the specification return. -/
namespace Go.Proofs.Ytjajpdghamecoaa
open Go.RowKit
attribute [local go_sem ↓] Go.wp_at_zero Go.wp_at_succ

def goodB (s : ByteArray) : Bool := dnB (scanL s.data.toList) && ((textS (scanL s.data.toList)).toList == s.toList)
def readC (s : ByteArray) : Int := if 8000 < s.size then 2 else if goodB s = true then 0 else 3
def readD (s : ByteArray) : RdnL := if readC s = 0 then scanL s.data.toList else []
theorem read_long {s : ByteArray} (h : 8000 < s.size) : readC s = 2 ∧ readD s = [] := by unfold readD readC; rw [if_pos h]; exact ⟨rfl, rfl⟩
theorem read_bad {s : ByteArray} (h : ¬ 8000 < s.size) (hg : goodB s = false) : readC s = 3 ∧ readD s = [] := by unfold readD readC; rw [if_neg h, hg]; exact ⟨rfl, rfl⟩
theorem read_good {s : ByteArray} (h : ¬ 8000 < s.size) (hg : goodB s = true) : readC s = 0 ∧ readD s = scanL s.data.toList := by unfold readD readC; rw [if_neg h, hg]; exact ⟨rfl, rfl⟩
theorem text_eq {d : RdnL} {s : ByteArray} (h : ((textS d).toList == s.toList) = true) : textL d = s.data.toList := by
  rw [Lib.toList_data, Lib.toList_data] at h
  simpa [textS] using h
theorem good_empty {s : ByteArray} (h : s.size = 0) : goodB s = true ∧ scanL s.data.toList = [] := by
  have e : s.data.toList = [] := List.eq_nil_of_length_eq_zero (by rw [size_len]; exact h)
  unfold goodB
  rw [Lib.toList_data, Lib.toList_data, e]
  exact ⟨by decide, rfl⟩
theorem ok_good {s : ByteArray} (h : okB s = true) (h0 : 0 < s.size) : goodB s = true ∧ specD s.data.toList = scanL s.data.toList := by
  unfold okB at h
  cases hd : dnB (specD s.data.toList)
  · rw [dnText_no hd, Lib.toList_data, Lib.toList_data] at h
    exfalso
    have e : s.data.toList = [] := by simpa using h
    have := size_len s; rw [e] at this; simp at this; omega
  · rw [dnText_yes hd] at h
    have e := text_eq h
    have e2 : scanL s.data.toList = specD s.data.toList := by
      have := scan_text _ (dnB_all_of hd)
      rw [e] at this; exact this
    refine ⟨?_, e2.symm⟩
    unfold goodB
    rw [e2, hd, h]; rfl
theorem good_ok {s : ByteArray} (h : goodB s = true) (h0 : 0 < s.size) : okB s = true := by
  unfold goodB at h
  rw [Bool.and_eq_true] at h
  obtain ⟨h1, h2⟩ := h
  have e := text_eq h2
  have hne : scanL s.data.toList ≠ [] := by
    intro hh; rw [hh] at e
    have := size_len s; rw [← e] at this; simp [textL, Lib.join_nil] at this; omega
  have e2 : specD s.data.toList = scanL s.data.toList := by
    have := cut_text _ (dnB_all_of h1) hne
    rw [e] at this; exact this
  unfold okB
  rw [e2, dnText_yes h1]; exact h2
theorem ok_iff {s : ByteArray} (h0 : 0 < s.size) : okB s = goodB s := by
  cases h : goodB s
  · cases h' : okB s
    · rfl
    · rw [(ok_good h' h0).1] at h; exact h
  · exact good_ok h h0

set_option maxRecDepth 100000 in
set_option maxHeartbeats 1000000 in
theorem DnRead_any (s : ByteArray) (w : World) (hm : s.size ≤ maxLen) :
    Calls Try.prog 16 #[.string s] w fun e w' => GivesOut w (readD s) (readC s) e w' := by
  unfold maxLen at hm
  have B0 := Lib.hid (more (Below.refl w.heap.size w) (.cells #[.slice none 0 0, .int .i64 0] 29))
  by_cases h8 : 8000 < s.size
  · rw [(read_long h8).1, (read_long h8).2]
    go_enter Try.func16, Try.ntmps16
    go_wp2
    refine bodyPost_ret (v := .agg #[.slice none 0 0, .int .i64 2]) (by simp [results, Try.results16, go_sem]) rfl ⟨⟨_, rfl, own_nil _ _⟩, ?_⟩
    exact (Below.refl _ _).alloc (Nat.le_refl _) _
  · have HF := Lib.hid (scan_fits s (by omega))
    have HG : Hid (goodB s = (dnB (scanL s.data.toList) && ((textS (scanL s.data.toList)).toList == s.toList))) := Lib.hid rfl
    have HB := Lib.hid (fun h => read_bad (s := s) h8 h)
    have HGd := Lib.hid (fun h => read_good (s := s) h8 h)
    go_enter Try.func16, Try.ntmps16
    go_wp2_with fail
    refine (scanDn_any s _ (by omega)).mono ?_
    rintro e w1 ⟨⟨v, rfl, hown⟩, hb1⟩
    have HO := Lib.hid hown
    obtain ⟨ao, ac, rfl⟩ := own_slice hown
    have HDN := Lib.hid (own_dn hown)
    have B1 := Lib.hid (B0.out.trans (hb1.mono B0.out.size))
    have T1 := Lib.hid hb1
    clear hown hb1
    generalize scanL s.data.toList = D at *
    cases hd : dnB D
    · have HE := Lib.hid (HB.out (by rw [HG.out, hd]; rfl))
      go_wp2_with fail
      refine (DnRight_any _ _ _ _ HDN.out HF.out).mono ?_
      rintro e w2 ⟨rfl, hb2⟩
      rw [hd]
      have B2 := Lib.hid (B1.out.trans (hb2.mono B1.out.size))
      have T2 := Lib.hid (T1.out.trans (hb2.mono T1.out.size))
      clear hb2
      obtain ⟨⟨c0, c1⟩, f0, f1⟩ := two_new (by have := T2.out; simpa using this)
      go_wp2
      refine bodyPost_ret (v := .agg #[.slice none 0 0, .int .i64 3]) (by simp [results, Try.results16, go_sem, c0, c1]) rfl ?_
      show GivesOut w (readD s) (readC s) _ _
      rw [HE.out.1, HE.out.2]
      refine ⟨⟨_, rfl, own_nil _ _⟩, ?_⟩
      exact (B2.out.setCell (Nat.le_refl _) _).setCell (Nat.le_refl _) _
    · have HT := Lib.hid (fun w h => DnText_any ao D ac w h HF.out)
      rw [dnText_yes hd] at HT
      cases ht : ((textS D).toList == s.toList)
      · have HE := Lib.hid (HB.out (by rw [HG.out, hd, ht]; rfl))
        have ht' : ((textS D).toList != s.toList) = true := by simp [bne, ht]
        go_wp2_with fail
        refine (DnRight_any _ _ _ _ HDN.out HF.out).mono ?_
        rintro e w2 ⟨rfl, hb2⟩
        rw [hd]
        have B2 := Lib.hid (B1.out.trans (hb2.mono B1.out.size))
        have T2 := Lib.hid (T1.out.trans (hb2.mono T1.out.size))
        have D2 := Lib.hid (HDN.out.below hb2)
        clear hb2
        go_wp2_with fail
        refine (HT.out _ D2.out).mono ?_
        rintro e w3 ⟨rfl, hb3⟩
        have B3 := Lib.hid (B2.out.trans (hb3.mono B2.out.size))
        have T3 := Lib.hid (T2.out.trans (hb3.mono T2.out.size))
        clear hb3
        obtain ⟨⟨c0, c1⟩, f0, f1⟩ := two_new (by have := T3.out; simpa using this)
        go_wp2
        refine bodyPost_ret (v := .agg #[.slice none 0 0, .int .i64 3]) (by simp [results, Try.results16, go_sem, c0, c1]) rfl ?_
        show GivesOut w (readD s) (readC s) _ _
        rw [HE.out.1, HE.out.2]
        refine ⟨⟨_, rfl, own_nil _ _⟩, ?_⟩
        exact (B3.out.setCell (Nat.le_refl _) _).setCell (Nat.le_refl _) _
      · have HE := Lib.hid (HGd.out (by rw [HG.out, hd, ht]; rfl))
        have ht' : ((textS D).toList != s.toList) = false := by simp [bne, ht]
        go_wp2_with fail
        refine (DnRight_any _ _ _ _ HDN.out HF.out).mono ?_
        rintro e w2 ⟨rfl, hb2⟩
        rw [hd]
        have B2 := Lib.hid (B1.out.trans (hb2.mono B1.out.size))
        have T2 := Lib.hid (T1.out.trans (hb2.mono T1.out.size))
        have D2 := Lib.hid (HDN.out.below hb2)
        have O2 := Lib.hid (own_below HO.out hb2)
        clear hb2
        go_wp2_with fail
        refine (HT.out _ D2.out).mono ?_
        rintro e w3 ⟨rfl, hb3⟩
        have B3 := Lib.hid (B2.out.trans (hb3.mono B2.out.size))
        have T3 := Lib.hid (T2.out.trans (hb3.mono T2.out.size))
        have O3 := Lib.hid (own_below O2.out hb3)
        clear hb3
        obtain ⟨⟨c0, c1⟩, f0, f1⟩ := two_new (by have := T3.out; simpa using this)
        go_wp2
        refine bodyPost_ret (v := .agg #[.slice ao D.length ac, .int .i64 0]) (by simp [results, Try.results16, go_sem, c0, c1]) rfl ?_
        show GivesOut w (readD s) (readC s) _ _
        rw [HE.out.1, HE.out.2]
        refine ⟨⟨_, rfl, ?_⟩, ?_⟩
        · exact own_mono (own_set (own_set O3.out (by simp)) (by simp)) (by simp)
        · exact (B3.out.setCell (Nat.le_refl _) _).setCell (Nat.le_refl _) _
set_option maxRecDepth 100000 in
set_option maxHeartbeats 1000000 in
theorem l02Read_none (s : ByteArray) (w : World) (h0 : s.size = 0) :
    Calls Try.prog 56 #[.string s] w fun e w' => (∃ v, e = .returned (.tuple #[v, .bool true]) ∧ w'.ownsRow w.heap.size 61 2 v 0 (rs [])) ∧ Below w.heap.size w w' := by
  have hemp : s.toList.isEmpty = true := by
    rw [Lib.toList_data, List.isEmpty_iff]
    exact List.eq_nil_of_length_eq_zero (by rw [size_len]; exact h0)
  have H0 := Lib.hid h0; clear h0
  go_enter Try.func56, Try.ntmps56
  go_wp2
  go_ret2
  exact ⟨⟨_, rfl, World.ownsRow_made _ _ 0 (Nat.le_refl _) (by unfold maxLen; omega) rfl⟩, (Below.refl _ _).alloc (Nat.le_refl _) _⟩
set_option maxRecDepth 100000 in
set_option maxHeartbeats 1000000 in
theorem SpecDnRead_any (s : ByteArray) (w : World) (hm : s.size ≤ maxLen) :
    Calls Try.prog 18 #[.string s] w fun e w' => GivesOut w (readD s) (readC s) e w' := by
  unfold maxLen at hm
  have B0 := Lib.hid (more (Below.refl w.heap.size w) (.cells #[.slice none 0 0, .int .i64 0] 29))
  by_cases h8 : 8000 < s.size
  · rw [(read_long h8).1, (read_long h8).2]
    go_enter Try.func18, Try.ntmps18
    go_wp2
    refine bodyPost_ret (v := .agg #[.slice none 0 0, .int .i64 2]) (by simp [results, Try.results18, go_sem]) rfl ⟨⟨_, rfl, own_nil _ _⟩, ?_⟩
    exact (Below.refl _ _).alloc (Nat.le_refl _) _
  · by_cases h0 : s.size = 0
    · obtain ⟨hg, hsc⟩ := good_empty h0
      obtain ⟨e1, e2⟩ := read_good h8 hg
      rw [e1, e2, hsc]
      have H0 := Lib.hid h0
      clear hg hsc e1 e2 h0
      go_enter Try.func18, Try.ntmps18
      go_wp2_with fail
      refine (l02Read_none s _ H0.out).mono ?_
      rintro e w1 ⟨⟨v, rfl, hown⟩, hb1⟩
      have HO := Lib.hid hown
      obtain ⟨ao, ac, rfl⟩ := own_slice hown
      have B1 := Lib.hid (B0.out.trans (hb1.mono B0.out.size))
      obtain ⟨⟨c0, c1⟩, f0, f1⟩ := two_new (by simpa using hb1)
      clear hown hb1
      go_wp2
      refine bodyPost_ret (v := .agg #[.slice ao 0 ac, .int .i64 0]) (by simp [results, Try.results18, go_sem, c0, c1]) rfl ⟨⟨_, rfl, ?_⟩, ?_⟩
      · exact own_mono (own_set (own_set HO.out (by simp)) (by simp)) (by simp)
      · exact (B1.out.setCell (Nat.le_refl _) _).setCell (Nat.le_refl _) _
    · cases hg : okB s
      · obtain ⟨e1, e2⟩ := read_bad h8 (by rw [← ok_iff (by omega)]; exact hg)
        rw [e1, e2]
        clear e1 e2
        go_enter Try.func18, Try.ntmps18
        go_wp2_with fail
        refine (l02Read_some s _ (by omega) (by omega)).mono ?_
        rintro e w1 ⟨⟨v, rfl, hown⟩, hb1⟩
        rw [hg]
        obtain ⟨ao, ac, rfl⟩ := own_slice hown
        have B1 := Lib.hid (B0.out.trans (hb1.mono B0.out.size))
        obtain ⟨⟨c0, c1⟩, f0, f1⟩ := two_new (by simpa using hb1)
        clear hown hb1
        go_wp2
        refine bodyPost_ret (v := .agg #[.slice none 0 0, .int .i64 3]) (by simp [results, Try.results18, go_sem, c0, c1]) rfl ⟨⟨_, rfl, own_nil _ _⟩, ?_⟩
        exact (B1.out.setCell (Nat.le_refl _) _).setCell (Nat.le_refl _) _
      · obtain ⟨hgd, hsp⟩ := ok_good hg (by omega)
        obtain ⟨e1, e2⟩ := read_good h8 hgd
        rw [e1, e2, ← hsp]
        clear e1 e2 hgd hsp
        go_enter Try.func18, Try.ntmps18
        go_wp2_with fail
        refine (l02Read_some s _ (by omega) (by omega)).mono ?_
        rintro e w1 ⟨⟨v, rfl, hown⟩, hb1⟩
        rw [hg]
        have HO := Lib.hid hown
        obtain ⟨ao, ac, rfl⟩ := own_slice hown
        have B1 := Lib.hid (B0.out.trans (hb1.mono B0.out.size))
        obtain ⟨⟨c0, c1⟩, f0, f1⟩ := two_new (by simpa using hb1)
        clear hown hb1
        generalize hD : specD s.data.toList = D at *
        have HDs := Lib.hid hD; clear hD
        go_wp2
        refine bodyPost_ret (v := .agg #[.slice ao D.length ac, .int .i64 0]) (by simp [results, Try.results18, go_sem, c0, c1]) rfl ⟨⟨_, rfl, ?_⟩, ?_⟩
        · rw [HDs.out]; exact own_mono (own_set (own_set HO.out (by simp)) (by simp)) (by simp)
        · exact (B1.out.setCell (Nat.le_refl _) _).setCell (Nat.le_refl _) _
end Go.Proofs.Ytjajpdghamecoaa
/- The helpers of the laws: sizes, copies, comparisons. -/
namespace Go.Proofs.Ytjajpdghamecoaa
open Go.RowKit
attribute [local go_sem ↓] Go.wp_at_zero Go.wp_at_succ

/-- all its strings are strings of Go -/
def Long (d : RdnL) : Prop := d.length ≤ 9223372036854775807 ∧ ∀ r ∈ d, r.1.size ≤ maxLen ∧ r.2.size ≤ maxLen
def sizeR (r : ByteArray × ByteArray) : Nat := r.1.size + r.2.size
def sizeS (d : RdnL) : Nat := (d.map sizeR).sum
def leftR (n : Nat) (left : Int) : Int := if (n : Int) ≤ left then left - n else -1
theorem sizeS_take (d : RdnL) (k : Nat) (h : k < d.length) : sizeS (d.take (k + 1)) = sizeS (d.take k) + sizeR d[k] := by
  unfold sizeS; rw [List.take_succ_eq_append_getElem h, List.map_append, List.sum_append]; simp
theorem sizeS_le (d : RdnL) (k : Nat) : sizeS (d.take k) ≤ sizeS d := by
  have h := List.take_append_drop k d
  have : sizeS d = sizeS (d.take k) + sizeS (d.drop k) := by
    unfold sizeS; rw [← List.sum_append, ← List.map_append, h]
  omega
theorem sizeS_mem {d : RdnL} {r : ByteArray × ByteArray} (h : r ∈ d) : sizeR r ≤ sizeS d := by
  induction d with
  | nil => simp at h
  | cons x d ih =>
    have e : sizeS (x :: d) = sizeR x + sizeS d := by unfold sizeS; simp
    rw [e]
    rw [List.mem_cons] at h
    rcases h with rfl | h
    · omega
    · have := ih h; omega
theorem fits_of {d : RdnL} (h : d.length + sizeS d ≤ 1048576) : Fits d :=
  ⟨by omega, fun r hr => by have := sizeS_mem hr; unfold sizeR at this; omega⟩
set_option maxHeartbeats 400000 in
theorem szRdn_any (A V : ByteArray) (left : Int) (w : World) (hA : A.size ≤ maxLen) (hV : V.size ≤ maxLen) (h0 : 0 ≤ left) (h1 : left ≤ 1048576) :
    Calls Try.prog 100 #[.agg #[.string A, .string V], .int .i64 left] w fun e w' => e = .returned (.int .i64 (leftR (sizeR (A, V)) left)) ∧ Below w.heap.size w w' := by
  unfold maxLen at hA hV
  have HE : Hid (sizeR (A, V) = A.size + V.size) := Lib.hid rfl
  by_cases g1 : (A.size : Int) ≤ left
  · by_cases g2 : (A.size : Int) + (V.size : Int) ≤ left
    · have HR : Hid (leftR (sizeR (A, V)) left = left - A.size - V.size) := Lib.hid (by unfold leftR; rw [HE.out, if_pos (by omega)]; omega)
      have c1 : ¬ left - (A.size : Int) < 0 := by omega
      have c2 : ¬ left - (A.size : Int) - (V.size : Int) < 0 := by omega
      go_enter Try.func100, Try.ntmps100
      go_wp2
      go_ret
      exact ⟨ret_int' (by rw [HR.out]), (Below.refl _ _).alloc (Nat.le_refl _) _⟩
    · have HR : Hid (leftR (sizeR (A, V)) left = -1) := Lib.hid (by unfold leftR; rw [HE.out, if_neg (by omega)])
      have c1 : ¬ left - (A.size : Int) < 0 := by omega
      have c2 : left - (A.size : Int) - (V.size : Int) < 0 := by omega
      go_enter Try.func100, Try.ntmps100
      go_wp2
      go_ret
      exact ⟨ret_int' (by rw [HR.out]), (Below.refl _ _).alloc (Nat.le_refl _) _⟩
  · have HR : Hid (leftR (sizeR (A, V)) left = -1) := Lib.hid (by unfold leftR; rw [HE.out, if_neg (by omega)])
    have c1 : left - (A.size : Int) < 0 := by omega
    go_enter Try.func100, Try.ntmps100
    go_wp2
    go_ret
    exact ⟨ret_int' (by rw [HR.out]), (Below.refl _ _).alloc (Nat.le_refl _) _⟩
theorem leftR_pos {n : Nat} {left : Int} (h : (n : Int) ≤ left) : leftR n left = left - n := by unfold leftR; rw [if_pos h]
theorem leftR_neg {n : Nat} {left : Int} (h : ¬ (n : Int) ≤ left) : leftR n left = -1 := by unfold leftR; rw [if_neg h]
set_option maxRecDepth 100000 in
set_option maxHeartbeats 1000000 in
theorem szRdnS_any (ao : Option Addr) (d : RdnL) (cap : Nat) (left : Int) (w : World) (hd : DnAt w ao d) (hf : Long d) (h0 : 0 ≤ left) (h1 : left ≤ 1048576) :
    Calls Try.prog 61 #[.slice ao d.length cap, .int .i64 left] w fun e w' => e = .returned (.int .i64 (leftR (d.length + sizeS d) left)) ∧ Below w.heap.size w w' := by
  have hl := hf.1
  have HD := Lib.hid hd; have HF := Lib.hid hf; clear hd hf
  by_cases g : (d.length : Int) ≤ left
  · have c1 : ¬ left - (d.length : Int) < 0 := by omega
    go_enter Try.func61, Try.ntmps61
    go_wp2
    go_loopw [1, 5] (fun t i wr => ∃ k : Nat, k ≤ d.length ∧ i = .int .i64 k ∧ ((d.length + sizeS (d.take k) : Nat) : Int) ≤ left ∧ t = .int .i64 (left - (d.length + sizeS (d.take k) : Nat)) ∧ Below w.heap.size w wr) (fun _ i _ => d.length - (intOf i).toNat)
    case atStart => exact ⟨0, Nat.zero_le _, rfl, by simp [sizeS]; omega, by simp [sizeS], Below.refl _ _⟩
    case round =>
      clear c1
      obtain ⟨k, hk, rfl, hle, rfl, hbel⟩ := hrel
      have hsz := hbel.size
      by_cases hlt : k < d.length
      · obtain ⟨b, off, rfl, hb0, hd1, hd2⟩ := HD.out.at hlt
        have hc1 := (hbel.cell (p := ⟨b, off + k * 2, none⟩) hb0).trans hd1
        have hc2 := (hbel.cell (p := ⟨b, off + k * 2 + 1, none⟩) hb0).trans hd2
        have hz := HF.out.2 _ (List.getElem_mem hlt)
        have HT := Lib.hid (sizeS_take d k hlt)
        have HTl := Lib.hid (sizeS_le d (k + 1))
        have HE : Hid (sizeR d[k] = sizeR (d[k].1, d[k].2)) := Lib.hid rfl
        clear hd1 hd2
        generalize d[k].1 = A at *
        generalize d[k].2 = V at *
        generalize hq : d.length + sizeS (d.take k) = q at *
        have Hq := Lib.hid hq; clear hq
        go_wp2_with fail
        refine (szRdn_any A V (left - (q : Int)) wr hz.1 hz.2 (by omega) (by omega)).mono ?_
        rintro e w2 ⟨rfl, hb2⟩
        have B2 := Lib.hid (hbel.trans (hb2.mono hsz)); clear hb2
        by_cases hfit : ((sizeR (A, V) : Nat) : Int) ≤ left - (q : Int)
        · rw [leftR_pos hfit]
          generalize hr : sizeR (A, V) = r at *
          have Hr := Lib.hid hr; clear hr
          have c2 : ¬ left - (q : Int) - (r : Int) < 0 := by omega
          go_wp2
          go_roundw
          case rel =>
            have e := HT.out
            have e2 := HE.out
            have e3 := Hq.out
            have e4 := Hr.out
            exact ⟨k + 1, by omega, by go_num, by omega, by rw [e]; congr 1; omega, B2.out⟩
          case measure => simp [intOf]; omega
        · rw [leftR_neg hfit]
          have HR : Hid (leftR (d.length + sizeS d) left = -1) := Lib.hid (leftR_neg (by
            have := HT.out; have := HTl.out; have := HE.out; have := Hq.out; omega))
          go_wp2
          go_ret
          exact ⟨ret_int' (by rw [HR.out]), B2.out⟩
      · have HR : Hid (leftR (d.length + sizeS d) left = left - (d.length + sizeS (d.take k) : Nat)) := Lib.hid (by
          rw [List.take_of_length_le (by omega)] at hle ⊢
          exact leftR_pos hle)
        go_wp2
        go_ret
        exact ⟨ret_int' (by rw [HR.out]), hbel⟩
  · have HR : Hid (leftR (d.length + sizeS d) left = -1) := Lib.hid (leftR_neg (by omega))
    have c1 : left - (d.length : Int) < 0 := by omega
    go_enter Try.func61, Try.ntmps61
    go_wp2
    go_ret
    exact ⟨ret_int' (by rw [HR.out]), Below.refl _ _⟩
end Go.Proofs.Ytjajpdghamecoaa
/- The helpers of the laws: copies of names, comparisons. -/
namespace Go.Proofs.Ytjajpdghamecoaa
open Go.RowKit
attribute [local go_sem ↓] Go.wp_at_zero Go.wp_at_succ

set_option maxHeartbeats 400000 in
theorem toRdn_any (A V : ByteArray) (w : World) :
    Calls Try.prog 103 #[.agg #[.string A, .string V]] w fun e w' => e = .returned (.agg #[.string A, .string V]) ∧ Below w.heap.size w w' := by
  go_enter Try.func103, Try.ntmps103
  go_wp2
  refine bodyPost_ret (v := .agg #[.string A, .string V]) (by simp [results, Try.results103, go_sem]) rfl ⟨rfl, ?_⟩
  exact more (more (more (Below.refl _ _) _) _) _
theorem make27 (n : Nat) (hn : n ≤ 1048576) (W : World) : ∃ C : Array Value, C.size = n * 2 ∧
    (Instr.makeSlice 23 (.int .i64 (n : Int)) (.int .i64 (n : Int))).run Try.prog W = .ok (.slice (some ⟨W.heap.size, 0, none⟩) n n) (W.alloc (.cells C 61)) := by
  obtain ⟨i0, hi, hz0, hz1, hz2⟩ := info_parts Try.info61
  have := run_make (P := Try.prog) W 23 61 i0 _ Try.underlying23 hi hz0 .i64 .i64 (n : Int) (n : Int) (by omega) (by omega) (by rw [hz2]; omega) (by omega)
  rw [hz1] at this
  refine ⟨madeCells (Value.agg #[.string ByteArray.empty, .string ByteArray.empty]).cells (n * 2), size_madeCells _ _, ?_⟩
  simpa using this
theorem take_set2 {C : Array Value} {k : Nat} {d : RdnL} {a b : Value} (hk : k * 2 + 1 < C.size) (hC : C.toList.take (k * 2) = rs d) (hl : d.length = k) :
    (((C.setIfInBounds (k * 2) a).setIfInBounds (k * 2 + 1) b).toList).take ((k + 1) * 2) = rs d ++ [a, b] := by
  have hL : (rs d).length = k * 2 := by rw [rs_length, hl]
  apply List.ext_getElem?
  intro i
  rw [List.getElem?_take]
  by_cases h1 : i < (k + 1) * 2
  · rw [if_pos h1, Array.getElem?_toList, Array.getElem?_setIfInBounds, Array.getElem?_setIfInBounds]
    by_cases h2 : i = k * 2 + 1
    · subst h2
      rw [if_pos rfl, if_pos (by simpa using hk), List.getElem?_append_right (by omega), hL]
      simp
    · rw [if_neg (fun e => h2 e.symm)]
      by_cases h3 : i = k * 2
      · subst h3
        rw [if_pos rfl, if_pos (by omega), List.getElem?_append_right (by omega), hL]
        simp
      · rw [if_neg (fun e => h3 e.symm), List.getElem?_append_left (by omega), ← hC, List.getElem?_take, if_pos (by omega), Array.getElem?_toList]
  · rw [if_neg h1, List.getElem?_eq_none (by simp; omega)]
/-- a block of pairs, the first k of them known -/
def RowTo (w : World) (g n : Nat) (d : RdnL) : Prop := ∃ C : Array Value, w.heap[g]? = some (.cells C 61 (0, 0)) ∧ C.size = n * 2 ∧ C.toList.take (d.length * 2) = rs d
theorem RowTo.at {w : World} {g n k : Nat} {d : RdnL} (h : RowTo w g n d) (hk : k < n) :
    (∃ x y, w.cell? ⟨g, k * 2, none⟩ = some x ∧ w.cell? ⟨g, k * 2 + 1, none⟩ = some y) ∧ w.frozen? ⟨g, k * 2, none⟩ = false ∧ w.frozen? ⟨g, k * 2 + 1, none⟩ = false := by
  obtain ⟨C, h1, h2, _⟩ := h
  refine ⟨⟨C[k * 2]'(by omega), C[k * 2 + 1]'(by omega), ?_, ?_⟩, ?_, ?_⟩
  · rw [cell_of_row w g _ C 61 (0, 0) h1]; exact Array.getElem?_eq_getElem (by omega)
  · rw [cell_of_row w g _ C 61 (0, 0) h1]; exact Array.getElem?_eq_getElem (by omega)
  · simp [World.frozen?, h1]
  · simp [World.frozen?, h1]
theorem heap_set {w : World} {q j : Nat} {C : Array Value} {T : TypeId} {fr : Nat × Nat} (v : Value) (h : w.heap[q]? = some (.cells C T fr)) : (w.setCell ⟨q, j, none⟩ v).heap[q]? = some (.cells (C.setIfInBounds j v) T fr) := by
  unfold World.setCell
  simp [Array.getElem?_modify, h]
theorem RowTo.set {w : World} {g n k : Nat} {d : RdnL} (h : RowTo w g n d) (hl : d.length = k) (hk : k < n) (A V : ByteArray) :
    RowTo ((w.setCell ⟨g, k * 2, none⟩ (.string A)).setCell ⟨g, k * 2 + 1, none⟩ (.string V)) g n (d ++ [(A, V)]) := by
  obtain ⟨C, h1, h2, h3⟩ := h
  refine ⟨_, heap_set _ (heap_set _ h1), by simp [h2], ?_⟩
  rw [rs_append, List.length_append, hl]
  rw [hl] at h3
  exact take_set2 (by omega) h3 hl
theorem RowTo.below {w w' : World} {g n : Nat} {d : RdnL} (h : RowTo w g n d) (hb : Below w.heap.size w w') : RowTo w' g n d := by
  obtain ⟨C, h1, h2⟩ := h
  exact ⟨C, (hb.block g (Array.getElem?_eq_some_iff.1 h1).1).trans h1, h2⟩
theorem RowTo.own {w : World} {g B : Nat} {d : RdnL} (h : RowTo w g d.length d) (hB : B ≤ g) (hm : d.length ≤ 1048576) : w.ownsRow B 61 2 (.slice (some ⟨g, 0, none⟩) d.length d.length) d.length (rs d) := by
  obtain ⟨C, h1, h2, h3⟩ := h
  exact ⟨rs_length d, .inr ⟨g, d.length, C, rfl, hB, h1, Nat.le_refl _, by unfold maxLen; omega, h2, h3⟩⟩
/-- a copy of a name -/
def CopyDn (w : World) (d : RdnL) (e : Ending) (w' : World) : Prop := e = .returned (.slice (some ⟨w.heap.size, 0, none⟩) d.length d.length) ∧ w'.ownsRow w.heap.size 61 2 (.slice (some ⟨w.heap.size, 0, none⟩) d.length d.length) d.length (rs d) ∧ Below w.heap.size w w'
set_option maxRecDepth 100000 in
set_option maxHeartbeats 1000000 in
theorem toRdnS_any (ao : Option Addr) (d : RdnL) (cap : Nat) (w : World) (hd : DnAt w ao d) (hl : d.length ≤ 1048576) :
    Calls Try.prog 64 #[.slice ao d.length cap] w fun e w' => CopyDn w d e w' := by
  have HD := Lib.hid hd; clear hd
  obtain ⟨C, hC, hmk⟩ := make27 d.length hl w
  have HC := Lib.hid hC; clear hC
  go_enter Try.func64, Try.ntmps64
  go_wp2
  clear hmk
  go_loopw [4] (fun i wr => ∃ k : Nat, k ≤ d.length ∧ i = .int .i64 k ∧ RowTo wr w.heap.size d.length (d.take k) ∧ Below w.heap.size w wr) (fun i _ => d.length - (intOf i).toNat)
  case atStart => exact ⟨0, Nat.zero_le _, rfl, ⟨C, heap_alloc_new w _, HC.out, by simp [rs]⟩, (Below.refl _ _).alloc (Nat.le_refl _) _⟩
  case round =>
    obtain ⟨k, hk, rfl, hR, hbel⟩ := hrel
    have HR := Lib.hid hR; clear hR
    have hsz := hbel.size
    by_cases hlt : k < d.length
    · obtain ⟨b, off, rfl, hb0, hd1, hd2⟩ := HD.out.at hlt
      have hc1 := (hbel.cell (p := ⟨b, off + k * 2, none⟩) hb0).trans hd1
      have hc2 := (hbel.cell (p := ⟨b, off + k * 2 + 1, none⟩) hb0).trans hd2
      have HT : Hid (d.take (k + 1) = d.take k ++ [(d[k].1, d[k].2)]) := Lib.hid (List.take_succ_eq_append_getElem hlt)
      have hlk : (d.take k).length = k := by rw [List.length_take]; omega
      have HK := Lib.hid hlk
      clear hd1 hd2 hlk
      generalize d[k].1 = A at *
      generalize d[k].2 = V at *
      go_wp2_with fail
      refine (toRdn_any A V wr).mono ?_
      rintro e w2 ⟨rfl, hb2⟩
      have HR2 := Lib.hid (HR.out.below hb2)
      have B2 := Lib.hid (hbel.trans (hb2.mono hsz))
      clear hb2 hc1 hc2
      obtain ⟨⟨x, y, c0, c1⟩, f0, f1⟩ := HR2.out.at hlt
      go_wp2
      go_roundw
      case rel => exact ⟨k + 1, by omega, by go_num, by rw [HT.out]; exact HR2.out.set HK.out hlt A V, (B2.out.setCell (Nat.le_refl _) _).setCell (Nat.le_refl _) _⟩
      case measure => simp [intOf]; omega
    · have e : d.take k = d := List.take_of_length_le (by omega)
      rw [e] at HR
      clear e
      go_wp2
      go_ret
      exact ⟨rfl, HR.out.own (Nat.le_refl _) hl, hbel⟩
set_option maxHeartbeats 400000 in
theorem eqRdn_same (w0 : World) (A V : ByteArray) (w : World) (hB : Below w0.heap.size w0 w) :
    Calls Try.prog 108 #[.agg #[.string A, .string V], .agg #[.string A, .string V]] w fun e w' => e = .returned (.bool true) ∧ Below w0.heap.size w0 w' := by
  go_enter Try.func108, Try.ntmps108
  go_wp2
  go_ret
  exact ⟨rfl, more (more hB _) _⟩
set_option maxRecDepth 100000 in
set_option maxHeartbeats 1000000 in
theorem eqRdnS_same (ao bo : Option Addr) (d : RdnL) (ca cb : Nat) (w : World) (hda : DnAt w ao d) (hdb : DnAt w bo d) (hl : d.length ≤ 1048576) :
    Calls Try.prog 67 #[.slice ao d.length ca, .slice bo d.length cb] w fun e w' => e = .returned (.bool true) ∧ Below w.heap.size w w' := by
  have HA := Lib.hid hda; have HB := Lib.hid hdb; clear hda hdb
  go_enter Try.func67, Try.ntmps67
  go_wp2
  go_loopw [5] (fun i wr => ∃ k : Nat, k ≤ d.length ∧ i = .int .i64 k ∧ Below w.heap.size w wr) (fun i _ => d.length - (intOf i).toNat)
  case atStart => exact ⟨0, Nat.zero_le _, rfl, Below.refl _ _⟩
  case round =>
    obtain ⟨k, hk, rfl, hbel⟩ := hrel
    have hsz := hbel.size
    by_cases hlt : k < d.length
    · obtain ⟨p, off, rfl, hp0, hd1, hd2⟩ := HA.out.at hlt
      obtain ⟨q, off', rfl, hq0, he1, he2⟩ := HB.out.at hlt
      generalize d[k].1 = A at *
      generalize d[k].2 = V at *
      have SK : Hid (∀ W : World, Below w.heap.size w W → (Below w.heap.size w W ∧ W.cell? ⟨p, off + k * 2, none⟩ = some (.string A) ∧ W.cell? ⟨p, off + k * 2 + 1, none⟩ = some (.string V) ∧ W.cell? ⟨q, off' + k * 2, none⟩ = some (.string A) ∧ W.cell? ⟨q, off' + k * 2 + 1, none⟩ = some (.string V))) :=
        Lib.hid (fun W h => ⟨h, (h.cell (p := ⟨p, _, none⟩) hp0).trans hd1, (h.cell (p := ⟨p, _, none⟩) hp0).trans hd2, (h.cell (p := ⟨q, _, none⟩) hq0).trans he1, (h.cell (p := ⟨q, _, none⟩) hq0).trans he2⟩)
      have hbd := hbel.drew
      clear hd1 hd2 he1 he2
      have g1 : (0 : Int) ≤ (k : Int) := by omega
      have g2 : (k : Int) < (d.length : Int) := by omega
      go_wp2_with fail
      go_region_held3 (fun W => Below w.heap.size w W ∧ W.cell? ⟨p, off + k * 2, none⟩ = some (.string A) ∧ W.cell? ⟨p, off + k * 2 + 1, none⟩ = some (.string V) ∧ W.cell? ⟨q, off' + k * 2, none⟩ = some (.string A) ∧ W.cell? ⟨q, off' + k * 2 + 1, none⟩ = some (.string V))
        (exact SK.out _ (by assumption))
        (first | (go_at_call 108; refine (eqRdn_same w _ _ _ (by assumption)).mono ?_; rintro e w2 ⟨rfl, hb2⟩) | (fail "none"))
      all_goals
        go_wp2
        go_roundw
        case rel => exact ⟨k + 1, by omega, by go_num, hb2⟩
        case measure => simp [intOf]; omega
    · go_wp2
      go_ret
      exact ⟨rfl, hbel⟩
end Go.Proofs.Ytjajpdghamecoaa
/- Entries: names with attributes, and where they lie. -/
namespace Go.Proofs.Ytjajpdghamecoaa
open Go.RowKit

abbrev AttrV := ByteArray × List ByteArray
/-- texts lie behind a slice -/
def StrsAt (w : World) (ao : Option Addr) (l : List ByteArray) : Prop :=
  l = [] ∨ ∃ b off, ao = some ⟨b, off, none⟩ ∧ b < w.heap.size ∧ ∀ i (h : i < l.length), w.cell? ⟨b, off + i, none⟩ = some (.string l[i])
theorem StrsAt.below {w w' : World} {ao : Option Addr} {l : List ByteArray} (h : StrsAt w ao l) (hb : Below w.heap.size w w') : StrsAt w' ao l := by
  rcases h with h | ⟨b, off, h1, h2, h3⟩
  · exact .inl h
  · exact .inr ⟨b, off, h1, Nat.lt_of_lt_of_le h2 hb.size, fun i hi => (hb.cell (p := ⟨b, off + i, none⟩) h2).trans (h3 i hi)⟩
theorem StrsAt.at {w : World} {ao : Option Addr} {l : List ByteArray} (h : StrsAt w ao l) {k : Nat} (hk : k < l.length) :
    ∃ b off, ao = some ⟨b, off, none⟩ ∧ b < w.heap.size ∧ w.cell? ⟨b, off + k, none⟩ = some (.string l[k]) := by
  rcases h with h | ⟨b, off, h1, h2, h3⟩
  · subst h; simp at hk
  · exact ⟨b, off, h1, h2, h3 k hk⟩
/-- the texts of a slice, with its capacity -/
def ValsAt (w : World) (vo : Option Addr) (vc : Nat) (l : List ByteArray) : Prop := StrsAt w vo l ∧ l.length ≤ vc ∧ (vo = none → vc = 0)
theorem ValsAt.below {w w' : World} {vo : Option Addr} {vc : Nat} {l : List ByteArray} (h : ValsAt w vo vc l) (hb : Below w.heap.size w w') : ValsAt w' vo vc l := ⟨h.1.below hb, h.2⟩
/-- attributes lie behind a slice -/
def AttrsAt (w : World) (ao : Option Addr) (l : List AttrV) : Prop :=
  l = [] ∨ ∃ b off, ao = some ⟨b, off, none⟩ ∧ b < w.heap.size ∧ ∀ i (h : i < l.length), w.cell? ⟨b, off + i * 2, none⟩ = some (.string l[i].1) ∧
    ∃ vo vc, w.cell? ⟨b, off + i * 2 + 1, none⟩ = some (.slice vo l[i].2.length vc) ∧ ValsAt w vo vc l[i].2
theorem AttrsAt.below {w w' : World} {ao : Option Addr} {l : List AttrV} (h : AttrsAt w ao l) (hb : Below w.heap.size w w') : AttrsAt w' ao l := by
  rcases h with h | ⟨b, off, h1, h2, h3⟩
  · exact .inl h
  · refine .inr ⟨b, off, h1, Nat.lt_of_lt_of_le h2 hb.size, fun i hi => ?_⟩
    obtain ⟨g1, vo, vc, g2, g3⟩ := h3 i hi
    exact ⟨(hb.cell (p := ⟨b, off + i * 2, none⟩) h2).trans g1, vo, vc, (hb.cell (p := ⟨b, off + i * 2 + 1, none⟩) h2).trans g2, g3.below hb⟩
theorem AttrsAt.at {w : World} {ao : Option Addr} {l : List AttrV} (h : AttrsAt w ao l) {k : Nat} (hk : k < l.length) :
    ∃ b off vo vc, ao = some ⟨b, off, none⟩ ∧ b < w.heap.size ∧ w.cell? ⟨b, off + k * 2, none⟩ = some (.string l[k].1) ∧ w.cell? ⟨b, off + k * 2 + 1, none⟩ = some (.slice vo l[k].2.length vc) ∧ ValsAt w vo vc l[k].2 := by
  rcases h with h | ⟨b, off, h1, h2, h3⟩
  · subst h; simp at hk
  · obtain ⟨g1, vo, vc, g2, g3⟩ := h3 k hk
    exact ⟨b, off, vo, vc, h1, h2, g1, g2, g3⟩
/-- all its strings are strings of Go -/
def LongV (l : List ByteArray) : Prop := l.length ≤ 9223372036854775807 ∧ ∀ s ∈ l, s.size ≤ maxLen
def LongA (l : List AttrV) : Prop := l.length ≤ 9223372036854775807 ∧ ∀ a ∈ l, a.1.size ≤ maxLen ∧ LongV a.2
def FitsV (l : List ByteArray) : Prop := l.length ≤ 1048576 ∧ ∀ s ∈ l, s.size ≤ 1048576
def FitsA (l : List AttrV) : Prop := l.length ≤ 1048576 ∧ ∀ a ∈ l, a.1.size ≤ 1048576 ∧ FitsV a.2
def sizeV (l : List ByteArray) : Nat := (l.map (·.size)).sum
def sizeA (a : AttrV) : Nat := a.1.size + (a.2.length + sizeV a.2)
def sizeAs (l : List AttrV) : Nat := (l.map sizeA).sum
theorem sizeV_take (d : List ByteArray) (k : Nat) (h : k < d.length) : sizeV (d.take (k + 1)) = sizeV (d.take k) + d[k].size := by
  unfold sizeV; rw [List.take_succ_eq_append_getElem h, List.map_append, List.sum_append]; simp
theorem sizeV_le (d : List ByteArray) (k : Nat) : sizeV (d.take k) ≤ sizeV d := by
  have h := List.take_append_drop k d
  have : sizeV d = sizeV (d.take k) + sizeV (d.drop k) := by
    unfold sizeV; rw [← List.sum_append, ← List.map_append, h]
  omega
theorem sum_mem {l : List Nat} {x : Nat} (h : x ∈ l) : x ≤ l.sum := by
  induction l with
  | nil => simp at h
  | cons y l ih =>
    rw [List.sum_cons]
    rcases List.mem_cons.1 h with rfl | h
    · omega
    · have := ih h; omega
theorem sizeV_mem {l : List ByteArray} {s : ByteArray} (h : s ∈ l) : s.size ≤ sizeV l := sum_mem (List.mem_map_of_mem h)
theorem sizeAs_take (d : List AttrV) (k : Nat) (h : k < d.length) : sizeAs (d.take (k + 1)) = sizeAs (d.take k) + sizeA d[k] := by
  unfold sizeAs; rw [List.take_succ_eq_append_getElem h, List.map_append, List.sum_append]; simp
theorem sizeAs_le (d : List AttrV) (k : Nat) : sizeAs (d.take k) ≤ sizeAs d := by
  have h := List.take_append_drop k d
  have : sizeAs d = sizeAs (d.take k) + sizeAs (d.drop k) := by
    unfold sizeAs; rw [← List.sum_append, ← List.map_append, h]
  omega
theorem sizeAs_mem {l : List AttrV} {a : AttrV} (h : a ∈ l) : sizeA a ≤ sizeAs l := sum_mem (List.mem_map_of_mem h)
theorem fitsV_of {l : List ByteArray} (h : l.length + sizeV l ≤ 1048576) : FitsV l := ⟨by omega, fun s hs => by have := sizeV_mem hs; omega⟩
theorem fitsA_of {l : List AttrV} (h : l.length + sizeAs l ≤ 1048576) : FitsA l :=
  ⟨by omega, fun a ha => by
    have := sizeAs_mem ha
    unfold sizeA at this
    exact ⟨by omega, fitsV_of (by omega)⟩⟩
theorem FitsA.at {l : List AttrV} (h : FitsA l) {k : Nat} (hk : k < l.length) : l[k].1.size ≤ 1048576 ∧ FitsV l[k].2 := h.2 _ (List.getElem_mem hk)
theorem FitsV.at {l : List ByteArray} (h : FitsV l) {k : Nat} (hk : k < l.length) : l[k].size ≤ 1048576 := h.2 _ (List.getElem_mem hk)
theorem FitsV.long {l : List ByteArray} (h : FitsV l) : LongV l := ⟨by have := h.1; omega, fun s hs => by have := h.2 s hs; unfold maxLen; omega⟩
end Go.Proofs.Ytjajpdghamecoaa
