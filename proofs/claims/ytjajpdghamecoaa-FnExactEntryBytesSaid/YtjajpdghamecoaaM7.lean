/- Merged texts: EntS2, EntB1, EntB2, EntB3, Open, EntEq, EntOpen, EntRightW, EntB4. -/
import Derived.Test.YtjajpdghamecoaaM4
import Derived.Test.YtjajpdghamecoaaM5
import Derived.Test.YtjajpdghamecoaaM6
import Derived.Test.YtjajpdghamecoaaM1
import Derived.Test.YtjajpdghamecoaaM2
import Derived.Deep.SlicePairs
import Derived.OpenShut
import Derived.ProofKit
import Derived.SliceStrings
import Derived.Lib.SmallJoins
/- EntrySame: what the program and the specification return. -/
namespace Go.Proofs.Ytjajpdghamecoaa
open Go.RowKit
attribute [local go_sem ↓] Go.wp_at_zero Go.wp_at_succ

noncomputable def entB (d1 : RdnL) (l1 : List AttrV) (d2 : RdnL) (l2 : List AttrV) : Bool := rightB d1 l1 && rightB d2 l2 && (sameB d1 d2 && pairB attrEq l1 l2)
theorem entB_eq (d1 : RdnL) (l1 : List AttrV) (d2 : RdnL) (l2 : List AttrV) : entB d1 l1 d2 l2 = (rightB d1 l1 && rightB d2 l2 && (sameB d1 d2 && pairB attrEq l1 l2)) := rfl
theorem right_dn {d : RdnL} {l : List AttrV} (h : rightB d l = true) : dnB d = true := by
  unfold rightB at h; simp only [Bool.and_eq_true] at h; exact h.1.1
theorem same_right {d1 d2 : RdnL} {l1 l2 : List AttrV} (h1 : rightB d1 l1 = true) (h2 : rightB d2 l2 = true) : dnSameB d1 d2 = sameB d1 d2 := by
  unfold dnSameB; rw [right_dn h1, right_dn h2]; rfl
set_option maxRecDepth 100000 in
set_option maxHeartbeats 1000000 in
theorem EntrySame_any (ao bo xo yo : Option Addr) (d1 d2 : RdnL) (l1 l2 : List AttrV) (ca cb cx cy : Nat) (w : World) (h1 : DnAt w ao d1) (h2 : AttrsAt w bo l1) (h3 : DnAt w xo d2) (h4 : AttrsAt w yo l2) (f1 : Fits d1) (f2 : FitsA l1) (f3 : Fits d2) (f4 : FitsA l2) :
    Calls Try.prog 41 #[.agg #[.slice ao d1.length ca, .slice bo l1.length cb], .agg #[.slice xo d2.length cx, .slice yo l2.length cy]] w fun e w' => e = .returned (.bool (entB d1 l1 d2 l2)) ∧ Below w.heap.size w w' := by
  have H1 := Lib.hid h1; have H2 := Lib.hid h2; have H3 := Lib.hid h3; have H4 := Lib.hid h4; have F1 := Lib.hid f1; have F2 := Lib.hid f2; have F3 := Lib.hid f3; have F4 := Lib.hid f4
  clear h1 h2 h3 h4 f1 f2 f3 f4
  have HE := Lib.hid (entB_eq d1 l1 d2 l2)
  have HS := Lib.hid (@same_right d1 d2 l1 l2)
  have HB0 : Hid (Below w.heap.size w ((w.alloc (.cells #[.slice ao d1.length ca, .slice bo l1.length cb] 43)).alloc (.cells #[.slice xo d2.length cx, .slice yo l2.length cy] 43))) := Lib.hid (more (more (Below.refl _ _) _) _)
  have HT0 : Hid (Two ((w.alloc (.cells #[.slice ao d1.length ca, .slice bo l1.length cb] 43)).alloc (.cells #[.slice xo d2.length cx, .slice yo l2.length cy] 43)) w.heap.size 43 (.slice ao d1.length ca) (.slice bo l1.length cb)) := Lib.hid ((twoNew w 43 _ _).alloc _)
  have HT1 : Hid (Two ((w.alloc (.cells #[.slice ao d1.length ca, .slice bo l1.length cb] 43)).alloc (.cells #[.slice xo d2.length cx, .slice yo l2.length cy] 43)) (w.heap.size + 1) 43 (.slice xo d2.length cx) (.slice yo l2.length cy)) := Lib.hid (by have := twoNew (w.alloc (.cells #[.slice ao d1.length ca, .slice bo l1.length cb] 43)) 43 (.slice xo d2.length cx) (.slice yo l2.length cy); simpa using this)
  go_enter Try.func41, Try.ntmps41
  go_wp2_with fail
  refine calls_any' (fun W => Below w.heap.size w W ∧ Two W w.heap.size 43 (.slice ao d1.length ca) (.slice bo l1.length cb) ∧ Two W (w.heap.size + 1) 43 (.slice xo d2.length cx) (.slice yo l2.length cy)) ⟨HB0.out, HT0.out, HT1.out⟩ ?_
  clear HB0 HT0 HT1
  rintro W ⟨hbW, t0, t1⟩
  refine (EntryRight_any ao bo d1 l1 ca cb W (H1.out.below hbW) (H2.out.below hbW) F1.out F2.out).mono ?_
  rintro e w1 ⟨rfl, hb1⟩
  have B1 := Lib.hid (hbW.trans (hb1.mono hbW.size)); have T0 := Lib.hid (t0.below hb1); have T1 := Lib.hid (t1.below hb1)
  obtain ⟨⟨p0, p1⟩, _⟩ := T0.out.cells
  obtain ⟨⟨q0, q1⟩, _⟩ := T1.out.cells
  clear hbW hb1 t0 t1
  cases hr1 : rightB d1 l1
  · rw [hr1] at HE
    go_wp2
    go_ret
    exact ⟨ret_bool (by rw [HE.out]; rfl), B1.out⟩
  · rw [hr1] at HE
    go_wp2_with fail
    refine (EntryRight_any xo yo d2 l2 cx cy w1 (H3.out.below B1.out) (H4.out.below B1.out) F3.out F4.out).mono ?_
    rintro e w2 ⟨rfl, hb2⟩
    have B2 := Lib.hid (B1.out.trans (hb2.mono B1.out.size)); have T2 := Lib.hid (T0.out.below hb2); have T3 := Lib.hid (T1.out.below hb2)
    obtain ⟨⟨r0, r1⟩, _⟩ := T2.out.cells
    obtain ⟨⟨s0, s1⟩, _⟩ := T3.out.cells
    clear hb2 p0 p1 q0 q1 T0 T1
    cases hr2 : rightB d2 l2
    · rw [hr2] at HE
      go_wp2
      go_ret
      exact ⟨ret_bool (by rw [HE.out]; rfl), B2.out⟩
    · rw [hr2] at HE
      have HS' := Lib.hid (HS.out hr1 hr2)
      go_wp2_with fail
      refine (DnSame_any ao xo d1 d2 ca cx w2 (H1.out.below B2.out) (H3.out.below B2.out) F1.out F3.out).mono ?_
      rw [HS'.out]
      rintro e w3 ⟨rfl, hb3⟩
      have B3 := Lib.hid (B2.out.trans (hb3.mono B2.out.size)); have T4 := Lib.hid (T2.out.below hb3); have T5 := Lib.hid (T3.out.below hb3)
      obtain ⟨⟨m0, m1⟩, _⟩ := T4.out.cells
      obtain ⟨⟨n0, n1⟩, _⟩ := T5.out.cells
      clear hb3 r0 r1 s0 s1 T2 T3
      cases hs : sameB d1 d2
      · rw [hs] at HE
        go_wp2
        go_ret
        exact ⟨ret_bool (by rw [HE.out]; rfl), B3.out⟩
      · rw [hs] at HE
        go_wp2_with fail
        refine (eqAttrs_any bo yo l1 l2 cb cy w3 (H2.out.below B3.out) (H4.out.below B3.out) F2.out F4.out).mono ?_
        rintro e w4 ⟨rfl, hb4⟩
        have B4 := Lib.hid (B3.out.trans (hb4.mono B3.out.size))
        clear hb4
        generalize pairB attrEq l1 l2 = r at *
        go_wp2
        go_ret
        exact ⟨ret_bool (by rw [HE.out]; rfl), B4.out⟩
end Go.Proofs.Ytjajpdghamecoaa
/- EntryBytes: plain facts on the parts, and what the program's text returns. -/
namespace Go.Proofs.Ytjajpdghamecoaa
open Go.RowKit
attribute [local go_sem ↓] Go.wp_at_zero Go.wp_at_succ

theorem putTextV_size (s : ByteArray) : (putTextV s).size ≤ 8010 := by
  unfold putTextV
  split
  · have := encS_size (s.size : Int); rw [ByteArray.size_append]; omega
  · simp
/-- the parts of an attribute's bytes, up to the k-th value -/
def attrP (A : ByteArray) (V : List ByteArray) (k : Nat) : List ByteArray := [putTextV A, encS (V.length : Int)] ++ (V.take k).map putTextV
def attrE (a : AttrV) : ByteArray := joinS (attrP a.1 a.2 a.2.length)
def entP (d : RdnL) (l : List AttrV) (k : Nat) : List ByteArray := [putTextV (textS d), encS (l.length : Int)] ++ (l.take k).map attrE
def entE (d : RdnL) (l : List AttrV) : ByteArray := joinS (entP d l l.length)
theorem attrP_len (A : ByteArray) (V : List ByteArray) (k : Nat) (h : k ≤ V.length) : (attrP A V k).length = k + 2 := by simp [attrP]; omega
theorem entP_len (d : RdnL) (l : List AttrV) (k : Nat) (h : k ≤ l.length) : (entP d l k).length = k + 2 := by simp [entP]; omega
theorem attrP_succ (A : ByteArray) (V : List ByteArray) (k : Nat) (h : k < V.length) : attrP A V (k + 1) = attrP A V k ++ [putTextV V[k]] := by
  unfold attrP; rw [List.take_succ_eq_append_getElem h, List.map_append, List.append_assoc]; rfl
theorem entP_succ (d : RdnL) (l : List AttrV) (k : Nat) (h : k < l.length) : entP d l (k + 1) = entP d l k ++ [attrE l[k]] := by
  unfold entP; rw [List.take_succ_eq_append_getElem h, List.map_append, List.append_assoc]; rfl
theorem joinL_size (l : List ByteArray) (m : Nat) (h : ∀ s ∈ l, s.size ≤ m) : (joinL l).length ≤ l.length * m := by
  induction l with
  | nil => simp [joinL]
  | cons s l ih =>
    have h1 := ih fun t ht => h t (List.mem_cons_of_mem _ ht)
    have h2 := h s (List.mem_cons_self ..)
    have e : joinL (s :: l) = s.data.toList ++ joinL l := rfl
    rw [e, List.length_append, size_len, List.length_cons, Nat.add_mul]; omega
theorem attrP_size (A : ByteArray) (V : List ByteArray) (k : Nat) (h : k ≤ V.length) : (joinL (attrP A V k)).length ≤ (k + 2) * 8010 := by
  have := joinL_size (attrP A V k) 8010 (fun s hs => by
    unfold attrP at hs
    rcases List.mem_append.1 hs with h1 | h1
    · simp at h1
      rcases h1 with rfl | rfl
      · exact putTextV_size _
      · have := encS_size (V.length : Int); omega
    · obtain ⟨t, _, rfl⟩ := List.mem_map.1 h1
      exact putTextV_size _)
  rw [attrP_len A V k h] at this; exact this
theorem joinS_size (l : List ByteArray) : (joinS l).size = (joinL l).length := by simp [joinS, ByteArray.size]
theorem attrE_size (a : AttrV) (h : a.2.length ≤ 4) : (attrE a).size ≤ 48060 := by
  unfold attrE; rw [joinS_size]
  have := attrP_size a.1 a.2 a.2.length (Nat.le_refl _)
  have h2 : (a.2.length + 2) * 8010 ≤ 6 * 8010 := Nat.mul_le_mul_right _ (by omega)
  omega
theorem entP_size (d : RdnL) (l : List AttrV) (k : Nat) (hk : k ≤ l.length) (h : ∀ a ∈ l, a.2.length ≤ 4) : (joinL (entP d l k)).length ≤ (k + 2) * 48060 := by
  have := joinL_size (entP d l k) 48060 (fun s hs => by
    unfold entP at hs
    rcases List.mem_append.1 hs with h1 | h1
    · simp at h1
      rcases h1 with rfl | rfl
      · have := putTextV_size (textS d); omega
      · have := encS_size (l.length : Int); omega
    · obtain ⟨t, ht, rfl⟩ := List.mem_map.1 h1
      exact attrE_size t (h t (List.mem_of_mem_take ht)))
  rw [entP_len d l k hk] at this; exact this
theorem right_small {d : RdnL} {l : List AttrV} (h : rightB d l = true) : l.length ≤ 8 ∧ ∀ a ∈ l, a.2.length ≤ 4 := by
  unfold rightB attrsB at h
  simp only [Bool.and_eq_true, decide_eq_true_eq, List.all_eq_true] at h
  refine ⟨h.2.1.1, fun a ha => ?_⟩
  have := h.2.1.2 a ha
  unfold attrB valsB at this
  simp only [Bool.and_eq_true, decide_eq_true_eq] at this
  exact this.2.1.1.2
theorem own_two (w : World) (a b : ByteArray) {B : Nat} (hB : B ≤ w.heap.size) : (w.alloc (.cells #[.string a, .string b] 9)).ownsRow B 9 1 (.slice (some ⟨w.heap.size, 0, none⟩) 2 2) 2 (ss [a, b]) :=
  ⟨rfl, .inr ⟨w.heap.size, 2, #[.string a, .string b], rfl, hB, heap_alloc_new w _, by simp, by unfold maxLen; simp, rfl, rfl⟩⟩
/-- concat of a row of strings that the call owns -/
theorem concat_own (B : Nat) (v : Value) (l : List ByteArray) (w : World) (hown : w.ownsRow B 9 1 v l.length (ss l)) (h0 : 0 < l.length) (h1 : l.length ≤ 1000000) (h2 : (joinL l).length ≤ 1000000000) :
    Calls Try.prog 84 #[v] w fun e w' => e = .returned (.string (joinS l)) ∧ Below w.heap.size w w' := by
  obtain ⟨g, cp, rfl, hg1, hg2⟩ := hown.form h0
  exact concat_any g 0 cp l w h1 hg2 h2 (fun i hi => by
    have := hown.cells (g := g) rfl i (.string l[i]) (by unfold ss; rw [List.getElem?_map, List.getElem?_eq_getElem hi]; rfl)
    rw [add_plain] at this; rw [Nat.zero_add]; exact this)
set_option maxRecDepth 100000 in
set_option maxHeartbeats 1000000 in
theorem attrBytes_any (w0 : World) (A : ByteArray) (vo : Option Addr) (V : List ByteArray) (vc : Nat) (w : World) (hA : A.size ≤ maxLen) (hd : StrsAt w0 vo V) (hf : FitsV V) (h4 : V.length ≤ 4) (hB : Below w0.heap.size w0 w) :
    Calls Try.prog 83 #[.agg #[.string A, .slice vo V.length vc]] w fun e w' => e = .returned (.string (attrE (A, V))) ∧ Below w0.heap.size w0 w' := by
  have HD := Lib.hid hd; have HF := Lib.hid hf; have HB := Lib.hid hB; clear hd hf hB
  go_enter Try.func83, Try.ntmps83
  go_wp2_with fail
  refine wp_world (fun W => Below w0.heap.size w0 W ∧ Two W w.heap.size 81 (.string A) (.slice vo V.length vc)) ⟨more HB.out _, twoNew w 81 _ _⟩ ?_
  rintro W ⟨hbW, t0⟩
  have BW := Lib.hid hbW; have T0 := Lib.hid t0
  clear hbW t0 HB
  have SK : Hid (∀ X : World, Below W.heap.size W X → (Below W.heap.size W X ∧ X.cell? ⟨w.heap.size, 0, none⟩ = some (.string A) ∧ X.cell? ⟨w.heap.size, 1, none⟩ = some (.slice vo V.length vc))) :=
    Lib.hid (fun X h => ⟨h, (T0.out.below h).cells.1.1, (T0.out.below h).cells.1.2⟩)
  have H81 : Hid (∀ X, Below W.heap.size W X → Calls Try.prog 81 #[.string A] X fun e w' => e = .returned (.string (putTextV A)) ∧ Below W.heap.size W w') :=
    Lib.hid (fun X h => (PutText_any A X hA).mono fun _ _ g => ⟨g.1, h.trans (g.2.mono h.size)⟩)
  have H82 : Hid (∀ X, Below W.heap.size W X → Calls Try.prog 82 #[.int .i64 (V.length : Int)] X fun e w' => e = .returned (.string (encS (V.length : Int))) ∧ Below W.heap.size W w') :=
    Lib.hid (fun X h => (PutNum_any _ X (by omega) (by omega)).mono fun _ _ g => ⟨g.1, h.trans (g.2.mono h.size)⟩)
  have hb0 : Below W.heap.size W W := Below.refl _ _
  have hbd := hb0.drew
  have HP0 : Hid (attrP A V 0 = [putTextV A, encS (V.length : Int)]) := Lib.hid (by simp [attrP])
  have HPE : Hid (attrE (A, V) = joinS (attrP A V V.length)) := Lib.hid rfl
  have HPs := Lib.hid (attrP_succ A V); have HPl := Lib.hid (attrP_len A V); have HPz := Lib.hid (attrP_size A V V.length (Nat.le_refl _))
  generalize putTextV A = pA at *
  generalize encS (V.length : Int) = pN at *
  go_region_held3 (fun X => Below W.heap.size W X ∧ X.cell? ⟨w.heap.size, 0, none⟩ = some (.string A) ∧ X.cell? ⟨w.heap.size, 1, none⟩ = some (.slice vo V.length vc))
    (first | exact SK.out _ (by assumption) | exact SK.out _ (more (by assumption) _))
    (first
      | (go_at_call 81; refine (H81.out _ (by assumption)).mono ?_; rintro e w1 ⟨rfl, hb1⟩)
      | (go_at_call 82; refine (H82.out _ (by assumption)).mono ?_; rintro e w2 ⟨rfl, hb2⟩)
      | (fail "none"))
  clear hbd hb0 H81 H82 SK
  have hz2 := hb2.size
  have B0 := Lib.hid (more hb2 (.cells #[.string pA, .string pN] 9))
  have O0 := Lib.hid (own_two w2 pA pN hz2)
  have c1 := (T0.out.below B0.out).cells.1.2
  clear hb1 hb2
  go_wp2_with fail
  go_loopw [3, 17] (fun v i wr => ∃ k : Nat, k ≤ V.length ∧ i = .int .i64 k ∧ wr.ownsRow W.heap.size 9 1 v (attrP A V k).length (ss (attrP A V k)) ∧ Below W.heap.size W wr) (fun _ i _ => V.length - (intOf i).toNat)
  case atStart => exact ⟨0, Nat.zero_le _, rfl, by rw [HP0.out]; exact O0.out, B0.out⟩
  case round =>
    clear B0 O0 c1 HP0 T0 hz2
    obtain ⟨k, hk, rfl, hown, hbel⟩ := hrel
    have hsz := hbel.size
    by_cases hlt : k < V.length
    · obtain ⟨p, off, rfl, hp0, hd1⟩ := HD.out.at hlt
      have hz := HF.out.max hlt
      have c1 := ((BW.out.trans (hbel.mono BW.out.size)).cell (p := ⟨p, off + k, none⟩) hp0).trans hd1
      have HN := Lib.hid (HPs.out k hlt)
      have HL : Hid ((attrP A V k).length ≤ 1000000000) := Lib.hid (by rw [HPl.out k hk]; omega)
      have g1 : (0 : Int) ≤ (k : Int) := by omega
      have g2 : (k : Int) < (V.length : Int) := by omega
      clear hd1 HPs HPl HPz HPE
      generalize V[k] = x at *
      generalize attrP A V k = pre at *
      go_wp2_with (first
        | (go_at_call 81; refine (PutText_any x wr hz).mono ?_; rintro e w3 ⟨rfl, hb3⟩; have O3 := own_below hown hb3; have L3 := Nat.le_trans hsz hb3.size; have B3 := hbel.trans (hb3.mono hsz); clear hb3)
        | (at_builtin; refine append_str W.heap.size rfl _ _ rfl _ pre rfl O3 _ rfl HL.out L3 B3 ?_; intro v4 w4 hown4 hbel4 hsz4 _ _)
        | (fail "none"))
      go_roundw
      case rel => exact ⟨k + 1, by omega, by go_num, by rw [HN.out]; exact hown4, hbel4⟩
      case measure => simp [intOf]; omega
    · obtain rfl : k = V.length := by omega
      have HC := Lib.hid (concat_own W.heap.size _ (attrP A V V.length) wr hown (by rw [HPl.out _ hk]; omega) (by rw [HPl.out _ hk]; omega) (by have := HPz.out; have : (V.length + 2) * 8010 ≤ 6 * 8010 := Nat.mul_le_mul_right _ (by omega); omega))
      clear hown
      go_wp2_with (first | (go_at_call 84; refine HC.out.mono ?_; rintro e w3 ⟨rfl, hb3⟩) | (fail "none"))
      go_ret
      exact ⟨ret_str HPE.out.symm, (BW.out.trans (hbel.mono BW.out.size)).trans (hb3.mono (BW.out.trans (hbel.mono BW.out.size)).size)⟩
end Go.Proofs.Ytjajpdghamecoaa
/- EntryBytes: what the program's text returns. -/
namespace Go.Proofs.Ytjajpdghamecoaa
open Go.RowKit
attribute [local go_sem ↓] Go.wp_at_zero Go.wp_at_succ

noncomputable def bytesE (d : RdnL) (l : List AttrV) : ByteArray := if rightB d l = true then entE d l else ByteArray.empty
theorem bytesE_yes {d : RdnL} {l : List AttrV} (h : rightB d l = true) : bytesE d l = entE d l := by unfold bytesE; rw [if_pos h]
theorem bytesE_no {d : RdnL} {l : List AttrV} (h : rightB d l = false) : bytesE d l = ByteArray.empty := by unfold bytesE; rw [h]; rfl
set_option maxRecDepth 100000 in
set_option maxHeartbeats 1000000 in
theorem EntryBytes_any (ao bo : Option Addr) (d : RdnL) (l : List AttrV) (ca cb : Nat) (w : World) (hd : DnAt w ao d) (hl : AttrsAt w bo l) (hfd : Fits d) (hfl : FitsA l) :
    Calls Try.prog 43 #[.agg #[.slice ao d.length ca, .slice bo l.length cb]] w fun e w' => e = .returned (.string (bytesE d l)) ∧ Below w.heap.size w w' := by
  have HD := Lib.hid hd; have HL := Lib.hid hl; have FD := Lib.hid hfd; have FL := Lib.hid hfl; clear hd hl hfd hfl
  go_enter Try.func43, Try.ntmps43
  go_wp2_with fail
  refine calls_any' (fun W => Below w.heap.size w W ∧ Two W w.heap.size 43 (.slice ao d.length ca) (.slice bo l.length cb)) ⟨more (Below.refl _ _) _, twoNew w 43 _ _⟩ ?_
  rintro W ⟨hbW, t0⟩
  refine (EntryRight_any ao bo d l ca cb W (HD.out.below hbW) (HL.out.below hbW) FD.out FL.out).mono ?_
  rintro e w1 ⟨rfl, hb1⟩
  have B1 := Lib.hid (hbW.trans (hb1.mono hbW.size)); have T1 := Lib.hid (t0.below hb1)
  clear hbW t0 hb1
  cases hr : rightB d l
  · have HE := Lib.hid (bytesE_no hr)
    go_wp2
    go_ret
    exact ⟨ret_str HE.out.symm, B1.out⟩
  · have HE := Lib.hid (bytesE_yes hr)
    have HS := Lib.hid (right_small hr)
    have HR := Lib.hid (right_dn hr)
    have hT : (textS d).size ≤ maxLen := by
      have := text_len d FD.out; have := dnB_six HR.out
      have e : (textS d).size = (textL d).length := by simp [textS, ByteArray.size]
      have : d.length * 4000001 ≤ 6 * 4000001 := Nat.mul_le_mul_right _ (by omega)
      unfold maxLen; omega
    have h8 : l.length ≤ 8 := HS.out.1
    go_wp2_with fail
    have SK : Hid (∀ X : World, Below w1.heap.size w1 X → (Below w1.heap.size w1 X ∧ X.cell? ⟨w.heap.size, 0, none⟩ = some (.slice ao d.length ca) ∧ X.cell? ⟨w.heap.size, 1, none⟩ = some (.slice bo l.length cb))) :=
      Lib.hid (fun X h => ⟨h, (T1.out.below h).cells.1.1, (T1.out.below h).cells.1.2⟩)
    have H11 : Hid (∀ X, Below w1.heap.size w1 X → Calls Try.prog 11 #[.slice ao d.length ca] X fun e w' => e = .returned (.string (textS d)) ∧ Below w1.heap.size w1 w') :=
      Lib.hid (fun X h => (DnText_in ao d ca X (HD.out.below (B1.out.trans (h.mono B1.out.size))) FD.out HR.out).mono fun _ _ g => ⟨g.1, h.trans (g.2.mono h.size)⟩)
    have H81 : Hid (∀ X, Below w1.heap.size w1 X → Calls Try.prog 81 #[.string (textS d)] X fun e w' => e = .returned (.string (putTextV (textS d))) ∧ Below w1.heap.size w1 w') :=
      Lib.hid (fun X h => (PutText_any _ X hT).mono fun _ _ g => ⟨g.1, h.trans (g.2.mono h.size)⟩)
    have H82 : Hid (∀ X, Below w1.heap.size w1 X → Calls Try.prog 82 #[.int .i64 (l.length : Int)] X fun e w' => e = .returned (.string (encS (l.length : Int))) ∧ Below w1.heap.size w1 w') :=
      Lib.hid (fun X h => (PutNum_any _ X (by omega) (by omega)).mono fun _ _ g => ⟨g.1, h.trans (g.2.mono h.size)⟩)
    have hb0 : Below w1.heap.size w1 w1 := Below.refl _ _
    have hbd := hb0.drew
    have HP0 : Hid (entP d l 0 = [putTextV (textS d), encS (l.length : Int)]) := Lib.hid (by simp [entP])
    have HPE : Hid (bytesE d l = joinS (entP d l l.length)) := Lib.hid HE.out
    have HPs := Lib.hid (entP_succ d l); have HPl := Lib.hid (entP_len d l); have HPz := Lib.hid (entP_size d l l.length (Nat.le_refl _) HS.out.2)
    clear hT HE hr
    generalize textS d = tx at *
    generalize putTextV tx = pA at *
    generalize encS (l.length : Int) = pN at *
    go_region_held3 (fun X => Below w1.heap.size w1 X ∧ X.cell? ⟨w.heap.size, 0, none⟩ = some (.slice ao d.length ca) ∧ X.cell? ⟨w.heap.size, 1, none⟩ = some (.slice bo l.length cb))
      (first | exact SK.out _ (by assumption) | exact SK.out _ (more (by assumption) _))
      (first
        | (go_at_call 11; refine (H11.out _ (by assumption)).mono ?_; rintro e w2 ⟨rfl, hb2⟩)
        | (go_at_call 81; refine (H81.out _ (by assumption)).mono ?_; rintro e w3 ⟨rfl, hb3⟩)
        | (go_at_call 82; refine (H82.out _ (by assumption)).mono ?_; rintro e w4 ⟨rfl, hb4⟩)
        | (fail "none"))
    clear hbd hb0 H11 H81 H82 SK
    have hz2 := hb4.size
    have B0 := Lib.hid (more hb4 (.cells #[.string pA, .string pN] 9))
    have O0 := Lib.hid (own_two w4 pA pN hz2)
    have c1 := (T1.out.below B0.out).cells.1.2
    clear hb2 hb3 hb4
    go_wp2_with fail
    go_loopw [3, 21] (fun v i wr => ∃ k : Nat, k ≤ l.length ∧ i = .int .i64 k ∧ wr.ownsRow w1.heap.size 9 1 v (entP d l k).length (ss (entP d l k)) ∧ Below w1.heap.size w1 wr) (fun _ i _ => l.length - (intOf i).toNat)
    case atStart => exact ⟨0, Nat.zero_le _, rfl, by rw [HP0.out]; exact O0.out, B0.out⟩
    case round =>
      clear B0 O0 c1 HP0 T1 hz2
      obtain ⟨k, hk, rfl, hown, hbel⟩ := hrel
      have hsz := hbel.size
      by_cases hlt : k < l.length
      · have BR := Lib.hid (B1.out.trans (hbel.mono B1.out.size))
        obtain ⟨p, off, vo, vc, rfl, hp0, hd1, hd2, hv⟩ := (HL.out.below BR.out).at hlt
        have HV := Lib.hid hv.1
        have hz := FL.out.max hlt
        have FV := Lib.hid (FL.out.at hlt).2
        have hv4 := HS.out.2 _ (List.getElem_mem hlt)
        have HN := Lib.hid (HPs.out k hlt)
        have HN' : Hid (entP d l (k + 1) = entP d l k ++ [attrE (l[k].1, l[k].2)]) := Lib.hid HN.out
        have HLn : Hid ((entP d l k).length ≤ 1000000000) := Lib.hid (by rw [HPl.out k hk]; omega)
        have g1 : (0 : Int) ≤ (k : Int) := by omega
        have g2 : (k : Int) < (l.length : Int) := by omega
        clear HPs HPl HPz HPE HN hv
        generalize l[k].1 = A at *
        generalize l[k].2 = V at *
        generalize entP d l k = pre at *
        have O2 := Lib.hid hown
        have B2 := Lib.hid hbel
        clear hown hbel
        go_wp2_with (first
          | (go_at_call 83; refine (attrBytes_any wr A vo V vc _ hz HV.out FV.out hv4 (more (Below.refl _ _) _)).mono ?_; rintro e w3 ⟨rfl, hb3⟩; have O3 := own_below O2.out hb3; have L3 := Nat.le_trans hsz hb3.size; have B3 := B2.out.trans (hb3.mono hsz); clear hb3)
          | (at_builtin; refine append_str w1.heap.size rfl _ _ rfl _ pre rfl O3 _ rfl HLn.out L3 B3 ?_; intro v4 w4 hown4 hbel4 hsz4 _ _)
          | (fail "none"))
        go_roundw
        case rel => exact ⟨k + 1, by omega, by go_num, by rw [HN'.out]; exact hown4, hbel4⟩
        case measure => simp [intOf]; omega
      · obtain rfl : k = l.length := by omega
        have HC := Lib.hid (concat_own w1.heap.size _ (entP d l l.length) wr hown (by rw [HPl.out _ hk]; omega) (by rw [HPl.out _ hk]; omega) (by have := HPz.out; have : (l.length + 2) * 48060 ≤ 10 * 48060 := Nat.mul_le_mul_right _ (by omega); omega))
        clear hown
        go_wp2_with (first | (go_at_call 84; refine HC.out.mono ?_; rintro e w3 ⟨rfl, hb3⟩) | (fail "none"))
        go_ret
        exact ⟨ret_str HPE.out.symm, (B1.out.trans (hbel.mono B1.out.size)).trans (hb3.mono (B1.out.trans (hbel.mono B1.out.size)).size)⟩
end Go.Proofs.Ytjajpdghamecoaa
/- EntryBytes: what the specification's text returns. -/
namespace Go.Proofs.Ytjajpdghamecoaa
open Go.RowKit
attribute [local go_sem ↓] Go.wp_at_zero Go.wp_at_succ

theorem joinS_snoc (l : List ByteArray) (s : ByteArray) : joinS (l ++ [s]) = joinS l ++ s := by
  apply ByteArray.ext; unfold joinS; rw [joinL_snoc]; simp
theorem attrP_zero (A : ByteArray) (V : List ByteArray) : joinS (attrP A V 0) = putTextV A ++ encS (V.length : Int) := by
  have : attrP A V 0 = [putTextV A, encS (V.length : Int)] := by simp [attrP]
  rw [this, joinS_two]
theorem entP_zero (d : RdnL) (l : List AttrV) : joinS (entP d l 0) = putTextV (textS d) ++ encS (l.length : Int) := by
  have : entP d l 0 = [putTextV (textS d), encS (l.length : Int)] := by simp [entP]
  rw [this, joinS_two]
set_option maxRecDepth 100000 in
set_option maxHeartbeats 1000000 in
theorem l03Bytes_any (ao bo : Option Addr) (d : RdnL) (l : List AttrV) (ca cb : Nat) (w : World) (hd : DnAt w ao d) (hl : AttrsAt w bo l) (hfd : Fits d) (hfl : FitsA l) (hr : rightB d l = true) :
    Calls Try.prog 80 #[.agg #[.slice ao d.length ca, .slice bo l.length cb]] w fun e w' => e = .returned (.string (entE d l)) ∧ Below w.heap.size w w' := by
  have HD := Lib.hid hd; have HL := Lib.hid hl; have FD := Lib.hid hfd; have FL := Lib.hid hfl; clear hd hl hfd hfl
  have HS := Lib.hid (right_small hr)
  have HR := Lib.hid (right_dn hr)
  have hT : (textS d).size ≤ maxLen := by
    have := text_len d FD.out; have := dnB_six HR.out
    have e : (textS d).size = (textL d).length := by simp [textS, ByteArray.size]
    have : d.length * 4000001 ≤ 6 * 4000001 := Nat.mul_le_mul_right _ (by omega)
    unfold maxLen; omega
  have h8 : l.length ≤ 8 := HS.out.1
  have HZ := Lib.hid (fun k hk => entP_size d l k hk HS.out.2)
  have HP0 := Lib.hid (entP_zero d l); have HPs := Lib.hid (entP_succ d l)
  have HPE : Hid (entE d l = joinS (entP d l l.length)) := Lib.hid rfl
  clear hr
  go_enter Try.func80, Try.ntmps80
  go_wp2_with fail
  refine wp_world (fun W => Below w.heap.size w W ∧ Two W w.heap.size 43 (.slice ao d.length ca) (.slice bo l.length cb)) ⟨more (Below.refl _ _) _, twoNew w 43 _ _⟩ ?_
  rintro W ⟨hbW, t0⟩
  have BW := Lib.hid hbW; have T0 := Lib.hid t0
  clear hbW t0
  have SK : Hid (∀ X : World, Below W.heap.size W X → (Below W.heap.size W X ∧ X.cell? ⟨w.heap.size, 0, none⟩ = some (.slice ao d.length ca) ∧ X.cell? ⟨w.heap.size, 1, none⟩ = some (.slice bo l.length cb))) :=
    Lib.hid (fun X h => ⟨h, (T0.out.below h).cells.1.1, (T0.out.below h).cells.1.2⟩)
  have H48 : Hid (∀ X, Below W.heap.size W X → Calls Try.prog 48 #[.slice ao d.length ca] X fun e w' => e = .returned (.string (textS d)) ∧ Below W.heap.size W w') :=
    Lib.hid (fun X h => (l02Text_any ao d ca X (HD.out.below (BW.out.trans (h.mono BW.out.size))) FD.out (dnB_six HR.out)).mono fun _ _ g => ⟨g.1, h.trans (g.2.mono h.size)⟩)
  have H116 : Hid (∀ X, Below W.heap.size W X → Calls Try.prog 116 #[.string (textS d)] X fun e w' => e = .returned (.string (putTextV (textS d))) ∧ Below W.heap.size W w') :=
    Lib.hid (fun X h => (SpecPutText_any _ X hT).mono fun _ _ g => ⟨g.1, h.trans (g.2.mono h.size)⟩)
  have H117 : Hid (∀ X, Below W.heap.size W X → Calls Try.prog 117 #[.int .i64 (l.length : Int)] X fun e w' => e = .returned (.string (encS (l.length : Int))) ∧ Below W.heap.size W w') :=
    Lib.hid (fun X h => (SpecPutNum_any _ X (by omega) (by omega)).mono fun _ _ g => ⟨g.1, h.trans (g.2.mono h.size)⟩)
  have hb0 : Below W.heap.size W W := Below.refl _ _
  have hbd := hb0.drew
  have hct := cat (putTextV (textS d)) (encS (l.length : Int)) (by have := putTextV_size (textS d); have := encS_size (l.length : Int); omega)
  generalize textS d = tx at *
  generalize putTextV tx = pA at *
  generalize encS (l.length : Int) = pN at *
  go_region_held3 (fun X => Below W.heap.size W X ∧ X.cell? ⟨w.heap.size, 0, none⟩ = some (.slice ao d.length ca) ∧ X.cell? ⟨w.heap.size, 1, none⟩ = some (.slice bo l.length cb))
    (exact SK.out _ (by assumption))
    (first
      | (go_at_call 48; refine (H48.out _ (by assumption)).mono ?_; rintro e w2 ⟨rfl, hb2⟩)
      | (go_at_call 116; refine (H116.out _ (by assumption)).mono ?_; rintro e w3 ⟨rfl, hb3⟩)
      | (go_at_call 117; refine (H117.out _ (by assumption)).mono ?_; rintro e w4 ⟨rfl, hb4⟩)
      | (fail "none"))
  clear hbd hb0 H48 H116 H117 SK hct hb2 hb3
  go_wp2_with fail
  go_loopw [3, 4] (fun v i wr => ∃ k : Nat, k ≤ l.length ∧ i = .int .i64 k ∧ v = .string (joinS (entP d l k)) ∧ Below W.heap.size W wr) (fun _ i _ => l.length - (intOf i).toNat)
  case atStart => exact ⟨0, Nat.zero_le _, rfl, by rw [HP0.out], by assumption⟩
  case round =>
    clear HP0 hb4
    obtain ⟨Y, rfl⟩ : ∃ Y, Y = wr := ⟨_, rfl⟩
    obtain ⟨k, hk, rfl, rfl, hbel⟩ := hrel
    have hsz := hbel.size
    by_cases hlt : k < l.length
    · have BR := Lib.hid (BW.out.trans (hbel.mono BW.out.size))
      obtain ⟨p, off, vo, vc, rfl, hp0, hd1, hd2, hv⟩ := (HL.out.below BR.out).at hlt
      have HV := Lib.hid hv.1
      have hz := FL.out.max hlt
      have FV := Lib.hid (FL.out.at hlt).2
      have hv4 := HS.out.2 _ (List.getElem_mem hlt)
      have HN := Lib.hid (HPs.out k hlt)
      have HN' : Hid (joinS (entP d l (k + 1)) = joinS (entP d l k) ++ joinS (attrP l[k].1 l[k].2 l[k].2.length)) := Lib.hid (by rw [HN.out, joinS_snoc]; rfl)
      have HJ : Hid ((joinS (entP d l k)).size ≤ 1000000) := Lib.hid (by have := HZ.out k hk; rw [joinS_size]; have : (k + 2) * 48060 ≤ 10 * 48060 := Nat.mul_le_mul_right _ (by omega); omega)
      have g1 : (0 : Int) ≤ (k : Int) := by omega
      have g2 : (k : Int) < (l.length : Int) := by omega
      have TR := Lib.hid (T0.out.below hbel)
      clear HN hv HPs HZ
      generalize joinS (entP d l k) = pre at *
      generalize l[k].1 = A at *
      generalize l[k].2 = V at *
      have S1 : Hid (∀ X : World, Below Y.heap.size Y X → (Below Y.heap.size Y X ∧ X.cell? ⟨w.heap.size, 1, none⟩ = some (.slice (some ⟨p, off, none⟩) l.length cb) ∧ X.cell? ⟨p, off + k * 2, none⟩ = some (.string A) ∧ X.cell? ⟨p, off + k * 2 + 1, none⟩ = some (.slice vo V.length vc))) :=
        Lib.hid (fun X h => ⟨h, (TR.out.below h).cells.1.2, (h.cell (p := ⟨p, off + k * 2, none⟩) hp0).trans hd1, (h.cell (p := ⟨p, off + k * 2 + 1, none⟩) hp0).trans hd2⟩)
      have H116 : Hid (∀ X, Below Y.heap.size Y X → Calls Try.prog 116 #[.string A] X fun e w' => e = .returned (.string (putTextV A)) ∧ Below Y.heap.size Y w') :=
        Lib.hid (fun X h => (SpecPutText_any _ X hz).mono fun _ _ g => ⟨g.1, h.trans (g.2.mono h.size)⟩)
      have H117 : Hid (∀ X, Below Y.heap.size Y X → Calls Try.prog 117 #[.int .i64 (V.length : Int)] X fun e w' => e = .returned (.string (encS (V.length : Int))) ∧ Below Y.heap.size Y w') :=
        Lib.hid (fun X h => (SpecPutNum_any _ X (by omega) (by omega)).mono fun _ _ g => ⟨g.1, h.trans (g.2.mono h.size)⟩)
      have hJ := HJ.out
      have sA := putTextV_size A
      have sN := encS_size (V.length : Int)
      have hc1 := cat pre (putTextV A) (by omega)
      have hc2 := cat (pre ++ putTextV A) (encS (V.length : Int)) (by rw [ByteArray.size_append]; omega)
      have HA0 : Hid (joinS (attrP A V 0) = putTextV A ++ encS (V.length : Int)) := Lib.hid (attrP_zero A V)
      clear sA sN
      generalize putTextV A = pA' at *
      generalize encS (V.length : Int) = pN' at *
      have hb0 : Below Y.heap.size Y Y := Below.refl _ _
      have hbd := hb0.drew
      have q1 := (S1.out Y hb0).2.1
      go_wp2_with fail
      clear q1
      go_region_held3 (fun X => Below Y.heap.size Y X ∧ X.cell? ⟨w.heap.size, 1, none⟩ = some (.slice (some ⟨p, off, none⟩) l.length cb) ∧ X.cell? ⟨p, off + k * 2, none⟩ = some (.string A) ∧ X.cell? ⟨p, off + k * 2 + 1, none⟩ = some (.slice vo V.length vc))
        (exact S1.out _ (by assumption))
        (first
          | (go_at_call 116; refine (H116.out _ (by assumption)).mono ?_; rintro e w5 ⟨rfl, hb5⟩)
          | (go_at_call 117; refine (H117.out _ (by assumption)).mono ?_; rintro e w6 ⟨rfl, hb6⟩)
          | (fail "none"))
      go_wp2_with fail
      clear H116 H117 hb0 hbd hc1 hc2 hJ hb5
      have HPs' := Lib.hid (attrP_succ A V); have HZ' := Lib.hid (attrP_size A V)
      have HB6 := Lib.hid hb6; clear hb6
      go_loopw [3, 5] (fun v i X => ∃ j : Nat, j ≤ V.length ∧ i = .int .i64 j ∧ v = .string (pre ++ joinS (attrP A V j)) ∧ Below Y.heap.size Y X) (fun _ i _ => V.length - (intOf i).toNat)
      case atStart => exact ⟨0, Nat.zero_le _, rfl, by rw [HA0.out, ByteArray.append_assoc], HB6.out⟩
      case round =>
        clear HB6 HA0
        obtain ⟨j, hj, rfl, rfl, hbx⟩ := hrel
        have hsx := hbx.size
        by_cases hjl : j < V.length
        · obtain ⟨q, of2, rfl, hq0, hq1⟩ := HV.out.at hjl
          have hzx := FV.out.max hjl
          have HN2 := Lib.hid (HPs'.out j hjl)
          have HN3 : Hid (pre ++ joinS (attrP A V (j + 1)) = pre ++ joinS (attrP A V j) ++ putTextV V[j]) := Lib.hid (by rw [HN2.out, joinS_snoc, ByteArray.append_assoc])
          have hz3 := HZ'.out j hj
          have hz4 : (j + 2) * 8010 ≤ 6 * 8010 := Nat.mul_le_mul_right _ (by omega)
          have hz5 : (pre ++ joinS (attrP A V j)).size ≤ 2000000 := by have := HJ.out; rw [ByteArray.size_append, joinS_size]; omega
          have g3 : (0 : Int) ≤ (j : Int) := by omega
          have g4 : (j : Int) < (V.length : Int) := by omega
          have S2 : Hid (∀ X : World, Below wr.heap.size wr X → (Below wr.heap.size wr X ∧ X.cell? ⟨w.heap.size, 1, none⟩ = some (.slice (some ⟨p, off, none⟩) l.length cb) ∧ X.cell? ⟨p, off + k * 2 + 1, none⟩ = some (.slice (some ⟨q, of2, none⟩) V.length vc) ∧ X.cell? ⟨q, of2 + j, none⟩ = some (.string V[j]))) :=
            Lib.hid (fun X h => by
              have hx := hbx.trans (h.mono hsx)
              have a := S1.out X hx
              exact ⟨h, a.2.1, a.2.2.2, (hx.cell (p := ⟨q, of2 + j, none⟩) hq0).trans hq1⟩)
          clear HN2 hz3 hz4 hq1
          generalize V[j] = x at *
          have sx := putTextV_size x
          have hc1 := cat (pre ++ joinS (attrP A V j)) (putTextV x) (by omega)
          have H116 : Hid (∀ X, Below wr.heap.size wr X → Calls Try.prog 116 #[.string x] X fun e w' => e = .returned (.string (putTextV x)) ∧ Below wr.heap.size wr w') :=
            Lib.hid (fun X h => (SpecPutText_any _ X hzx).mono fun _ _ g => ⟨g.1, h.trans (g.2.mono h.size)⟩)
          clear sx hz5
          generalize pre ++ joinS (attrP A V j) = cur at *
          generalize putTextV x = px at *
          have hb0 : Below wr.heap.size wr wr := Below.refl _ _
          have hbd := hb0.drew
          obtain ⟨_, q1, q2, q3⟩ := S2.out wr hb0
          go_wp2_with (first
              | (go_at_call 116; refine (H116.out _ (by assumption)).mono ?_; rintro e w7 ⟨rfl, hb7⟩)
              | (fail "none"))
          go_roundw
          case rel => exact ⟨j + 1, by omega, by go_num, by rw [HN3.out], hbx.trans (hb7.mono hsx)⟩
          case measure => simp [intOf]; omega
        · obtain rfl : j = V.length := by omega
          obtain ⟨_, q1, _, q2⟩ := S1.out wr hbx
          go_wp2
          go_roundw
          case rel => exact ⟨k + 1, by omega, by go_num, by rw [HN'.out], hbel.trans (hbx.mono hsz)⟩
          case measure => simp [intOf]; omega
    · obtain rfl : k = l.length := by omega
      have c1 := (T0.out.below hbel).cells.1.2
      go_wp2
      go_ret
      exact ⟨ret_str HPE.out.symm, BW.out.trans (hbel.mono BW.out.size)⟩
end Go.Proofs.Ytjajpdghamecoaa
/- Arguments that are names: where they lie. -/
namespace Go.Proofs.Ytjajpdghamecoaa
open Go.RowKit Go.ChangeShapes Go.WideShapes Go.Deep

theorem Try.struct114 : ∃ f0 f1 : Field, Try.prog.underlying 114 = some (.struct #[f0, f1]) ∧ f0.offset = 0 ∧ f1.offset = 1 ∧ Try.prog.underlying f0.type = some .string ∧ Try.prog.underlying f1.type = some .string ∧ Try.prog.cellsOf f0.type = 1 ∧ Try.prog.cellsOf f1.type = 1 := by
  refine ⟨_, _, Try.underlying114, ?_, ?_, ?_, ?_, ?_, ?_⟩
  all_goals kernel_rfl
theorem Try.cells114 : Try.prog.cellsOf 114 = 2 := by kernel_rfl
section
variable {H : Type} {enc : TypeId × Value → H} {w : World} {base : Nat} {spare : Nat → Bool} {held : Bool}
theorem open_dn {fuel : Nat} {ao : Option Addr} {len cap : Nat} {x : DataW H × List MemPlace} (h : DataW.trod enc Try.prog w base spare held fuel 35 [.slice ao len cap] = some x) :
    ∃ d : RdnL, len = d.length ∧ DnAt w ao d ∧ Long d ∧ len ≤ cap ∧ (ao = none → cap = 0) := by
  obtain ⟨f0, f1, hst, o0, o1, u0, u1, c0, c1⟩ := Try.struct114
  rcases open_slice_pairs Try.underlying35 hst Try.cells114 o0 o1 c0 c1 h with ⟨hcs, _⟩ | ⟨a, l, c, m, n, V0, V1, D0, D1, P0, P1, hcs, hb, hl, hm, hmm, _, hx⟩
  · simp at hcs
    obtain ⟨rfl, rfl, rfl⟩ := hcs
    exact ⟨[], rfl, .inl rfl, ⟨by simp, by simp⟩, Nat.le_refl _, fun _ => rfl⟩
  · simp at hcs
    obtain ⟨rfl, rfl, rfl⟩ := hcs
    have hle : len ≤ m := by rw [hmm]; split <;> omega
    have hs : ∀ i, i < len → ∃ s t : ByteArray, V0 i = .string s ∧ V1 i = .string t ∧ s.size ≤ maxLen ∧ t.size ≤ maxLen := by
      intro i hi
      obtain ⟨_, _, h1, h2⟩ := hx i (by omega)
      obtain ⟨s, e1, _, z1⟩ := DataW.trod_string u0 h1
      obtain ⟨t, e2, _, z2⟩ := DataW.trod_string u1 h2
      simp at e1 e2
      exact ⟨s, t, e1, e2, z1, z2⟩
    refine ⟨(List.range len).map fun i => (strOf (V0 i), strOf (V1 i)), by simp, ?_, ⟨by simp; unfold maxLen at hm; omega, ?_⟩, hl, fun h => by cases h⟩
    · by_cases h0 : len = 0
      · subst h0; exact .inl rfl
      · obtain ⟨b, off, spot⟩ := a
        have hspot : spot = none := by
          have := (hx 0 (by omega)).1
          simpa [Addr.add] using World.cell?_spot this
        subst hspot
        refine .inr ⟨b, off, rfl, ?_, fun i hi => ?_⟩
        · have := World.block_lt_of_cell? w _ (hx 0 (by omega)).1
          simpa [Addr.add] using this
        · have hi' : i < len := by simpa using hi
          obtain ⟨s, t, e1, e2, _, _⟩ := hs i hi'
          obtain ⟨h1, h2, _, _⟩ := hx i (by omega)
          rw [Go.WideShapes.add_plain] at h1 h2
          rw [List.getElem_map, List.getElem_range, e1, e2]
          rw [e1] at h1
          rw [e2] at h2
          exact ⟨h1, h2⟩
    · intro r hr
      obtain ⟨i, hi, rfl⟩ := List.mem_map.1 hr
      obtain ⟨s, t, e1, e2, z1, z2⟩ := hs i (by simpa using hi)
      rw [e1, e2]
      exact ⟨z1, z2⟩
end
end Go.Proofs.Ytjajpdghamecoaa
/- The helpers of the laws over entries: comparisons; arguments that are entries. -/
namespace Go.Proofs.Ytjajpdghamecoaa
open Go.RowKit
attribute [local go_sem ↓] Go.wp_at_zero Go.wp_at_succ

set_option maxRecDepth 100000 in
set_option maxHeartbeats 1000000 in
theorem eqStringS_same (ao bo : Option Addr) (d : List ByteArray) (ca cb : Nat) (w : World) (hda : StrsAt w ao d) (hdb : StrsAt w bo d) (hl : d.length ≤ 1048576) :
    Calls Try.prog 34 #[.slice ao d.length ca, .slice bo d.length cb] w fun e w' => e = .returned (.bool true) ∧ Below w.heap.size w w' := by
  have HA := Lib.hid hda; have HB := Lib.hid hdb; clear hda hdb
  go_enter Try.func34, Try.ntmps34
  go_wp2
  go_loopw [5] (fun i wr => ∃ k : Nat, k ≤ d.length ∧ i = .int .i64 k ∧ Below w.heap.size w wr) (fun i _ => d.length - (intOf i).toNat)
  case atStart => exact ⟨0, Nat.zero_le _, rfl, Below.refl _ _⟩
  case round =>
    obtain ⟨k, hk, rfl, hbel⟩ := hrel
    have hsz := hbel.size
    by_cases hlt : k < d.length
    · obtain ⟨p, off, rfl, hp0, hd1⟩ := HA.out.at hlt
      obtain ⟨q, off', rfl, hq0, he1⟩ := HB.out.at hlt
      generalize d[k] = A at *
      have c1 := (hbel.cell (p := ⟨p, off + k, none⟩) hp0).trans hd1
      have c2 := (hbel.cell (p := ⟨q, off' + k, none⟩) hq0).trans he1
      have hkk : (A.toList == A.toList) = true := by simp
      clear hd1 he1
      have g1 : (0 : Int) ≤ (k : Int) := by omega
      have g2 : (k : Int) < (d.length : Int) := by omega
      have hbd := hbel.drew
      have c1' : wr.drew.cell? ⟨p, off + k, none⟩ = some (.string A) := c1
      have c2' : wr.drew.cell? ⟨q, off' + k, none⟩ = some (.string A) := c2
      go_wp2_with fail
      go_region_held3 (fun W => Below w.heap.size w W ∧ W.cell? ⟨p, off + k, none⟩ = some (.string A) ∧ W.cell? ⟨q, off' + k, none⟩ = some (.string A))
        (first | exact ⟨hbel, c1, c2⟩ | exact ⟨hbd, c1', c2'⟩)
        (fail "none")
      all_goals
        go_wp2
        go_roundw
        case rel => exact ⟨k + 1, by omega, by go_num, by first | exact hbel | exact hbd⟩
        case measure => simp [intOf]; omega
    · go_wp2
      go_ret
      exact ⟨rfl, hbel⟩
theorem eqStringS_from (w0 : World) (ao bo : Option Addr) (d : List ByteArray) (ca cb : Nat) (w : World) (hB : Below w0.heap.size w0 w) (hda : StrsAt w ao d) (hdb : StrsAt w bo d) (hl : d.length ≤ 1048576) :
    Calls Try.prog 34 #[.slice ao d.length ca, .slice bo d.length cb] w fun e w' => e = .returned (.bool true) ∧ Below w0.heap.size w0 w' :=
  (eqStringS_same ao bo d ca cb w hda hdb hl).mono fun _ _ h => ⟨h.1, hB.trans (h.2.mono hB.size)⟩
set_option maxRecDepth 100000 in
set_option maxHeartbeats 1000000 in
theorem eqAttr_same (w0 : World) (A : ByteArray) (vo uo : Option Addr) (l : List ByteArray) (vc uc : Nat) (w : World) (hB : Below w0.heap.size w0 w) (hv : StrsAt w0 vo l) (hu : StrsAt w0 uo l) (hl : l.length ≤ 1048576) :
    Calls Try.prog 109 #[.agg #[.string A, .slice vo l.length vc], .agg #[.string A, .slice uo l.length uc]] w fun e w' => e = .returned (.bool true) ∧ Below w0.heap.size w0 w' := by
  have HV := Lib.hid hv; have HU := Lib.hid hu; have HB := Lib.hid hB; clear hv hu hB
  have hkk : (A.toList == A.toList) = true := by simp
  go_enter Try.func109, Try.ntmps109
  go_wp2_with fail
  have hb1 := more (more HB.out (.cells #[.string A, .slice vo l.length vc] 81)) (.cells #[.string A, .slice uo l.length uc] 81)
  refine (eqStringS_from w0 vo uo l vc uc _ hb1 (HV.out.below hb1) (HU.out.below hb1) hl).mono ?_
  rintro e w2 ⟨rfl, hb2⟩
  clear hb1
  go_wp2
  go_ret
  exact ⟨rfl, hb2⟩
set_option maxRecDepth 100000 in
set_option maxHeartbeats 1000000 in
theorem eqAttrS_same (ao bo : Option Addr) (d : List AttrV) (ca cb : Nat) (w : World) (hda : AttrsAt w ao d) (hdb : AttrsAt w bo d) (hf : FitsA d) :
    Calls Try.prog 68 #[.slice ao d.length ca, .slice bo d.length cb] w fun e w' => e = .returned (.bool true) ∧ Below w.heap.size w w' := by
  have hl := hf.1
  have HA := Lib.hid hda; have HB := Lib.hid hdb; have HF := Lib.hid hf; clear hda hdb hf
  go_enter Try.func68, Try.ntmps68
  go_wp2
  go_loopw [5] (fun i wr => ∃ k : Nat, k ≤ d.length ∧ i = .int .i64 k ∧ Below w.heap.size w wr) (fun i _ => d.length - (intOf i).toNat)
  case atStart => exact ⟨0, Nat.zero_le _, rfl, Below.refl _ _⟩
  case round =>
    obtain ⟨k, hk, rfl, hbel⟩ := hrel
    have hsz := hbel.size
    by_cases hlt : k < d.length
    · obtain ⟨p, off, vo, vc, rfl, hp0, hd1, hd2, hv⟩ := HA.out.at hlt
      obtain ⟨q, off', uo, uc, rfl, hq0, he1, he2, hu⟩ := HB.out.at hlt
      have hz := (HF.out.at hlt).2.1
      have HV := Lib.hid hv.1; have HU := Lib.hid hu.1; clear hv hu
      generalize d[k].1 = A at *
      generalize d[k].2 = V at *
      have SK : Hid (∀ W : World, Below w.heap.size w W → (Below w.heap.size w W ∧ W.cell? ⟨p, off + k * 2, none⟩ = some (.string A) ∧ W.cell? ⟨p, off + k * 2 + 1, none⟩ = some (.slice vo V.length vc) ∧ W.cell? ⟨q, off' + k * 2, none⟩ = some (.string A) ∧ W.cell? ⟨q, off' + k * 2 + 1, none⟩ = some (.slice uo V.length uc))) :=
        Lib.hid (fun W h => ⟨h, (h.cell (p := ⟨p, _, none⟩) hp0).trans hd1, (h.cell (p := ⟨p, _, none⟩) hp0).trans hd2, (h.cell (p := ⟨q, _, none⟩) hq0).trans he1, (h.cell (p := ⟨q, _, none⟩) hq0).trans he2⟩)
      have hbd := hbel.drew
      clear hd1 hd2 he1 he2
      have g1 : (0 : Int) ≤ (k : Int) := by omega
      have g2 : (k : Int) < (d.length : Int) := by omega
      go_wp2_with fail
      go_region_held3 (fun W => Below w.heap.size w W ∧ W.cell? ⟨p, off + k * 2, none⟩ = some (.string A) ∧ W.cell? ⟨p, off + k * 2 + 1, none⟩ = some (.slice vo V.length vc) ∧ W.cell? ⟨q, off' + k * 2, none⟩ = some (.string A) ∧ W.cell? ⟨q, off' + k * 2 + 1, none⟩ = some (.slice uo V.length uc))
        (exact SK.out _ (by assumption))
        (first | (go_at_call 109; refine (eqAttr_same w _ _ _ _ _ _ _ (by assumption) HV.out HU.out hz).mono ?_; rintro e w2 ⟨rfl, hb2⟩) | (fail "none"))
      all_goals
        go_wp2
        go_roundw
        case rel => exact ⟨k + 1, by omega, by go_num, hb2⟩
        case measure => simp [intOf]; omega
    · go_wp2
      go_ret
      exact ⟨rfl, hbel⟩
set_option maxRecDepth 100000 in
set_option maxHeartbeats 1000000 in
theorem eqEntry_at (ao bo xo yo : Option Addr) (d : RdnL) (l : List AttrV) (ca cb cx cy : Nat) (w : World) (hv1 : DnAt w ao d) (hv2 : AttrsAt w bo l) (hu1 : DnAt w xo d) (hu2 : AttrsAt w yo l) (hd : d.length ≤ 1048576) (hf : FitsA l) :
    Calls Try.prog 31 #[.agg #[.slice ao d.length ca, .slice bo l.length cb], .agg #[.slice xo d.length cx, .slice yo l.length cy]] w fun e w' => e = .returned (.bool true) ∧ Below w.heap.size w w' := by
  have HV1 := Lib.hid hv1; have HV2 := Lib.hid hv2; have HU1 := Lib.hid hu1; have HU2 := Lib.hid hu2; have HF := Lib.hid hf
  clear hv1 hv2 hu1 hu2 hf
  go_enter Try.func31, Try.ntmps31
  go_wp2_with fail
  refine calls_any' (fun W => Below w.heap.size w W ∧ Two W w.heap.size 43 (.slice ao d.length ca) (.slice bo l.length cb) ∧ Two W (w.heap.size + 1) 43 (.slice xo d.length cx) (.slice yo l.length cy)) ⟨more (more (Below.refl _ _) _) _, (twoNew w 43 _ _).alloc _, (by have := twoNew (w.alloc (Obj.cells #[.slice ao d.length ca, .slice bo l.length cb] 43)) 43 (.slice xo d.length cx) (.slice yo l.length cy); simpa using this)⟩ ?_
  rintro W ⟨hbW, t0, t1⟩
  refine (eqRdnS_same ao xo d ca cx W (HV1.out.below hbW) (HU1.out.below hbW) hd).mono ?_
  rintro e w2 ⟨rfl, hb2⟩
  have B2 := Lib.hid (hbW.trans (hb2.mono hbW.size))
  obtain ⟨⟨c0, c1⟩, _⟩ := (t0.below hb2).cells
  obtain ⟨⟨d0, d1⟩, _⟩ := (t1.below hb2).cells
  clear hbW t0 t1 hb2
  go_wp2_with fail
  refine (eqAttrS_same bo yo l cb cy w2 (HV2.out.below B2.out) (HU2.out.below B2.out) HF.out).mono ?_
  rintro e w3 ⟨rfl, hb3⟩
  have B3 := Lib.hid (B2.out.trans (hb3.mono B2.out.size))
  clear hb3
  go_wp2
  go_ret
  exact ⟨rfl, B3.out⟩
theorem eqEntry_same (v u : Value) (d : RdnL) (l : List AttrV) (w : World) (hv : EntAt w v d l) (hu : EntAt w u d l) (hd : d.length ≤ 1048576) (hf : FitsA l) :
    Calls Try.prog 31 #[v, u] w fun e w' => e = .returned (.bool true) ∧ Below w.heap.size w w' := by
  obtain ⟨ao, ca, bo, cb, rfl, hv1, hv2, _, _⟩ := hv
  obtain ⟨xo, cx, yo, cy, rfl, hu1, hu2, _, _⟩ := hu
  exact eqEntry_at ao bo xo yo d l ca cb cx cy w hv1 hv2 hu1 hu2 hd hf
end Go.Proofs.Ytjajpdghamecoaa
/- Arguments that are entries: where they lie. -/
namespace Go.Proofs.Ytjajpdghamecoaa
open Go.RowKit Go.ChangeShapes Go.WideShapes Go.Joins Go.Deep

theorem list_of {α : Type} (Q : Nat → α → Prop) (n : Nat) (h : ∀ i, i < n → ∃ a, Q i a) : ∃ l : List α, l.length = n ∧ ∀ i (hi : i < l.length), Q i l[i] := by
  induction n with
  | zero => exact ⟨[], rfl, fun i hi => by simp at hi⟩
  | succ n ih =>
    obtain ⟨l, hl, hq⟩ := ih fun i hi => h i (by omega)
    obtain ⟨a, ha⟩ := h n (by omega)
    refine ⟨l ++ [a], by simp [hl], fun i hi => ?_⟩
    by_cases e : i < l.length
    · rw [List.getElem_append_left e]; exact hq i e
    · have : i = n := by simp at hi; omega
      subst this
      rw [List.getElem_append_right (by omega)]
      simpa using ha
theorem Try.cells9 : Try.prog.cellsOf 9 = 1 := by kernel_rfl
theorem Try.struct116 : ∃ f0 f1 : Field, Try.prog.underlying 116 = some (.struct #[f0, f1]) ∧ f0.offset = 0 ∧ f1.offset = 1 ∧ Try.prog.underlying f0.type = some .string ∧ Try.prog.underlying f1.type = some (.slice 9) ∧ Try.prog.cellsOf f0.type = 1 ∧ Try.prog.cellsOf f1.type = 1 := by
  refine ⟨_, _, Try.underlying116, ?_, ?_, ?_, ?_, ?_, ?_⟩
  all_goals kernel_rfl
theorem Try.cells116 : Try.prog.cellsOf 116 = 2 := by kernel_rfl
theorem Try.cells38 : Try.prog.cellsOf 38 = 2 := by kernel_rfl
section
variable {H : Type} {enc : TypeId × Value → H} {w : World} {base : Nat} {spare : Nat → Bool} {held : Bool}
theorem open_vals {t : TypeId} {fuel : Nat} {v : Value} {x : DataW H × List MemPlace} (ht : Try.prog.underlying t = some (.slice 9)) (h : DataW.trod enc Try.prog w base spare held fuel t [v] = some x) :
    ∃ vo vc, ∃ l : List ByteArray, v = .slice vo l.length vc ∧ ValsAt w vo vc l ∧ LongV l := by
  rcases open_strings ht Try.underlying9 Try.cells9 h with ⟨hcs, _⟩ | ⟨a, len, cap, ss, hcs, hb, hl, hm, hlen, _, hc, hs⟩
  · simp at hcs
    subst hcs
    exact ⟨none, 0, [], rfl, ⟨.inl rfl, Nat.le_refl _, fun _ => rfl⟩, by simp, by simp⟩
  · simp at hcs
    subst hcs
    have hle : len ≤ ss.length := by rw [hlen]; split <;> omega
    have htl : (ss.take len).length = len := by rw [List.length_take]; omega
    refine ⟨some a, cap, ss.take len, by rw [htl], ⟨?_, by omega, fun e => by cases e⟩, by unfold maxLen at hm; omega, fun s hs' => hs s (List.mem_of_mem_take hs')⟩
    by_cases h0 : len = 0
    · left; exact List.length_eq_zero_iff.1 (by omega)
    · obtain ⟨b, off, spot⟩ := a
      have hspot : spot = none := by
        have := hc 0 (by omega)
        simpa [Addr.add] using World.cell?_spot this
      subst hspot
      refine .inr ⟨b, off, rfl, ?_, fun i hi => ?_⟩
      · have := World.block_lt_of_cell? w _ (hc 0 (by omega))
        simpa [Addr.add] using this
      · have := hc i (by omega)
        rw [Go.WideShapes.add_plain] at this
        have hi2 : i < ss.length := by omega
        rw [this, List.getElem_take, List.getD_eq_getElem?_getD, List.getElem?_eq_getElem hi2]
        rfl
theorem open_attrs {fuel : Nat} {ao : Option Addr} {len cap : Nat} {x : DataW H × List MemPlace} (h : DataW.trod enc Try.prog w base spare held fuel 36 [.slice ao len cap] = some x) :
    ∃ l : List AttrV, len = l.length ∧ AttrsAt w ao l ∧ LongA l ∧ len ≤ cap ∧ (ao = none → cap = 0) := by
  obtain ⟨f0, f1, hst, o0, o1, u0, u1, c0, c1⟩ := Try.struct116
  rcases open_slice_pairs Try.underlying36 hst Try.cells116 o0 o1 c0 c1 h with ⟨hcs, _⟩ | ⟨a, l, c, m, n, V0, V1, D0, D1, P0, P1, hcs, hb, hl, hm, hmm, _, hx⟩
  · simp at hcs
    obtain ⟨rfl, rfl, rfl⟩ := hcs
    exact ⟨[], rfl, .inl rfl, ⟨by simp, by simp⟩, Nat.le_refl _, fun _ => rfl⟩
  · simp at hcs
    obtain ⟨rfl, rfl, rfl⟩ := hcs
    have hle : len ≤ m := by rw [hmm]; split <;> omega
    obtain ⟨L, hL, hq⟩ := list_of (fun i (a : AttrV) => V0 i = .string a.1 ∧ (∃ vo vc, V1 i = .slice vo a.2.length vc ∧ ValsAt w vo vc a.2) ∧ a.1.size ≤ maxLen ∧ LongV a.2) len (by
      intro i hi
      obtain ⟨_, _, h1, h2⟩ := hx i (by omega)
      obtain ⟨s, e1, _, z1⟩ := DataW.trod_string u0 h1
      obtain ⟨vo, vc, l, e2, e3, z2⟩ := open_vals u1 h2
      simp at e1
      exact ⟨(s, l), e1, ⟨vo, vc, e2, e3⟩, z1, z2⟩)
    refine ⟨L, hL.symm, ?_, ⟨by unfold maxLen at hm; omega, ?_⟩, hl, fun h => by cases h⟩
    · by_cases h0 : len = 0
      · left; exact List.length_eq_zero_iff.1 (by omega)
      · obtain ⟨b, off, spot⟩ := a
        have hspot : spot = none := by
          have := (hx 0 (by omega)).1
          simpa [Addr.add] using World.cell?_spot this
        subst hspot
        refine .inr ⟨b, off, rfl, ?_, fun i hi => ?_⟩
        · have := World.block_lt_of_cell? w _ (hx 0 (by omega)).1
          simpa [Addr.add] using this
        · obtain ⟨e1, ⟨vo, vc, e2, e3⟩, _, _⟩ := hq i hi
          obtain ⟨h1, h2, _, _⟩ := hx i (by omega)
          rw [Go.WideShapes.add_plain] at h1 h2
          rw [e1] at h1
          rw [e2] at h2
          exact ⟨h1, vo, vc, h2, e3⟩
    · intro r hr
      obtain ⟨i, hi, rfl⟩ := List.getElem_of_mem hr
      obtain ⟨_, _, z1, z2⟩ := hq i hi
      exact ⟨z1, z2⟩
theorem slice_of {t e : TypeId} {fuel : Nat} {v : Value} {x : DataW H × List MemPlace} (ht : Try.prog.underlying t = some (.slice e)) (h : DataW.trod enc Try.prog w base spare held fuel t [v] = some x) : ∃ ao len cap, v = .slice ao len cap := by
  rcases DataW.trod_slice ht h with ⟨h0, _⟩ | ⟨a, len, cap, elems, rest, n, _, h0, _⟩
  · simp at h0; exact ⟨_, _, _, h0⟩
  · simp at h0; exact ⟨_, _, _, h0⟩
set_option maxRecDepth 100000 in
theorem open_entry {r : Reach} {b0 : Nat} {v : Value} {x : DataW H} {p : List MemPlace} (hv : Value.okWide Try.prog w r b0 38 v) (h : DataW.Trod enc Try.prog w base spare held 38 v x p) :
    ∃ ao ca bo cb, ∃ (d : RdnL) (l : List AttrV), v = .agg #[.slice ao d.length ca, .slice bo l.length cb] ∧ DnAt w ao d ∧ Long d ∧ AttrsAt w bo l ∧ LongA l := by
  obtain ⟨c0, c1, y0, y1, m, rfl, _, _, hy0, hy1⟩ := open_agg2 Try.underlying38 (by kernel_rfl) Try.cells38 hv h
  obtain ⟨ao, n0, ca, rfl⟩ := slice_of Try.underlying35 hy0
  obtain ⟨bo, n1, cb, rfl⟩ := slice_of Try.underlying36 hy1
  obtain ⟨d, rfl, h1, h2, _, _⟩ := open_dn hy0
  obtain ⟨l, rfl, h3, h4, _, _⟩ := open_attrs hy1
  exact ⟨ao, ca, bo, cb, d, l, rfl, h1, h2, h3, h4⟩
end
end Go.Proofs.Ytjajpdghamecoaa
/- The law FnExactEntryRight: its walk. -/
namespace Go.Proofs.Ytjajpdghamecoaa
open Go.RowKit
attribute [local go_sem ↓] Go.wp_at_zero Go.wp_at_succ

theorem EntAt.below {w w' : World} {v : Value} {d : RdnL} {l : List AttrV} (h : EntAt w v d l) (hb : Below w.heap.size w w') : EntAt w' v d l := by
  obtain ⟨ao, ca, bo, cb, h1, h2, h3, h4⟩ := h
  exact ⟨ao, ca, bo, cb, h1, h2.below hb, h3.below hb, h4⟩
theorem fitsE {d : RdnL} {l : List AttrV} (h : sizeE d l ≤ 1048576) : Fits d ∧ FitsA l := by
  unfold sizeE at h
  exact ⟨fits_of (by omega), fitsA_of (by omega)⟩
theorem Right_ent (v : Value) (d : RdnL) (l : List AttrV) (w : World) (h : EntAt w v d l) (hfd : Fits d) (hfl : FitsA l) :
    Calls Try.prog 30 #[v] w fun e w' => e = .returned (.bool (rightB d l)) ∧ Below w.heap.size w w' := by
  obtain ⟨ao, ca, bo, cb, rfl, h2, h3, _, _⟩ := h
  exact EntryRight_any ao bo d l ca cb w h2 h3 hfd hfl
theorem SpecRight_ent (v : Value) (d : RdnL) (l : List AttrV) (w : World) (h : EntAt w v d l) (hfd : Fits d) (hfl : FitsA l) :
    Calls Try.prog 28 #[v] w fun e w' => e = .returned (.bool (rightB d l)) ∧ Below w.heap.size w w' := by
  obtain ⟨ao, ca, bo, cb, rfl, h2, h3, _, _⟩ := h
  exact SpecEntryRight_any ao bo d l ca cb w h2 h3 hfd hfl
theorem eqEntry_any (ao bo xo yo : Option Addr) (d : RdnL) (l : List AttrV) (ca cb cx cy : Nat) (w : World) (h1 : DnAt w ao d) (h2 : AttrsAt w bo l) (h3 : DnAt w xo d) (h4 : AttrsAt w yo l) (hd : d.length ≤ 1048576) (hf : FitsA l) :
    Calls Try.prog 31 #[.agg #[.slice ao d.length ca, .slice bo l.length cb], .agg #[.slice xo d.length cx, .slice yo l.length cy]] w fun e w' => e = .returned (.bool true) ∧ Below w.heap.size w w' :=
  eqEntry_at ao bo xo yo d l ca cb cx cy w h1 h2 h3 h4 hd hf
set_option maxRecDepth 100000 in
set_option maxHeartbeats 1000000 in
theorem FnExactEntryRight_walk (ao bo : Option Addr) (d : RdnL) (l : List AttrV) (ca cb : Nat) (w : World) (hd : DnAt w ao d) (hl : AttrsAt w bo l) (hfd : Long d) (hfl : LongA l) :
    Calls Try.prog 5 #[.agg #[.slice ao d.length ca, .slice bo l.length cb]] w fun e w' => e = .returned (.bool true) ∧ Below w.heap.size w w' := by
  have HD := Lib.hid hd; have HL := Lib.hid hl; have LD := Lib.hid hfd; have LL := Lib.hid hfl; clear hd hl hfd hfl
  go_enter Try.func5, Try.ntmps5
  have HB0 : Hid (Below w.heap.size w (w.alloc (.cells #[.slice ao d.length ca, .slice bo l.length cb] 38))) := Lib.hid (more (Below.refl _ _) _)
  have HT0 : Hid (Two (w.alloc (.cells #[.slice ao d.length ca, .slice bo l.length cb] 38)) w.heap.size 38 (.slice ao d.length ca) (.slice bo l.length cb)) := Lib.hid (twoNew w 38 _ _)
  go_wp2_with fail
  refine (szEntry_any ao bo d l ca cb 1048576 _ (HD.out.below HB0.out) (HL.out.below HB0.out) LD.out LL.out (by omega) (by omega)).mono ?_
  rintro e w1 ⟨rfl, b1'⟩
  have b1 := HB0.out.trans (b1'.mono HB0.out.size)
  have T1 := Lib.hid (HT0.out.below b1')
  obtain ⟨⟨p0, p1⟩, _⟩ := T1.out.cells
  clear b1'
  by_cases hfit : ((sizeE d l : Nat) : Int) ≤ 1048576
  · rw [leftR_pos hfit]
    obtain ⟨hfd, hfl⟩ := fitsE (d := d) (l := l) (by omega)
    have FD := Lib.hid hfd; have FL := Lib.hid hfl
    have hdl := hfd.1
    clear hfd hfl
    have h0 : ¬ (1048576 : Int) - ((sizeE d l : Nat) : Int) < 0 := by omega
    generalize ((sizeE d l : Nat) : Int) = t at *
    go_wp2_with fail
    refine (toEntry_any ao bo d l ca cb w1 (HD.out.below b1) (HL.out.below b1) hdl FL.out).mono ?_
    rintro e w2 ⟨v2, rfl, e2, b2⟩
    have B2 := Lib.hid (b1.trans (b2.mono b1.size))
    obtain ⟨⟨q0, q1⟩, _⟩ := (T1.out.below b2).cells
    have T2 := Lib.hid (T1.out.below b2)
    clear b2
    go_wp2_with fail
    refine (SpecRight_ent v2 d l w2 e2 FD.out FL.out).mono ?_
    rintro e w3 ⟨rfl, b3⟩
    have B3 := Lib.hid (B2.out.trans (b3.mono B2.out.size))
    have T3 := Lib.hid (T2.out.below b3)
    obtain ⟨⟨r0, r1⟩, _⟩ := T3.out.cells
    clear b3 e2
    go_wp2_with fail
    refine (toEntry_any ao bo d l ca cb w3 (HD.out.below B3.out) (HL.out.below B3.out) hdl FL.out).mono ?_
    rintro e w4 ⟨v4, rfl, e4, b4⟩
    have B4 := Lib.hid (B3.out.trans (b4.mono B3.out.size))
    have T4 := Lib.hid (T3.out.below b4)
    obtain ⟨xo, cx, yo, cy, rfl, x4, y4, _, _⟩ := e4
    have X4 := Lib.hid x4; have Y4 := Lib.hid y4
    clear b4 x4 y4
    go_wp2_with fail
    refine calls_any' (fun W => Below w.heap.size w W ∧ Two W w.heap.size 38 (.slice ao d.length ca) (.slice bo l.length cb) ∧ Two W w4.heap.size 43 (.slice xo d.length cx) (.slice yo l.length cy) ∧ DnAt W xo d ∧ AttrsAt W yo l) ⟨more B4.out _, T4.out.alloc _, twoNew w4 43 _ _, X4.out.below (more (Below.refl _ _) _), Y4.out.below (more (Below.refl _ _) _)⟩ ?_
    generalize w4.heap.size = G
    clear B4 T4 X4 Y4 T3 T2 T1 r0 r1 q0 q1 p0 p1
    rintro W ⟨hbW, t0, t1, x5, y5⟩
    refine (EntryRight_any xo yo d l cx cy W x5 y5 FD.out FL.out).mono ?_
    rintro e w5 ⟨rfl, b5⟩
    have B5 := Lib.hid (hbW.trans (b5.mono hbW.size))
    have T5 := Lib.hid (t0.below b5); have U5 := Lib.hid (t1.below b5); have X5 := Lib.hid (x5.below b5); have Y5 := Lib.hid (y5.below b5)
    obtain ⟨⟨p0, p1⟩, _⟩ := T5.out.cells
    obtain ⟨⟨q0, q1⟩, _⟩ := U5.out.cells
    clear hbW t0 t1 x5 y5 b5
    generalize rightB d l = r at *
    have hrr : (r != r) = false := by simp
    have SK : Hid (∀ V : World, Below w5.heap.size w5 V → (Below w5.heap.size w5 V ∧ V.cell? ⟨w.heap.size, 0, none⟩ = some (.slice ao d.length ca) ∧ V.cell? ⟨w.heap.size, 1, none⟩ = some (.slice bo l.length cb) ∧ V.cell? ⟨G, 0, none⟩ = some (.slice xo d.length cx) ∧ V.cell? ⟨G, 1, none⟩ = some (.slice yo l.length cy))) :=
      Lib.hid (fun V h => ⟨h, (T5.out.below h).cells.1.1, (T5.out.below h).cells.1.2, (U5.out.below h).cells.1.1, (U5.out.below h).cells.1.2⟩)
    have H29 : Hid (∀ V, Below w5.heap.size w5 V → Calls Try.prog 29 #[.agg #[.slice ao d.length ca, .slice bo l.length cb]] V fun e w' => (∃ zo cz uo cu, e = .returned (.agg #[.slice zo d.length cz, .slice uo l.length cu]) ∧ DnAt w' zo d ∧ AttrsAt w' uo l) ∧ Below w5.heap.size w5 w') :=
      Lib.hid (fun V h => (toEntry_any ao bo d l ca cb V (HD.out.below (B5.out.trans (h.mono B5.out.size))) (HL.out.below (B5.out.trans (h.mono B5.out.size))) hdl FL.out).mono fun e w' ⟨v, h1, ⟨zo, cz, uo, cu, h2, h3, h4, _⟩, h5⟩ => ⟨⟨zo, cz, uo, cu, by rw [h1, h2], h3, h4⟩, h.trans (h5.mono h.size)⟩)
    have H31 : Hid (∀ V zo cz uo cu, Below w5.heap.size w5 V → DnAt V zo d → AttrsAt V uo l → Calls Try.prog 31 #[.agg #[.slice xo d.length cx, .slice yo l.length cy], .agg #[.slice zo d.length cz, .slice uo l.length cu]] V fun e w' => e = .returned (.bool true) ∧ Below w5.heap.size w5 w') :=
      Lib.hid (fun V zo cz uo cu h h3 h4 => (eqEntry_any xo yo zo uo d l cx cy cz cu V (X5.out.below h) (Y5.out.below h) h3 h4 hdl FL.out).mono fun _ _ g => ⟨g.1, h.trans (g.2.mono h.size)⟩)
    have hb0 : Below w5.heap.size w5 w5 := Below.refl _ _
    have hbd := hb0.drew
    clear p0 p1 q0 q1
    go_wp2_with fail
    go_region_held3 (fun V => Below w5.heap.size w5 V ∧ V.cell? ⟨w.heap.size, 0, none⟩ = some (.slice ao d.length ca) ∧ V.cell? ⟨w.heap.size, 1, none⟩ = some (.slice bo l.length cb) ∧ V.cell? ⟨G, 0, none⟩ = some (.slice xo d.length cx) ∧ V.cell? ⟨G, 1, none⟩ = some (.slice yo l.length cy))
      (exact SK.out _ (by assumption))
      (first
        | (go_at_call 29; refine (H29.out _ (by assumption)).mono ?_; rintro e w6 ⟨⟨zo, cz, uo, cu, rfl, hz6, hu6⟩, hb6⟩; have Z6 := Lib.hid hz6; have V6 := Lib.hid hu6; clear hz6 hu6)
        | (go_at_call 31; refine (H31.out _ _ _ _ _ (by assumption) ?_ ?_).mono ?_; (focus (first | exact Z6.out | exact Z6.out.below ((Below.refl _ _).drew))); (focus (first | exact V6.out | exact V6.out.below ((Below.refl _ _).drew))); rintro e w7 ⟨rfl, hb7⟩)
        | (fail "none"))
    all_goals
      go_wp2
      go_ret
      exact ⟨rfl, B5.out.trans (hb7.mono B5.out.size)⟩
  · rw [leftR_neg hfit]
    clear hfit
    go_wp2
    go_ret
    exact ⟨rfl, b1⟩
end Go.Proofs.Ytjajpdghamecoaa
/- The law FnExactEntryBytes: its walk. -/
namespace Go.Proofs.Ytjajpdghamecoaa
open Go.RowKit
attribute [local go_sem ↓] Go.wp_at_zero Go.wp_at_succ

set_option maxRecDepth 100000 in
set_option maxHeartbeats 1000000 in
theorem SpecEntryBytes_any (ao bo : Option Addr) (d : RdnL) (l : List AttrV) (ca cb : Nat) (w : World) (hd : DnAt w ao d) (hl : AttrsAt w bo l) (hfd : Fits d) (hfl : FitsA l) :
    Calls Try.prog 42 #[.agg #[.slice ao d.length ca, .slice bo l.length cb]] w fun e w' => e = .returned (.string (bytesE d l)) ∧ Below w.heap.size w w' := by
  have HD := Lib.hid hd; have HL := Lib.hid hl; have FD := Lib.hid hfd; have FL := Lib.hid hfl; clear hd hl hfd hfl
  go_enter Try.func42, Try.ntmps42
  go_wp2_with fail
  refine calls_any' (fun W => Below w.heap.size w W ∧ Two W w.heap.size 43 (.slice ao d.length ca) (.slice bo l.length cb)) ⟨more (Below.refl _ _) _, twoNew w 43 _ _⟩ ?_
  rintro W ⟨hbW, t0⟩
  refine (SpecEntryRight_any ao bo d l ca cb W (HD.out.below hbW) (HL.out.below hbW) FD.out FL.out).mono ?_
  rintro e w1 ⟨rfl, hb1⟩
  have B1 := Lib.hid (hbW.trans (hb1.mono hbW.size)); have T1 := Lib.hid (t0.below hb1)
  clear hbW t0 hb1
  obtain ⟨⟨c0, c1⟩, _⟩ := T1.out.cells
  cases hr : rightB d l
  · have HE := Lib.hid (bytesE_no hr)
    go_wp2
    go_ret
    exact ⟨ret_str HE.out.symm, B1.out⟩
  · have HE := Lib.hid (bytesE_yes hr)
    have HR := Lib.hid hr
    clear hr
    go_wp2_with fail
    refine (l03Bytes_any ao bo d l ca cb w1 (HD.out.below B1.out) (HL.out.below B1.out) FD.out FL.out HR.out).mono ?_
    rintro e w2 ⟨rfl, hb2⟩
    go_wp2
    go_ret
    exact ⟨ret_str HE.out.symm, B1.out.trans (hb2.mono B1.out.size)⟩
theorem SpecBytes_ent (v : Value) (d : RdnL) (l : List AttrV) (w : World) (h : EntAt w v d l) (hfd : Fits d) (hfl : FitsA l) :
    Calls Try.prog 42 #[v] w fun e w' => e = .returned (.string (bytesE d l)) ∧ Below w.heap.size w w' := by
  obtain ⟨ao, ca, bo, cb, rfl, h2, h3, _, _⟩ := h
  exact SpecEntryBytes_any ao bo d l ca cb w h2 h3 hfd hfl
set_option maxRecDepth 100000 in
set_option maxHeartbeats 1000000 in
theorem FnExactEntryBytes_walk (ao bo : Option Addr) (d : RdnL) (l : List AttrV) (ca cb : Nat) (w : World) (hd : DnAt w ao d) (hl : AttrsAt w bo l) (hfd : Long d) (hfl : LongA l) :
    Calls Try.prog 9 #[.agg #[.slice ao d.length ca, .slice bo l.length cb]] w fun e w' => e = .returned (.bool true) ∧ Below w.heap.size w w' := by
  have HD := Lib.hid hd; have HL := Lib.hid hl; have LD := Lib.hid hfd; have LL := Lib.hid hfl; clear hd hl hfd hfl
  go_enter Try.func9, Try.ntmps9
  have HB0 : Hid (Below w.heap.size w (w.alloc (.cells #[.slice ao d.length ca, .slice bo l.length cb] 38))) := Lib.hid (more (Below.refl _ _) _)
  have HT0 : Hid (Two (w.alloc (.cells #[.slice ao d.length ca, .slice bo l.length cb] 38)) w.heap.size 38 (.slice ao d.length ca) (.slice bo l.length cb)) := Lib.hid (twoNew w 38 _ _)
  go_wp2_with fail
  refine (szEntry_any ao bo d l ca cb 1048576 _ (HD.out.below HB0.out) (HL.out.below HB0.out) LD.out LL.out (by omega) (by omega)).mono ?_
  rintro e w1 ⟨rfl, b1'⟩
  have b1 := HB0.out.trans (b1'.mono HB0.out.size)
  have T1 := Lib.hid (HT0.out.below b1')
  obtain ⟨⟨p0, p1⟩, _⟩ := T1.out.cells
  clear b1'
  by_cases hfit : ((sizeE d l : Nat) : Int) ≤ 1048576
  · rw [leftR_pos hfit]
    obtain ⟨hfd, hfl⟩ := fitsE (d := d) (l := l) (by omega)
    have FD := Lib.hid hfd; have FL := Lib.hid hfl
    have hdl := hfd.1
    clear hfd hfl
    have h0 : ¬ (1048576 : Int) - ((sizeE d l : Nat) : Int) < 0 := by omega
    generalize ((sizeE d l : Nat) : Int) = t at *
    go_wp2_with fail
    refine (toEntry_any ao bo d l ca cb w1 (HD.out.below b1) (HL.out.below b1) hdl FL.out).mono ?_
    rintro e w2 ⟨v2, rfl, e2, b2⟩
    have B2 := Lib.hid (b1.trans (b2.mono b1.size))
    obtain ⟨⟨q0, q1⟩, _⟩ := (T1.out.below b2).cells
    have T2 := Lib.hid (T1.out.below b2)
    clear b2
    go_wp2_with fail
    refine (SpecBytes_ent v2 d l w2 e2 FD.out FL.out).mono ?_
    rintro e w3 ⟨rfl, b3⟩
    have B3 := Lib.hid (B2.out.trans (b3.mono B2.out.size))
    have T3 := Lib.hid (T2.out.below b3)
    obtain ⟨⟨r0, r1⟩, _⟩ := T3.out.cells
    clear b3 e2
    go_wp2_with fail
    refine (toEntry_any ao bo d l ca cb w3 (HD.out.below B3.out) (HL.out.below B3.out) hdl FL.out).mono ?_
    rintro e w4 ⟨v4, rfl, e4, b4⟩
    have B4 := Lib.hid (B3.out.trans (b4.mono B3.out.size))
    have T4 := Lib.hid (T3.out.below b4)
    obtain ⟨xo, cx, yo, cy, rfl, x4, y4, _, _⟩ := e4
    have X4 := Lib.hid x4; have Y4 := Lib.hid y4
    clear b4 x4 y4
    go_wp2_with fail
    refine calls_any' (fun W => Below w.heap.size w W ∧ Two W w.heap.size 38 (.slice ao d.length ca) (.slice bo l.length cb) ∧ Two W w4.heap.size 43 (.slice xo d.length cx) (.slice yo l.length cy) ∧ DnAt W xo d ∧ AttrsAt W yo l) ⟨more B4.out _, T4.out.alloc _, twoNew w4 43 _ _, X4.out.below (more (Below.refl _ _) _), Y4.out.below (more (Below.refl _ _) _)⟩ ?_
    generalize w4.heap.size = G
    clear B4 T4 X4 Y4 T3 T2 T1 r0 r1 q0 q1 p0 p1
    rintro W ⟨hbW, t0, t1, x5, y5⟩
    refine (EntryBytes_any xo yo d l cx cy W x5 y5 FD.out FL.out).mono ?_
    rintro e w5 ⟨rfl, b5⟩
    have B5 := Lib.hid (hbW.trans (b5.mono hbW.size))
    have T5 := Lib.hid (t0.below b5); have U5 := Lib.hid (t1.below b5); have X5 := Lib.hid (x5.below b5); have Y5 := Lib.hid (y5.below b5)
    obtain ⟨⟨p0, p1⟩, _⟩ := T5.out.cells
    obtain ⟨⟨q0, q1⟩, _⟩ := U5.out.cells
    clear hbW t0 t1 x5 y5 b5
    generalize bytesE d l = r at *
    have SK : Hid (∀ V : World, Below w5.heap.size w5 V → (Below w5.heap.size w5 V ∧ V.cell? ⟨w.heap.size, 0, none⟩ = some (.slice ao d.length ca) ∧ V.cell? ⟨w.heap.size, 1, none⟩ = some (.slice bo l.length cb) ∧ V.cell? ⟨G, 0, none⟩ = some (.slice xo d.length cx) ∧ V.cell? ⟨G, 1, none⟩ = some (.slice yo l.length cy))) :=
      Lib.hid (fun V h => ⟨h, (T5.out.below h).cells.1.1, (T5.out.below h).cells.1.2, (U5.out.below h).cells.1.1, (U5.out.below h).cells.1.2⟩)
    have H29 : Hid (∀ V, Below w5.heap.size w5 V → Calls Try.prog 29 #[.agg #[.slice ao d.length ca, .slice bo l.length cb]] V fun e w' => (∃ zo cz uo cu, e = .returned (.agg #[.slice zo d.length cz, .slice uo l.length cu]) ∧ DnAt w' zo d ∧ AttrsAt w' uo l) ∧ Below w5.heap.size w5 w') :=
      Lib.hid (fun V h => (toEntry_any ao bo d l ca cb V (HD.out.below (B5.out.trans (h.mono B5.out.size))) (HL.out.below (B5.out.trans (h.mono B5.out.size))) hdl FL.out).mono fun e w' ⟨v, h1, ⟨zo, cz, uo, cu, h2, h3, h4, _⟩, h5⟩ => ⟨⟨zo, cz, uo, cu, by rw [h1, h2], h3, h4⟩, h.trans (h5.mono h.size)⟩)
    have H31 : Hid (∀ V zo cz uo cu, Below w5.heap.size w5 V → DnAt V zo d → AttrsAt V uo l → Calls Try.prog 31 #[.agg #[.slice xo d.length cx, .slice yo l.length cy], .agg #[.slice zo d.length cz, .slice uo l.length cu]] V fun e w' => e = .returned (.bool true) ∧ Below w5.heap.size w5 w') :=
      Lib.hid (fun V zo cz uo cu h h3 h4 => (eqEntry_any xo yo zo uo d l cx cy cz cu V (X5.out.below h) (Y5.out.below h) h3 h4 hdl FL.out).mono fun _ _ g => ⟨g.1, h.trans (g.2.mono h.size)⟩)
    have hb0 : Below w5.heap.size w5 w5 := Below.refl _ _
    have hbd := hb0.drew
    clear p0 p1 q0 q1
    go_wp2_with fail
    go_region_held3 (fun V => Below w5.heap.size w5 V ∧ V.cell? ⟨w.heap.size, 0, none⟩ = some (.slice ao d.length ca) ∧ V.cell? ⟨w.heap.size, 1, none⟩ = some (.slice bo l.length cb) ∧ V.cell? ⟨G, 0, none⟩ = some (.slice xo d.length cx) ∧ V.cell? ⟨G, 1, none⟩ = some (.slice yo l.length cy))
      (exact SK.out _ (by assumption))
      (first
        | (go_at_call 29; refine (H29.out _ (by assumption)).mono ?_; rintro e w6 ⟨⟨zo, cz, uo, cu, rfl, hz6, hu6⟩, hb6⟩; have Z6 := Lib.hid hz6; have V6 := Lib.hid hu6; clear hz6 hu6)
        | (go_at_call 31; refine (H31.out _ _ _ _ _ (by assumption) ?_ ?_).mono ?_; (focus (first | exact Z6.out | exact Z6.out.below ((Below.refl _ _).drew))); (focus (first | exact V6.out | exact V6.out.below ((Below.refl _ _).drew))); rintro e w7 ⟨rfl, hb7⟩)
        | (fail "none"))
    all_goals
      go_wp2
      go_ret
      exact ⟨rfl, B5.out.trans (hb7.mono B5.out.size)⟩
  · rw [leftR_neg hfit]
    clear hfit
    go_wp2
    go_ret
    exact ⟨rfl, b1⟩
end Go.Proofs.Ytjajpdghamecoaa
