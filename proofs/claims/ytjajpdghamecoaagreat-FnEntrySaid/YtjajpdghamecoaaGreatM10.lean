/- Merged texts: InOrder, SetM, UnderMath, EntS1, EntH1, WithV, OutMk, VAdd. -/
import Derived.Test.YtjajpdghamecoaaGreatM9
import Derived.Maps.RangeWalk
import Derived.Test.YtjajpdghamecoaaGreatM2
import Derived.Test.YtjajpdghamecoaaGreatM3
import Derived.Test.YtjajpdghamecoaaGreatM8
import Derived.Maps.OwnSet
import Derived.Test.YtjajpdghamecoaaGreatM7
/- attrsInOrder: what the program's text returns. -/
namespace Go.Proofs.YtjajpdghamecoaaGreat
open Go.RowKit
attribute [local go_sem ↓] Go.wp_at_zero Go.wp_at_succ

/-- the map of these attributes -/
def MapIs (w : World) (D : DataW Value) (T : List AttrV) : Prop :=
  (∀ s : ByteArray, Maps.has D (.string s.data.toList) = true → ∃ a ∈ T, a.1 = s) ∧
  ∀ a ∈ T, Maps.has D (.string a.1.data.toList) = true ∧ ∃ vo vc, (∀ zd, D.atKey (.string a.1.data.toList) zd = .held (.agg #[.string a.1, .slice vo a.2.length vc])) ∧ ValsAt w vo vc a.2
theorem own_far {w w' : World} {B B' n m : Nat} {u v : Value} {xs ys : List Value} (h : w.ownsRow B 9 1 u n xs) (hv : w.ownsRow B' 48 2 v m ys) (hg : w.grownBy w' v.ownBlock) : w'.ownsRow B 9 1 u n xs := by
  refine h.kept hg ?_
  cases hu : u.ownBlock with
  | none => exact .inl rfl
  | some g =>
    right
    intro e
    rcases h.2 with ⟨rfl, _⟩ | ⟨k, cap, cur, rfl, _, hk, _⟩
    · cases hu
    · rcases hv.2 with ⟨rfl, _⟩ | ⟨k', cap', cur', rfl, _, hk', _⟩
      · cases e
      · injection hu with hu
        injection e with e
        have e1 : k = g := hu
        have e2 : g = k' := e
        subst e1 e2
        rw [hk] at hk'
        injection hk' with hk'
        injection hk' with _ hk'
        cases hk'
section
variable {ops : Array Oper} {o : Oper} {a : Act} {Q : Exit → Act → World → Prop} {K : Act → World → Prop} {E : Prop} {w0 wr : World}
theorem step_pair (B : Nat) (hgd : o.guard = none) (s x : Operand)
    (ho : o.op = .call { callee := .builtin .append, args := #[s, x], argTypes := #[24, 24] }) (v : Value) (pre : List PairV) (hs : a.eval s = v) (hown : wr.ownsRow B 48 2 v pre.length (ps pre))
    (p : PairV) (hp : IsSl p.2) (hx : a.eval x = .slice (some ⟨wr.heap.size, 0, none⟩) 1 1) (hlen : pre.length ≤ 1000000000) (hB : B ≤ wr.heap.size) (hbel : Below B w0 wr)
    (h : ∀ g cap w', w'.ownsRow B 48 2 (.slice (some ⟨g, 0, none⟩) (pre.length + 1) cap) (pre ++ [p]).length (ps (pre ++ [p])) → Below B w0 w' → B ≤ w'.heap.size → wr.grownBy w' v.ownBlock → K (a.put o.dst (.slice (some ⟨g, 0, none⟩) (pre.length + 1) cap)) w') :
    if Region.wanted o (yielded ops a.tmps) = true then Oper.wp Tryz.prog o a (wr.alloc (.cells #[.string p.1, p.2] 48)) K Q else E := by
  obtain ⟨i0, hi, hz0, hz1, hz2⟩ := info_parts Tryz.info48
  refine step_append_lies _ hgd s x 24 ho B 48 i0 _ 2 40 Tryz.underlying24 hi hz0 hz1 hz2 rfl (by decide) v pre.length (ps pre) hs (hown.alloc _) ⟨wr.heap.size, 0, none⟩ 1 1 [.string p.1, p.2] hx rfl (World.news_of_block (cs := #[.string p.1, p.2]) (t := 48) (fr := (0, 0)) (heap_alloc_new wr _)) ?_ (by omega) ?_ ?_ ?_ (wr.heap.size + 1) (by simp) ?_
  · intro u hu; simp at hu; rcases hu with rfl | rfl
    · rfl
    · obtain ⟨o, n, c, e⟩ := hp; rw [e]; rfl
  · unfold maxLen; omega
  · omega
  · simp; omega
  · intro g cap w' h1 h2 h3 h4
    have hb' : Below B w0 w' := (hbel.alloc hB _).grown h2 (by simp; omega) (fun k hk => (hown.lt k hk).1)
    refine h g cap w' ?_ hb' (Nat.le_trans hB (by have := h2.size; simp at this; omega)) ((World.grownBy_alloc _ _ _).trans h2)
    rw [ps_snoc]; simpa using h1
end
/-- the pairs that have been laid -/
def Laid (w : World) (B : Nat) (T : List AttrV) (P : List PairV) : Prop := ∀ p ∈ P, IsSl p.2 ∧ ∃ a ∈ T, a.1 = p.1 ∧ w.ownsRow B 9 1 p.2 a.2.length (ss a.2)
theorem Laid.below {w w' : World} {B : Nat} {T : List AttrV} {P : List PairV} (h : Laid w B T P) (hb : Below w.heap.size w w') : Laid w' B T P := fun p hp => by
  obtain ⟨h0, a, h1, h2, h3⟩ := h p hp
  exact ⟨h0, a, h1, h2, own_below h3 hb⟩
theorem Laid.far {w w' : World} {B B' m : Nat} {T : List AttrV} {P : List PairV} {v : Value} {ys : List Value} (h : Laid w B T P) (hv : w.ownsRow B' 48 2 v m ys) (hg : w.grownBy w' v.ownBlock) : Laid w' B T P := fun p hp => by
  obtain ⟨h0, a, h1, h2, h3⟩ := h p hp
  exact ⟨h0, a, h1, h2, own_far h3 hv hg⟩
def LeftIs (D : DataW Value) (left : Lit → Bool) (P : List PairV) : Prop := ∀ s : ByteArray, left (.string s.data.toList) = true ↔ (Maps.has D (.string s.data.toList) = true ∧ ∀ p ∈ P, p.1 ≠ s)
def Apart (P : List PairV) : Prop := P.Pairwise fun p q => p.1 ≠ q.1 ∧ ∀ g, p.2.ownBlock = some g → q.2.ownBlock ≠ some g
theorem leftIs_step {D : DataW Value} {left : Lit → Bool} {P : List PairV} (h : LeftIs D left P) (x : PairV) : LeftIs D (fun z => left z && !z.sameKey (.string x.1.data.toList)) (P ++ [x]) := by
  intro s
  simp only [Bool.and_eq_true]
  rw [h s]
  constructor
  · rintro ⟨⟨h1, h2⟩, h3⟩
    refine ⟨h1, fun p hp => ?_⟩
    rcases List.mem_append.1 hp with hp | hp
    · exact h2 p hp
    · simp at hp; subst hp
      rintro rfl
      rw [WideAt.sameKey_self (by trivial)] at h3; cases h3
  · rintro ⟨h1, h2⟩
    refine ⟨⟨h1, fun p hp => h2 p (List.mem_append_left _ hp)⟩, ?_⟩
    rw [Maps.sameKey_ne (key_ne (h2 x (by simp)).symm)]; rfl
theorem keyOf_str_inv {key : Value} {kl : Lit} (h : keyOf Tryz.prog 9 key = some kl) : ∃ x : ByteArray, key = .string x ∧ kl = .string x.data.toList := by
  cases key <;> simp [keyOf, Tryz.underlying9, mapKey] at h
  exact ⟨_, rfl, h.2.symm⟩
theorem less_total : ∀ a b : List UInt8, a ≠ b → Op.bytesLess a b = false → Op.bytesLess b a = true
  | [], [], h, _ => absurd rfl h
  | [], _ :: _, _, h => by simp [Op.bytesLess] at h
  | _ :: _, [], _, _ => by simp [Op.bytesLess]
  | a :: xs, b :: ys, hne, h => by
    have ih := less_total xs ys
    unfold Op.bytesLess at h ⊢
    simp at h ⊢
    by_cases e : a = b
    · subst e
      right
      refine ⟨rfl, ih (fun e => hne (by rw [e])) ?_⟩
      simpa using h
    · left
      have h1 := h.1
      rcases UInt8.lt_or_eq_of_le (UInt8.not_lt.1 (by simpa using h1)) with h2 | h2
      · exact h2
      · exact absurd h2.symm e
def bLt (a b : ByteArray) : Bool := Op.bytesLess a.toList b.toList
/-- attributes of the call's own, in order -/
def AttrsOwn (w : World) (B : Nat) (v : Value) (T : List AttrV) : Prop := ∃ P : List PairV, P.length = T.length ∧ w.ownsRow B 48 2 v T.length (ps P) ∧ (∀ i (h : i < T.length) (h' : i < P.length), P[i].1 = T[i].1 ∧ IsSl P[i].2 ∧ w.ownsRow B 9 1 P[i].2 T[i].2.length (ss T[i].2)) ∧ Apart P
theorem in_order {w : World} {B : Nat} {v : Value} {T : List AttrV} {L : List PairV} (hL : Laid w B T L) (hA : Apart L) (hS : Asc pairLt L L.length) (hT : incB nameLt T = true) (hall : ∀ a ∈ T, ∃ p ∈ L, p.1 = a.1) (ho : w.ownsRow B 48 2 v L.length (ps L)) : AttrsOwn w B v T := by
  have trn : ∀ a b c : ByteArray, bLt a b = true → bLt b c = true → bLt a c = true := fun a b c => less_trans _ _ _
  have irr : ∀ a : ByteArray, bLt a a = false := fun a => less_irrefl _
  have hTt : incB bLt (T.map (·.1)) = true := by
    have h1 : ∀ i (h : i + 1 < T.length), nameLt T[i] T[i + 1] = true := @of_decide_eq_true _ (Classical.propDecidable _) hT
    refine incB_yes fun i h => ?_
    simp at h
    simpa [bLt, nameLt] using h1 i h
  have hLl : incB bLt (L.map (·.1)) = true := by
    refine incB_yes fun i h => ?_
    simp at h
    have h1 := hS i h (by omega)
    have h2 : L[i].1 ≠ L[i + 1].1 := ((List.pairwise_iff_getElem.1 hA) i (i + 1) (by omega) h (by omega)).1
    simp only [List.getElem_map]
    unfold bLt
    refine less_total _ _ (fun e => h2 ?_) (by simpa [pairLt, nameLt] using h1)
    rw [Lib.toList_data, Lib.toList_data] at e
    exact (ByteArray.ext (Array.toList_inj.1 e)).symm
  have nd : ∀ l : List ByteArray, incB bLt l = true → l.Nodup := fun l h => by
    rw [List.nodup_iff_pairwise_ne, List.pairwise_iff_getElem]
    intro i j hi hj hij e
    have := inc_far trn h i j hi hj hij
    rw [e, irr] at this; cases this
  have hp : (L.map (·.1)).Perm (T.map (·.1)) := by
    rw [List.perm_ext_iff_of_nodup (nd _ hLl) (nd _ hTt)]
    intro s
    simp only [List.mem_map]
    constructor
    · rintro ⟨p, hp, rfl⟩
      obtain ⟨_, a, h1, h2, _⟩ := hL p hp
      exact ⟨a, h1, h2⟩
    · rintro ⟨a, ha, rfl⟩
      obtain ⟨p, h1, h2⟩ := hall a ha
      exact ⟨p, h1, h2⟩
  have he := inc_unique irr trn hLl hTt hp
  have hlen : L.length = T.length := by have := congrArg List.length he; simpa using this
  refine ⟨L, hlen, by rw [← hlen]; exact ho, fun i h h' => ?_, hA⟩
  have hn : L[i].1 = T[i].1 := by
    have : (L.map (·.1))[i]'(by simpa using h') = (T.map (·.1))[i]'(by simpa using h) := by simp only [he]
    simpa using this
  obtain ⟨h0, a, h1, h2, h3⟩ := hL L[i] (List.getElem_mem _)
  obtain ⟨j, hj, rfl⟩ := List.getElem_of_mem h1
  have ej : j = i := by
    have hnd := nd _ hTt
    rw [List.nodup_iff_pairwise_ne, List.pairwise_iff_getElem] at hnd
    have hx : T[j].1 = T[i].1 := h2.trans hn
    rcases Nat.lt_trichotomy j i with hlt | rfl | hlt
    · exact absurd (by rw [List.getElem_map, List.getElem_map]; exact hx) (hnd j i (by simpa using hj) (by simpa using h) hlt)
    · rfl
    · exact absurd (by rw [List.getElem_map, List.getElem_map]; exact hx.symm) (hnd i j (by simpa using h) (by simpa using hj) hlt)
  subst ej
  exact ⟨hn, h0, h3⟩
theorem laid_len {w : World} {B : Nat} {T : List AttrV} {L : List PairV} (hL : Laid w B T L) (hA : Apart L) (hT : incB nameLt T = true) (hall : ∀ a ∈ T, ∃ p ∈ L, p.1 = a.1) : L.length = T.length := by
  have hp : (L.map (·.1)).Perm (T.map (·.1)) := by
    refine (List.perm_ext_iff_of_nodup ?_ ?_).2 fun s => ?_
    · rw [List.nodup_iff_pairwise_ne, List.pairwise_map]; exact hA.imp fun h => h.1
    · rw [List.nodup_iff_pairwise_ne, List.pairwise_map, List.pairwise_iff_getElem]
      intro i j hi hj hij e
      have := inc_far (lt := nameLt) (fun a b c => less_trans _ _ _) hT i j hi hj hij
      unfold nameLt at this
      rw [e, less_irrefl] at this; cases this
    · simp only [List.mem_map]
      constructor
      · rintro ⟨p, hp, rfl⟩
        obtain ⟨_, a, h1, h2, _⟩ := hL p hp
        exact ⟨a, h1, h2⟩
      · rintro ⟨a, ha, rfl⟩
        obtain ⟨p, h1, h2⟩ := hall a ha
        exact ⟨p, h1, h2⟩
  have := hp.length_eq
  simpa using this
theorem owns_size {w : World} {b n : Nat} {D : DataW Value} (h : w.ownsMap Tryz.prog 9 valR b n D) : Maps.size D ≤ n := by
  obtain ⟨es, clock, hb, F, hs, rfl⟩ := h
  rw [Maps.size_eq, length_sorted]; simpa using hs
theorem Laid.perm {w : World} {B : Nat} {T : List AttrV} {P L : List PairV} (h : Laid w B T P) (hp : L.Perm P) : Laid w B T L := fun p h1 => h p (hp.mem_iff.1 h1)
theorem Apart.perm {P L : List PairV} (h : Apart P) (hp : L.Perm P) : Apart L := hp.symm.pairwise h (fun h => ⟨fun e => h.1 e.symm, fun g hq hp => h.2 g hp hq⟩)
theorem laid_mono {w : World} {B B' : Nat} {T : List AttrV} {P : List PairV} (h : Laid w B T P) (hB : B' ≤ B) : Laid w B' T P := fun p hp => by
  obtain ⟨h0, a, h1, h2, h3⟩ := h p hp
  exact ⟨h0, a, h1, h2, own_mono h3 hB⟩
theorem own_past {w w' : World} {B e z n : Nat} {v : Value} {xs : List Value} (h : w.ownsRow (B + 1) e z v n xs) (hg : w.grownBy w' (some B)) : w'.ownsRow (B + 1) e z v n xs := by
  refine h.kept hg ?_
  cases hu : v.ownBlock with
  | none => exact .inl rfl
  | some g =>
    right
    intro e
    injection e with e
    have := (h.lt g hu).1
    omega
theorem Laid.past {w w' : World} {B : Nat} {T : List AttrV} {P : List PairV} (h : Laid w (B + 1) T P) (hg : w.grownBy w' (some B)) : Laid w' (B + 1) T P := fun p hp => by
  obtain ⟨h0, a, h1, h2, h3⟩ := h p hp
  exact ⟨h0, a, h1, h2, own_past h3 hg⟩
theorem Laid.snoc {w : World} {B : Nat} {T : List AttrV} {P : List PairV} (h : Laid w B T P) {a : AttrV} (ha : a ∈ T) {v : Value} (hs : IsSl v) (ho : w.ownsRow B 9 1 v a.2.length (ss a.2)) : Laid w B T (P ++ [(a.1, v)]) := by
  intro p hp
  rcases List.mem_append.1 hp with hp | hp
  · exact h p hp
  · simp at hp; subst hp; exact ⟨hs, a, ha, rfl, ho⟩
theorem Apart.snoc {P : List PairV} (h : Apart P) {p : PairV} (hp : ∀ q ∈ P, q.1 ≠ p.1 ∧ ∀ g, q.2.ownBlock = some g → p.2.ownBlock ≠ some g) : Apart (P ++ [p]) := by
  unfold Apart
  rw [List.pairwise_append]
  exact ⟨h, by simp, fun q hq r hr => by simp at hr; subst hr; exact hp q hq⟩
set_option maxRecDepth 100000 in
set_option maxHeartbeats 1000000 in
theorem attrsInOrder_any (b n : Nat) (D : DataW Value) (T : List AttrV) (w : World) (hown : w.ownsMap Tryz.prog 9 valR b n D) (hM : MapIs w D T) (hF : FitsA T) (h12 : T.length ≤ 12) (hT : incB nameLt T = true) (hn : n ≤ 1000000) :
    Calls Tryz.prog 96 #[.map (some b)] w fun e w' => (∃ v, e = .returned v ∧ AttrsOwn w' w.heap.size v T) ∧ Below w.heap.size w w' := by
  have hbl := hown.lt
  have hDn := owns_size hown
  have HM := Lib.hid hM; have HF := Lib.hid hF; have HT := Lib.hid hT; clear hM hF hT
  go_enter Tryz.func96, Tryz.ntmps96
  go_wp2_with (first
    | (at_range; refine wpList_range_own _ rfl _ 83 rfl 9 48 Tryz.keyed9 Tryz.underlying83 _ b n _ rfl hown ?_; intro w0 hrg0 hg0 hs0)
    | go_in)
  go_frame
  have B0 := Lib.hid ((Below.refl w.heap.size w).grown hg0 (Nat.le_refl _) (fun j hj => by cases hj))
  have hs0' : w.heap.size + 1 ≤ w0.heap.size := by omega
  have HRg0 := Lib.hid hrg0
  clear hrg0 hg0 hs0 hown
  go_loopw [3] (fun v wr => ∃ (left : Lit → Bool) (cnt : Nat) (P : List PairV), wr.ranges Tryz.prog 9 valR b w.heap.size n D left cnt ∧ wr.ownsRow (w.heap.size + 1) 48 2 v P.length (ps P) ∧ Laid wr (w.heap.size + 1) T P ∧ LeftIs D left P ∧ Apart P ∧ P.length + cnt ≤ n ∧ w.heap.size + 1 ≤ wr.heap.size ∧ Below w.heap.size w wr) (fun _ wr => wr.rangeLeft b w.heap.size)
  case atStart => exact ⟨_, _, [], HRg0.out, own_noneP _ _, fun p hp => by simp at hp, fun s => by simp, List.Pairwise.nil, by simpa using hDn, hs0', B0.out⟩
  case round =>
    clear HRg0 B0 hs0'
    obtain ⟨left, cnt, P, hrg, hv, hlaid, hleft, hap, hcn, hsz, hbel⟩ := hrel
    have HLa := Lib.hid hlaid; have HLe := Lib.hid hleft; have HAp := Lib.hid hap; have HV := Lib.hid hv; have HRg := Lib.hid hrg; have HB := Lib.hid hbel
    clear hlaid hleft hap hv hbel
    go_wp2_with (first
      | (at_next; refine wpList_next_ranges _ rfl _ rfl 9 Tryz.keyed9 valR Value.string id (fun key kl h => by obtain ⟨x, h1, _⟩ := keyOf_str_inv h; exact ⟨x, h1⟩) (fun v y _ => ⟨v, rfl⟩) b w.heap.size n D left cnt rfl hrg ?_ ?_)
      | go_in)
    · intro hc0 hl0
      have hall : ∀ a ∈ T, ∃ p ∈ P, p.1 = a.1 := by
        intro a ha
        apply Classical.byContradiction
        intro hno
        have h1 := (HLe.out a.1).2 ⟨(HM.out.2 a ha).1, fun p hp e => hno ⟨p, hp, e⟩⟩
        rw [hl0] at h1; cases h1
      have hPl := laid_len HLa.out HAp.out HT.out hall
      have HAll := Lib.hid hall
      clear hrg hl0 hall
      have HS := Lib.hid (sortedA_any _ _ P wr HV.out (by omega) (fun p hp => (HLa.out p hp).1))
      go_wp2_with (first
        | (go_at_call 130; refine HS.out.mono ?_; rintro e w2 ⟨⟨v2, L, rfl, hp, ha, ho⟩, hb2⟩)
        | (fail "none"))
      go_ret
      have hle := HB.out.size
      exact ⟨⟨_, rfl, in_order (laid_mono ((HLa.out.below hb2).perm hp) (Nat.le_succ _)) (HAp.out.perm hp) ha HT.out (fun a h => by obtain ⟨p, h1, h2⟩ := HAll.out a h; exact ⟨p, hp.mem_iff.2 h1, h2⟩) (own_mono ho hle)⟩, HB.out.trans (hb2.mono hle)⟩
    · intro x c kl y pl w1 cnt1 hkey hlx hR hat hrg1 hlt hg1 hs1 hen
      clear hrg
      obtain ⟨x', hx', rfl⟩ := keyOf_str_inv hkey
      injection hx' with hx'
      subst hx'
      obtain ⟨h1, h2⟩ := (HLe.out x).1 hlx
      obtain ⟨a, ha, rfl⟩ := HM.out.1 x h1
      obtain ⟨_, vo, vc, h3, h4⟩ := HM.out.2 a ha
      have hc : c = .agg #[.string a.1, .slice vo a.2.length vc] := by
        have e1 := hat (.nil)
        rw [h3] at e1
        unfold valR at hR
        injection hR with hR
        injection hR with hR _
        rw [← hR] at e1
        injection e1 with e1
        exact e1.symm
      subst hc
      have HV1 := Lib.hid (own_past HV.out hg1); have HLa1 := Lib.hid (HLa.out.past hg1)
      have HB1 := Lib.hid (HB.out.grown hg1 HB.out.size (fun j hj => by cases hj; exact Nat.le_refl _))
      have HVs := Lib.hid (h4.1.below HB1.out)
      have HRg1 := Lib.hid hrg1
      obtain ⟨ia, hia, rfl⟩ := List.getElem_of_mem ha
      have FV := Lib.hid (HF.out.at hia).2
      have hzA := (HF.out.at hia).1
      have HSn : Hid (∀ (X : World) (v : Value), Laid X (w.heap.size + 1) T P → IsSl v → X.ownsRow (w.heap.size + 1) 9 1 v T[ia].2.length (ss T[ia].2) → Laid X (w.heap.size + 1) T (P ++ [(T[ia].1, v)])) := Lib.hid (fun X v h hs ho => h.snoc ha hs ho)
      have HLs : Hid (∀ v : Value, LeftIs D (fun z => left z && !z.sameKey (.string T[ia].1.data.toList)) (P ++ [(T[ia].1, v)])) := Lib.hid (fun v => leftIs_step HLe.out (T[ia].1, v))
      have HAs : Hid (∀ v : Value, (∀ q ∈ P, ∀ g, q.2.ownBlock = some g → v.ownBlock ≠ some g) → Apart (P ++ [(T[ia].1, v)])) := Lib.hid (fun v hv => HAp.out.snoc fun q hq => ⟨h2 q hq, hv q hq⟩)
      have hs2 : w.heap.size + 1 ≤ w1.heap.size := by omega
      clear hrg1 hg1 h1 h2 h3 h4 hat hR hkey hlx HV HLa HB HLe HAp ha hs1
      generalize T[ia].1 = A at *
      generalize T[ia].2 = V at *
      generalize (Lit.string A.data.toList) = kA at *
      generalize hleft' : (fun z => left z && !z.sameKey kA) = left' at *
      clear hleft'
      go_wp2_with fail
      refine wp_world (fun W => Below w1.heap.size w1 W ∧ w1.heap.size < W.heap.size ∧ Two W w1.heap.size 48 (.string A) (.slice vo V.length vc)) ⟨more (Below.refl _ _) _, by simp, twoNew w1 48 _ _⟩ ?_
      rintro W ⟨hbW, hlW, t0⟩
      have BW := Lib.hid hbW; have T0 := Lib.hid t0
      have OV := Lib.hid (own_below HV1.out hbW); have HLaW := Lib.hid (HLa1.out.below hbW); have HRgW := Lib.hid (HRg1.out.kept (grown_of hbW none) (by simp) (by simp))
      have HVW := Lib.hid (HVs.out.below hbW); have HBW := Lib.hid (HB1.out.trans (hbW.mono HB1.out.size))
      have hrow : Hid (∀ g, u3.ownBlock = some g → w.heap.size + 1 ≤ g ∧ g < w1.heap.size) := Lib.hid (fun g hg => HV1.out.lt g hg)
      clear hbW t0
      have hWs : w.heap.size + 1 ≤ W.heap.size := by omega
      have SK : Hid (∀ Z : World, Below W.heap.size W Z → (Z.cell? ⟨w1.heap.size, 0, none⟩ = some (.string A) ∧ Z.cell? ⟨w1.heap.size, 1, none⟩ = some (.slice vo V.length vc))) :=
        Lib.hid (fun Z h => ⟨(T0.out.below h).cells.1.1, (T0.out.below h).cells.1.2⟩)
      have H115 : Hid (∀ X, Below W.heap.size W X → Calls Tryz.prog 115 #[.slice (some ⟨X.heap.size, 0, none⟩) 1 1] (X.alloc (.cells #[.string A] 9)) fun e w' => e = .returned (.string A) ∧ Below W.heap.size W w') :=
        Lib.hid (fun X h => (concat_copy A X (by omega)).mono fun _ _ g => ⟨g.1, h.trans (g.2.mono h.size)⟩)
      have H74 : Hid (∀ X, Below W.heap.size W X → Calls Tryz.prog 74 #[.slice vo V.length vc] X fun e w' => (∃ so sc, e = .returned (.slice so V.length sc) ∧ w'.ownsRow (w.heap.size + 1) 9 1 (.slice so V.length sc) V.length (ss V) ∧ ∀ g, (Value.slice so V.length sc).ownBlock = some g → W.heap.size ≤ g) ∧ Below W.heap.size W w') :=
        Lib.hid (fun X h => (copyTexts_any vo V vc X (HVW.out.below h) FV.out).mono fun e w' ⟨⟨v, he, ho⟩, hb⟩ => by
          obtain ⟨so, sc, rfl⟩ := own_slice ho
          exact ⟨⟨so, sc, he, own_mono ho (Nat.le_trans hWs h.size), fun g hg => Nat.le_trans h.size (ho.lt g hg).1⟩, h.trans (hb.mono h.size)⟩)
      have HOld : Hid (∀ q ∈ P, ∀ g, q.2.ownBlock = some g → g < W.heap.size) := Lib.hid (fun q hq g hg => by obtain ⟨_, _, _, _, h3⟩ := HLaW.out q hq; exact (h3.lt g hg).2)
      have hb0 : Below W.heap.size W W := Below.refl _ _
      have hbd := hb0.drew
      have HPl : Hid (P.length ≤ 1000000000) := Lib.hid (by omega)
      go_region_held3 (fun Z => Z.cell? ⟨w1.heap.size, 0, none⟩ = some (.string A) ∧ Z.cell? ⟨w1.heap.size, 1, none⟩ = some (.slice vo V.length vc))
        (first | exact SK.out _ (by assumption) | exact SK.out _ (more (by assumption) _) | exact hk5)
        (first
          | (go_at_call 115; refine (H115.out _ (by assumption)).mono ?_; rintro e w2 ⟨rfl, hb2⟩)
          | (go_at_call 74; refine (H74.out _ (by assumption)).mono ?_; rintro e w3 ⟨⟨so, sc, rfl, o3, n3⟩, hb3⟩; have N3 := Lib.hid n3; clear n3; have O3 := own_below OV.out hb3; have L3 := Nat.le_trans hWs hb3.size; have B3 := hb3.mono hWs)
          | (refine step_pair (w.heap.size + 1) (by rfl) _ _ (by rfl) _ P (by rfl) O3 (A, .slice so V.length sc) ⟨_, _, _, rfl⟩ (by rfl) HPl.out L3 B3 ?_; intro g5 cp5 w5 hown5 hbel5 hsz5 hgr5; have hk5 : w5.cell? ⟨w1.heap.size, 0, none⟩ = some (.string A) ∧ w5.cell? ⟨w1.heap.size, 1, none⟩ = some (.slice vo V.length vc) := (Two.cells (show Two w5 w1.heap.size 48 (.string A) (.slice vo V.length vc) from (hgr5.block w1.heap.size (Nat.lt_of_lt_of_le hlW hb3.size) (fun e => by have := (hrow.out _ e.symm).2; omega)).trans (T0.out.below hb3))).1)
          | (fail "none"))
      have R5 := Lib.hid ((HRgW.out.kept (grown_of hb3 none) (by simp) (by simp)).kept hgr5 (fun e => by have := (hrow.out _ e.symm).1; omega) (fun e => by have := (hrow.out _ e.symm).1; omega))
      have L5 := Lib.hid (HSn.out w5 (.slice so V.length sc) ((HLaW.out.below hb3).far O3 hgr5) ⟨_, _, _, rfl⟩ (own_far o3 O3 hgr5))
      have B5 := Lib.hid (HBW.out.trans (hbel5.mono (Nat.le_succ _)))
      have O5 := Lib.hid hown5
      clear hgr5 O3 o3 hb3 hb2 hbel5 hown5 hk5 B3 L3 SK H115 H74 hb0 hbd hrow
      go_wp2
      go_roundw
      case rel => exact ⟨left', cnt1, P ++ [(A, .slice so V.length sc)], R5.out, O5.out, L5.out, HLs.out _, HAs.out _ (fun q hq g h1 h2 => by have := HOld.out q hq g h1; have := N3.out g h2; omega), by simp; omega, hsz5, B5.out⟩
      case measure => rw [R5.out.left_eq, HRg.out.left_eq]; exact hlt
end Go.Proofs.YtjajpdghamecoaaGreat
/- An attribute is set: plain facts, and what becomes of the map. -/
namespace Go.Proofs.YtjajpdghamecoaaGreat
open Go.RowKit

/-- the attributes with this one set, or taken away -/
def setL (T : List AttrV) (nm : ByteArray) (V : List ByteArray) : List AttrV :=
  T.filter (fun a => nameLt a (nm, V)) ++ (if V = [] then [] else [(nm, V)]) ++ T.filter (fun a => nameLt (nm, V) a)
theorem nameLt_irrefl (a : AttrV) : nameLt a a = false := less_irrefl _
theorem nameLt_trans (a b c : AttrV) (h1 : nameLt a b = true) (h2 : nameLt b c = true) : nameLt a c = true := less_trans _ _ _ h1 h2
theorem nameLt_ne {a b : AttrV} (h : nameLt a b = true) : a.1 ≠ b.1 := by
  intro e; unfold nameLt at h; rw [e, less_irrefl] at h; cases h
theorem nameLt_total {a b : AttrV} (h : a.1 ≠ b.1) : nameLt a b = true ∨ nameLt b a = true := by
  cases h1 : nameLt a b with
  | true => exact .inl rfl
  | false =>
    right
    unfold nameLt at h1 ⊢
    refine less_total _ _ (fun e => h ?_) h1
    rw [Lib.toList_data, Lib.toList_data] at e
    exact ByteArray.ext (Array.toList_inj.1 e)
theorem mem_setL {T : List AttrV} {nm : ByteArray} {V : List ByteArray} {a : AttrV} : a ∈ setL T nm V ↔ (a ∈ T ∧ a.1 ≠ nm) ∨ (V ≠ [] ∧ a = (nm, V)) := by
  unfold setL
  rw [List.mem_append, List.mem_append, List.mem_filter, List.mem_filter]
  constructor
  · rintro ((⟨h1, h2⟩ | h) | ⟨h1, h2⟩)
    · exact .inl ⟨h1, nameLt_ne h2⟩
    · split at h
      · simp at h
      · rename_i hV; simp at h; exact .inr ⟨hV, h⟩
    · exact .inl ⟨h1, (nameLt_ne h2).symm⟩
  · rintro (⟨h1, h2⟩ | ⟨h1, rfl⟩)
    · rcases nameLt_total (a := a) (b := (nm, V)) h2 with h | h
      · exact .inl (.inl ⟨h1, h⟩)
      · exact .inr ⟨h1, h⟩
    · refine .inl (.inr ?_)
      rw [if_neg h1]; simp
theorem inc_pair {T : List AttrV} (h : incB nameLt T = true) : T.Pairwise fun a b => nameLt a b = true := by
  rw [List.pairwise_iff_getElem]
  exact fun i j hi hj hij => inc_far nameLt_trans h i j hi hj hij
theorem pair_inc {T : List AttrV} (h : T.Pairwise fun a b => nameLt a b = true) : incB nameLt T = true :=
  incB_yes fun i hi => (List.pairwise_iff_getElem.1 h) i (i + 1) (by omega) hi (by omega)
theorem inc_setL {T : List AttrV} (h : incB nameLt T = true) (nm : ByteArray) (V : List ByteArray) : incB nameLt (setL T nm V) = true := by
  have hp := inc_pair h
  refine pair_inc ?_
  unfold setL
  rw [List.pairwise_append, List.pairwise_append]
  refine ⟨⟨hp.filter _, ?_, ?_⟩, hp.filter _, ?_⟩
  · split <;> simp
  · intro a ha b hb
    rw [List.mem_filter] at ha
    split at hb
    · simp at hb
    · simp at hb; subst hb; exact ha.2
  · intro a ha b hb
    rw [List.mem_filter] at hb
    rw [List.mem_append, List.mem_filter] at ha
    rcases ha with ha | ha
    · exact nameLt_trans _ _ _ ha.2 hb.2
    · split at ha
      · simp at ha
      · simp at ha; subst ha; exact hb.2
theorem MapIs.below {w w' : World} {D : DataW Value} {T : List AttrV} (h : MapIs w D T) (hb : Below w.heap.size w w') : MapIs w' D T := by
  refine ⟨h.1, fun a ha => ?_⟩
  obtain ⟨h1, vo, vc, h2, h3⟩ := h.2 a ha
  exact ⟨h1, vo, vc, h2, h3.below hb⟩
/-- a name is put -/
theorem MapIs.put {w : World} {D : DataW Value} {T : List AttrV} (h : MapIs w D T) (hD : Maps.IsMap D) (nm : ByteArray) {V : List ByteArray} (hV : V ≠ []) {vo : Option Addr} {vc : Nat} (hv : ValsAt w vo vc V) :
    MapIs w (D.put (.string nm.data.toList) (.held (.agg #[.string nm, .slice vo V.length vc]))) (setL T nm V) := by
  refine ⟨fun s hs => ?_, fun a ha => ?_⟩
  · by_cases e : s = nm
    · subst e; exact ⟨(s, V), mem_setL.2 (.inr ⟨hV, rfl⟩), rfl⟩
    · rw [Maps.has_put_other (key_ne e)] at hs
      obtain ⟨a, h1, h2⟩ := h.1 s hs
      exact ⟨a, mem_setL.2 (.inl ⟨h1, by rw [h2]; exact e⟩), h2⟩
  · rcases mem_setL.1 ha with ⟨h1, h2⟩ | ⟨_, rfl⟩
    · obtain ⟨q1, uo, uc, q2, q3⟩ := h.2 a h1
      exact ⟨by rw [Maps.has_put_other (key_ne h2)]; exact q1, uo, uc, fun zd => by rw [Maps.atKey_put_other (key_ne h2)]; exact q2 zd, q3⟩
    · exact ⟨Maps.has_put_same hD (by trivial) _, vo, vc, fun zd => Maps.atKey_put_same hD (by trivial) _ _, hv⟩
/-- a name is taken away -/
theorem MapIs.del {w : World} {D : DataW Value} {T : List AttrV} (h : MapIs w D T) (nm : ByteArray) : MapIs w (D.del (.string nm.data.toList)) (setL T nm []) := by
  refine ⟨fun s hs => ?_, fun a ha => ?_⟩
  · by_cases e : s = nm
    · subst e; rw [Maps.has_del_same] at hs; cases hs
    · rw [Maps.has_del_other (key_ne e)] at hs
      obtain ⟨a, h1, h2⟩ := h.1 s hs
      exact ⟨a, mem_setL.2 (.inl ⟨h1, by rw [h2]; exact e⟩), h2⟩
  · rcases mem_setL.1 ha with ⟨h1, h2⟩ | ⟨h0, _⟩
    · obtain ⟨q1, uo, uc, q2, q3⟩ := h.2 a h1
      exact ⟨by rw [Maps.has_del_other (key_ne h2)]; exact q1, uo, uc, fun zd => by rw [Maps.atKey_del_other (key_ne h2)]; exact q2 zd, q3⟩
    · exact absurd rfl h0
theorem has_mapOf (ps : List (ByteArray × Value)) (s : ByteArray) : Maps.has (mapOf ps) (.string s.data.toList) = true ↔ ∃ p ∈ ps, p.1 = s := by
  refine snoc_rec (P := fun ps => Maps.has (mapOf ps) (.string s.data.toList) = true ↔ ∃ p ∈ ps, p.1 = s) ?_ ?_ ps
  · constructor
    · intro h; cases h
    · rintro ⟨p, hp, _⟩; simp at hp
  · intro ps p ih
    rw [mapOf_snoc]
    by_cases e : s = p.1
    · subst e
      rw [Maps.has_put_same (isMap_mapOf ps) (by trivial)]
      exact ⟨fun _ => ⟨p, by simp, rfl⟩, fun _ => rfl⟩
    · rw [Maps.has_put_other (key_ne e), ih]
      constructor
      · rintro ⟨q, h1, h2⟩; exact ⟨q, by simp [h1], h2⟩
      · rintro ⟨q, h1, h2⟩
        rcases List.mem_append.1 h1 with h1 | h1
        · exact ⟨q, h1, h2⟩
        · simp at h1; subst h1; exact absurd h2.symm e
/-- the map of a valid entry's attributes -/
theorem mapIs_of {w : World} {d : RdnL} {l : List AttrV} {ps : List (ByteArray × Value)} (h : AttrVals w l ps) (hr : rightB d l = true) : MapIs w (mapOf ps) l := by
  have hl := h.1
  refine ⟨fun s hs => ?_, fun a ha => ?_⟩
  · obtain ⟨p, hp, rfl⟩ := (has_mapOf ps s).1 hs
    obtain ⟨i, hi, rfl⟩ := List.getElem_of_mem hp
    exact ⟨l[i], List.getElem_mem _, (h.2 i (by omega) hi).1.symm⟩
  · obtain ⟨i, hi, rfl⟩ := List.getElem_of_mem ha
    obtain ⟨q1, vo, vc, q2, q3⟩ := h.2 i hi (by omega)
    refine ⟨(has_mapOf ps _).2 ⟨ps[i], List.getElem_mem _, q1⟩, vo, vc, fun zd => ?_, q3⟩
    rw [mapOf_hit ps l[i].1 zd i (by omega) q1 (fun j hj hij => by
      rw [(h.2 j (by omega) hj).1]
      exact (names_apart hr i j hi (by omega) hij).symm), q2]
end Go.Proofs.YtjajpdghamecoaaGreat
/- Names under their ends; two names under each other are the same. -/
namespace Go.Proofs.YtjajpdghamecoaaGreat

theorem under_drop {d : RdnL} (h : dnB d = true) {i : Nat} (hi : i ≤ d.length) : underB d (d.drop i) = true := by
  unfold underB
  have e : d.length - (d.drop i).length = i := by rw [List.length_drop]; omega
  rw [h, dnB_drop h, e]
  simp [sameB]
theorem dnB_rdns {d : RdnL} (h : dnB d = true) : d.all rdnB = true := by
  unfold dnB at h
  simp only [Bool.and_eq_true] at h
  exact h.2
theorem same_length {a b : RdnL} (h : sameB a b = true) : a.length = b.length := by
  unfold sameB at h
  have := congrArg List.length (of_decide_eq_true h)
  simpa using this
theorem sameB_comm (a b : RdnL) : sameB a b = sameB b a := by
  unfold sameB
  exact decide_eq_decide.2 ⟨Eq.symm, Eq.symm⟩
theorem under_two {a b : RdnL} (ha : dnB a = true) (hb : dnB b = true) : sameB a b = (underB a b && underB b a) := by
  unfold underB
  rw [ha, hb]
  by_cases h : a.length = b.length
  · have e1 : a.length - b.length = 0 := by omega
    have e2 : b.length - a.length = 0 := by omega
    rw [e1, e2, List.drop_zero, List.drop_zero, sameB_comm b a]
    have h1 : decide (b.length ≤ a.length) = true := decide_eq_true (by omega)
    have h2 : decide (a.length ≤ b.length) = true := decide_eq_true (by omega)
    rw [h1, h2]
    simp
  · have hs : sameB a b = false := by
      cases hs : sameB a b
      · rfl
      · exact absurd (same_length hs) h
    rw [hs]
    by_cases h1 : b.length ≤ a.length
    · have h2 : decide (a.length ≤ b.length) = false := decide_eq_false (by omega)
      rw [h2]; simp
    · have h2 : decide (b.length ≤ a.length) = false := decide_eq_false h1
      rw [h2]; simp
theorem key_two {a b : RdnL} (ha : dnB a = true) (hb : dnB b = true) : ((dnKeyS a).toList == (dnKeyS b).toList) = sameB a b := by
  have ea : dnKeyS a = keyS a := by unfold dnKeyS; simp [ha]
  have eb : dnKeyS b = keyS b := by unfold dnKeyS; simp [hb]
  rw [ea, eb]
  exact key_same (dnB_rdns ha) (dnB_rdns hb)
end Go.Proofs.YtjajpdghamecoaaGreat
/- EntrySame: what the program returns. -/
namespace Go.Proofs.YtjajpdghamecoaaGreat
open Go.RowKit
attribute [local go_sem ↓] Go.wp_at_zero Go.wp_at_succ

/-- two lists as long as each other, alike element by element -/
noncomputable def pairB {α : Type} (eq : α → α → Bool) (a b : List α) : Bool := @decide (a.length = b.length ∧ ∀ i (h : i < a.length) (h' : i < b.length), eq a[i] b[i] = true) (Classical.propDecidable _)
theorem pairB_yes {α : Type} {eq : α → α → Bool} {a b : List α} (hl : a.length = b.length) (h : ∀ i (h : i < a.length) (h' : i < b.length), eq a[i] b[i] = true) : pairB eq a b = true := @decide_eq_true _ (Classical.propDecidable _) ⟨hl, h⟩
theorem pairB_len {α : Type} {eq : α → α → Bool} {a b : List α} (hl : a.length ≠ b.length) : pairB eq a b = false := @decide_eq_false _ (Classical.propDecidable _) (fun h => hl h.1)
theorem pairB_no {α : Type} {eq : α → α → Bool} {a b : List α} {k : Nat} (hk : k < a.length) (hk' : k < b.length) (h : eq a[k] b[k] = false) : pairB eq a b = false :=
  @decide_eq_false _ (Classical.propDecidable _) (fun g => by have := g.2 k hk hk'; rw [h] at this; cases this)
def normEq (x y : ByteArray) : Bool := (normS x).toList == (normS y).toList
noncomputable def attrEq (a b : AttrV) : Bool := (a.1.toList == b.1.toList) && pairB normEq a.2 b.2
set_option maxHeartbeats 1000000 in
theorem sameNorm_any (w0 : World) (a b : ByteArray) (w : World) (ha : a.size ≤ maxLen) (hb : b.size ≤ maxLen) (hB : Below w0.heap.size w0 w) :
    Calls Tryz.prog 92 #[.string a, .string b] w fun e w' => e = .returned (.bool (normEq a b)) ∧ Below w0.heap.size w0 w' := by
  have HE : Hid (normEq a b = ((normS a).toList == (normS b).toList)) := Lib.hid rfl
  have HN : Hid (∀ (s : ByteArray) W, s.size ≤ maxLen → Below w0.heap.size w0 W → Calls Tryz.prog 126 #[.string s] W fun e w' => e = .returned (.string (normS s)) ∧ Below w0.heap.size w0 w') :=
    Lib.hid (fun s W hs h => (Norm_any s W hs).mono fun _ _ g => ⟨g.1, h.trans (g.2.mono h.size)⟩)
  go_enter Tryz.func92, Tryz.ntmps92
  go_wp2_with (first
    | (go_at_call 126; refine (HN.out _ _ ha hB).mono ?_; rintro e w1 ⟨rfl, hb1⟩; clear hB)
    | (go_at_call 126; refine (HN.out _ _ hb hb1).mono ?_; rintro e w2 ⟨rfl, hb2⟩; clear hb1)
    | (fail "none"))
  go_ret
  exact ⟨ret_bool HE.out.symm, hb2⟩
set_option maxRecDepth 100000 in
set_option maxHeartbeats 1000000 in
theorem eqStr_any (w0 : World) (ao bo : Option Addr) (a b : List ByteArray) (ca cb : Nat) (w : World) (hda : StrsAt w0 ao a) (hdb : StrsAt w0 bo b) (hfa : FitsV a) (hfb : FitsV b) (hB : Below w0.heap.size w0 w) :
    Calls Tryz.prog 113 #[.slice ao a.length ca, .slice bo b.length cb, .func (.func 92) #[] #[]] w fun e w' => e = .returned (.bool (pairB normEq a b)) ∧ Below w0.heap.size w0 w' := by
  have hla := hfa.1
  have hlb := hfb.1
  have HA := Lib.hid hda; have HB := Lib.hid hdb; have FA := Lib.hid hfa; have FB := Lib.hid hfb; clear hda hdb hfa hfb
  by_cases hl : a.length = b.length
  · have gl : ((a.length : Int) != (b.length : Int)) = false := by simp [hl]
    have HLen := Lib.hid hl
    clear hl
    go_enter Tryz.func113, Tryz.ntmps113
    go_wp2
    go_loopw [17] (fun i wr => ∃ k : Nat, k ≤ a.length ∧ i = .int .i64 k ∧ (∀ j (h : j < a.length) (h' : j < b.length), j < k → normEq a[j] b[j] = true) ∧ Below w0.heap.size w0 wr) (fun i _ => a.length - (intOf i).toNat)
    case atStart => exact ⟨0, Nat.zero_le _, rfl, fun j _ _ h => absurd h (Nat.not_lt_zero _), hB⟩
    case round =>
      obtain ⟨k, hk, rfl, hj, hbel⟩ := hrel
      have Hj := Lib.hid hj; clear hj
      by_cases hlt : k < a.length
      · have hlt' : k < b.length := by have := HLen.out; omega
        obtain ⟨p, off, rfl, hp0, hd1⟩ := HA.out.at hlt
        obtain ⟨q, off', rfl, hq0, he1⟩ := HB.out.at hlt'
        have c1 := (hbel.cell (p := ⟨p, off + k, none⟩) hp0).trans hd1
        have c2 := (hbel.cell (p := ⟨q, off' + k, none⟩) hq0).trans he1
        have hz1 := FA.out.max hlt
        have hz2 := FB.out.max hlt'
        have HX : Hid (normEq a[k] b[k] = false → pairB normEq a b = false) := Lib.hid (fun h => pairB_no hlt hlt' h)
        have HN : Hid (normEq a[k] b[k] = true → ∀ j (h : j < a.length) (h' : j < b.length), j < k + 1 → normEq a[j] b[j] = true) := Lib.hid (fun hn j h h' hjk => by
          by_cases e : j = k
          · subst e; exact hn
          · exact Hj.out j h h' (by omega))
        have g1 : (0 : Int) ≤ (k : Int) := by omega
        have g2 : (k : Int) < (a.length : Int) := by omega
        have g3 : (k : Int) < (b.length : Int) := by omega
        clear hd1 he1
        generalize a[k] = X at *
        generalize b[k] = Y at *
        cases hn : normEq X Y
        · have HX' := Lib.hid (HX.out hn)
          go_wp2_with (first | (go_at_call 92; refine (sameNorm_any w0 X Y _ hz1 hz2 hbel).mono ?_; rw [hn]; rintro e w1 ⟨rfl, hb1⟩) | (fail "none"))
          go_ret
          exact ⟨ret_bool HX'.out.symm, hb1⟩
        · have HN' := Lib.hid (HN.out hn)
          go_wp2_with (first | (go_at_call 92; refine (sameNorm_any w0 X Y _ hz1 hz2 hbel).mono ?_; rw [hn]; rintro e w1 ⟨rfl, hb1⟩) | (fail "none"))
          go_roundw
          case rel => exact ⟨k + 1, by omega, by go_num, HN'.out, hb1⟩
          case measure => simp [intOf]; omega
      · have HT := Lib.hid (pairB_yes (eq := normEq) HLen.out (fun j h h' => Hj.out j h h' (by omega)))
        go_wp2
        go_ret
        exact ⟨ret_bool HT.out.symm, hbel⟩
  · have HX := Lib.hid (pairB_len (eq := normEq) hl)
    have gl : ((a.length : Int) != (b.length : Int)) = true := by simp; omega
    go_enter Tryz.func113, Tryz.ntmps113
    go_wp2
    go_ret
    exact ⟨ret_bool HX.out.symm, hB⟩
set_option maxRecDepth 100000 in
set_option maxHeartbeats 1000000 in
theorem sameAttr_any (w0 : World) (A B : ByteArray) (vo uo : Option Addr) (V U : List ByteArray) (vc uc : Nat) (w : World) (hv : StrsAt w0 vo V) (hu : StrsAt w0 uo U) (hfv : FitsV V) (hfu : FitsV U) (hB : Below w0.heap.size w0 w) :
    Calls Tryz.prog 72 #[.agg #[.string A, .slice vo V.length vc], .agg #[.string B, .slice uo U.length uc]] w fun e w' => e = .returned (.bool (attrEq (A, V) (B, U))) ∧ Below w0.heap.size w0 w' := by
  have HV := Lib.hid hv; have HU := Lib.hid hu; have FV := Lib.hid hfv; have FU := Lib.hid hfu; have HB := Lib.hid hB; clear hv hu hfv hfu hB
  have HE : Hid (attrEq (A, V) (B, U) = ((A.toList == B.toList) && pairB normEq V U)) := Lib.hid rfl
  have B0 := Lib.hid (more (more HB.out (.cells #[.string A, .slice vo V.length vc] 48)) (.cells #[.string B, .slice uo U.length uc] 48))
  cases hn : (A.toList == B.toList)
  · rw [hn] at HE
    go_enter Tryz.func72, Tryz.ntmps72
    go_wp2
    go_ret
    exact ⟨ret_bool (by rw [HE.out]; rfl), B0.out⟩
  · rw [hn] at HE
    go_enter Tryz.func72, Tryz.ntmps72
    go_wp2_with fail
    refine (eqStr_any w0 vo uo V U vc uc _ HV.out HU.out FV.out FU.out B0.out).mono ?_
    rintro e w1 ⟨rfl, hb1⟩
    generalize pairB normEq V U = r at *
    go_wp2
    go_ret
    exact ⟨ret_bool (by rw [HE.out]; rfl), hb1⟩
set_option maxRecDepth 100000 in
set_option maxHeartbeats 1000000 in
theorem eqAttrs_any (ao bo : Option Addr) (a b : List AttrV) (ca cb : Nat) (w : World) (hda : AttrsAt w ao a) (hdb : AttrsAt w bo b) (hfa : FitsA a) (hfb : FitsA b) :
    Calls Tryz.prog 71 #[.slice ao a.length ca, .slice bo b.length cb, .func (.func 72) #[] #[]] w fun e w' => e = .returned (.bool (pairB attrEq a b)) ∧ Below w.heap.size w w' := by
  have hla := hfa.1
  have hlb := hfb.1
  have HA := Lib.hid hda; have HB := Lib.hid hdb; have FA := Lib.hid hfa; have FB := Lib.hid hfb; clear hda hdb hfa hfb
  by_cases hl : a.length = b.length
  · have gl : ((a.length : Int) != (b.length : Int)) = false := by simp [hl]
    have HLen := Lib.hid hl
    clear hl
    go_enter Tryz.func71, Tryz.ntmps71
    go_wp2
    go_loopw [17] (fun i wr => ∃ k : Nat, k ≤ a.length ∧ i = .int .i64 k ∧ (∀ j (h : j < a.length) (h' : j < b.length), j < k → attrEq a[j] b[j] = true) ∧ Below w.heap.size w wr) (fun i _ => a.length - (intOf i).toNat)
    case atStart => exact ⟨0, Nat.zero_le _, rfl, fun j _ _ h => absurd h (Nat.not_lt_zero _), Below.refl _ _⟩
    case round =>
      obtain ⟨k, hk, rfl, hj, hbel⟩ := hrel
      have Hj := Lib.hid hj; clear hj
      by_cases hlt : k < a.length
      · have hlt' : k < b.length := by have := HLen.out; omega
        obtain ⟨p, off, vo, vc, rfl, hp0, hd1, hd2, hv⟩ := HA.out.at hlt
        obtain ⟨q, off', uo, uc, rfl, hq0, he1, he2, hu⟩ := HB.out.at hlt'
        have hp1 : p < wr.heap.size := Nat.lt_of_lt_of_le hp0 hbel.size
        have hq1 : q < wr.heap.size := Nat.lt_of_lt_of_le hq0 hbel.size
        have c1 := (hbel.cell (p := ⟨p, off + k * 2, none⟩) hp0).trans hd1
        have c2 := (hbel.cell (p := ⟨p, off + k * 2 + 1, none⟩) hp0).trans hd2
        have c3 := (hbel.cell (p := ⟨q, off' + k * 2, none⟩) hq0).trans he1
        have c4 := (hbel.cell (p := ⟨q, off' + k * 2 + 1, none⟩) hq0).trans he2
        have HV := Lib.hid hv.1; have HU := Lib.hid hu.1; clear hv hu
        have F1 := Lib.hid (FA.out.at hlt).2; have F2 := Lib.hid (FB.out.at hlt').2
        have HX : Hid (attrEq (a[k].1, a[k].2) (b[k].1, b[k].2) = false → pairB attrEq a b = false) := Lib.hid (fun h => pairB_no hlt hlt' h)
        have HN : Hid (attrEq (a[k].1, a[k].2) (b[k].1, b[k].2) = true → ∀ j (h : j < a.length) (h' : j < b.length), j < k + 1 → attrEq a[j] b[j] = true) := Lib.hid (fun hn j h h' hjk => by
          by_cases e : j = k
          · subst e; exact hn
          · exact Hj.out j h h' (by omega))
        have g1 : (0 : Int) ≤ (k : Int) := by omega
        have g2 : (k : Int) < (a.length : Int) := by omega
        have g3 : (k : Int) < (b.length : Int) := by omega
        clear hd1 he1 hd2 he2
        generalize a[k].1 = A at *
        generalize a[k].2 = V at *
        generalize b[k].1 = C at *
        generalize b[k].2 = U at *
        have hb2 := Lib.hid (more (more hbel (.cells #[.string A, .slice vo V.length vc] 48)) (.cells #[.string C, .slice uo U.length uc] 48))
        cases hn : attrEq (A, V) (C, U)
        · have HX' := Lib.hid (HX.out hn)
          go_wp2_with (first | (go_at_call 72; refine (sameAttr_any w A C vo uo V U vc uc _ HV.out HU.out F1.out F2.out hb2.out).mono ?_; rw [hn]; rintro e w1 ⟨rfl, hb1⟩) | (fail "none"))
          go_ret
          exact ⟨ret_bool HX'.out.symm, hb1⟩
        · have HN' := Lib.hid (HN.out hn)
          go_wp2_with (first | (go_at_call 72; refine (sameAttr_any w A C vo uo V U vc uc _ HV.out HU.out F1.out F2.out hb2.out).mono ?_; rw [hn]; rintro e w1 ⟨rfl, hb1⟩) | (fail "none"))
          go_roundw
          case rel => exact ⟨k + 1, by omega, by go_num, HN'.out, hb1⟩
          case measure => simp [intOf]; omega
      · have HT := Lib.hid (pairB_yes (eq := attrEq) HLen.out (fun j h h' => Hj.out j h h' (by omega)))
        go_wp2
        go_ret
        exact ⟨ret_bool HT.out.symm, hbel⟩
  · have HX := Lib.hid (pairB_len (eq := attrEq) hl)
    have gl : ((a.length : Int) != (b.length : Int)) = true := by simp; omega
    go_enter Tryz.func71, Tryz.ntmps71
    go_wp2
    go_ret
    exact ⟨ret_bool HX.out.symm, Below.refl _ _⟩
end Go.Proofs.YtjajpdghamecoaaGreat
/- HasValue: what the program returns. -/
namespace Go.Proofs.YtjajpdghamecoaaGreat
open Go.RowKit
attribute [local go_sem ↓] Go.wp_at_zero Go.wp_at_succ

/-- the number of the first that is so, or -1 -/
def findI {α : Type} (p : α → Bool) (l : List α) : Int := match l.findIdx? p with | some i => (i : Int) | none => -1
theorem findI_none {α : Type} {p : α → Bool} {l : List α} (h : ∀ i (hi : i < l.length), p l[i] = false) : findI p l = -1 := by
  have : l.findIdx? p = none := by
    rw [List.findIdx?_eq_none_iff]
    intro a ha
    obtain ⟨i, hi, rfl⟩ := List.getElem_of_mem ha
    exact h i hi
  unfold findI; rw [this]
theorem findI_some {α : Type} {p : α → Bool} {l : List α} {k : Nat} (hk : k < l.length) (h1 : p l[k] = true) (h : ∀ i (hi : i < l.length), i < k → p l[i] = false) : findI p l = (k : Int) := by
  have : l.findIdx? p = some k := by
    rw [List.findIdx?_eq_some_iff_getElem]
    exact ⟨hk, h1, fun j hj => by simpa using h j (by omega) hj⟩
  unfold findI; rw [this]
theorem findI_range {α : Type} (p : α → Bool) (l : List α) : -1 ≤ findI p l ∧ findI p l ≤ l.length := by
  unfold findI
  cases h : l.findIdx? p with
  | none => constructor <;> simp <;> omega
  | some i =>
    rw [List.findIdx?_eq_some_iff_getElem] at h
    obtain ⟨hi, _⟩ := h
    constructor <;> simp <;> omega
def likeV (val v : ByteArray) : Bool := normEq v val
noncomputable def hasB (d : RdnL) (l : List AttrV) (nm val : ByteArray) : Bool := decide (0 ≤ findI (likeV val) (attrOfL d l nm))
set_option maxRecDepth 100000 in
set_option maxHeartbeats 1000000 in
theorem like_any (w0 : World) (q : Nat) (x val : ByteArray) (w : World) (hx : x.size ≤ maxLen) (hv : val.size ≤ maxLen) (hc : w0.cell? ⟨q, 0, none⟩ = some (.string val)) (hq : q < w0.heap.size) (hB : Below w0.heap.size w0 w) :
    Calls Tryz.prog 91 #[.string x, .pointer (some ⟨q, 0, none⟩)] w fun e w' => e = .returned (.bool (likeV val x)) ∧ Below w0.heap.size w0 w' := by
  have c1 := (hB.cell (p := ⟨q, 0, none⟩) hq).trans hc
  have HE : Hid (likeV val x = normEq x val) := Lib.hid rfl
  go_enter Tryz.func91, Tryz.ntmps91
  go_wp2_with fail
  refine (sameNorm_any w0 x val w hx hv hB).mono ?_
  rintro e w1 ⟨rfl, hb1⟩
  generalize normEq x val = r at *
  go_wp2
  go_ret
  exact ⟨ret_bool HE.out.symm, hb1⟩
set_option maxRecDepth 100000 in
set_option maxHeartbeats 1000000 in
theorem indexFunc_any (w0 : World) (vo : Option Addr) (V : List ByteArray) (vc q : Nat) (val : ByteArray) (w : World) (hd : StrsAt w0 vo V) (hf : FitsV V) (hv : val.size ≤ maxLen) (hc : w0.cell? ⟨q, 0, none⟩ = some (.string val)) (hq : q < w0.heap.size) (hB : Below w0.heap.size w0 w) :
    Calls Tryz.prog 90 #[.slice vo V.length vc, .func (.func 91) #[] #[.pointer (some ⟨q, 0, none⟩)]] w fun e w' => e = .returned (.int .i64 (findI (likeV val) V)) ∧ Below w0.heap.size w0 w' := by
  have hl := hf.1
  have HD := Lib.hid hd; have HF := Lib.hid hf; have HC := Lib.hid hc; clear hd hf hc
  go_enter Tryz.func90, Tryz.ntmps90
  go_wp2_with fail
  go_loopw [8] (fun i wr => ∃ k : Nat, k ≤ V.length ∧ i = .int .i64 k ∧ (∀ j (h : j < V.length), j < k → likeV val V[j] = false) ∧ Below w0.heap.size w0 wr) (fun i _ => V.length - (intOf i).toNat)
  case atStart => exact ⟨0, Nat.zero_le _, rfl, fun j _ h => absurd h (Nat.not_lt_zero _), hB⟩
  case round =>
    obtain ⟨k, hk, rfl, hj, hbel⟩ := hrel
    have Hj := Lib.hid hj; clear hj
    by_cases hlt : k < V.length
    · obtain ⟨p, off, rfl, hp0, hd1⟩ := HD.out.at hlt
      have c1 := (hbel.cell (p := ⟨p, off + k, none⟩) hp0).trans hd1
      have hz := HF.out.max hlt
      have g1 : (0 : Int) ≤ (k : Int) := by omega
      have g2 : (k : Int) < (V.length : Int) := by omega
      have HX : Hid (likeV val V[k] = true → findI (likeV val) V = (k : Int)) := Lib.hid (fun h => findI_some hlt h Hj.out)
      have HN : Hid (likeV val V[k] = false → ∀ j (h : j < V.length), j < k + 1 → likeV val V[j] = false) := Lib.hid (fun hn j h hjk => by
        by_cases e : j = k
        · subst e; exact hn
        · exact Hj.out j h (by omega))
      clear hd1
      generalize V[k] = x at *
      cases hn : likeV val x
      · have HN' := Lib.hid (HN.out hn)
        go_wp2_with fail
        refine (like_any w0 q x val wr hz hv HC.out hq hbel).mono ?_
        rw [hn]
        rintro e w1 ⟨rfl, hb1⟩
        go_wp2
        go_roundw
        case rel => exact ⟨k + 1, by omega, by go_num, HN'.out, hb1⟩
        case measure => simp [intOf]; omega
      · have HX' := Lib.hid (HX.out hn)
        go_wp2_with fail
        refine (like_any w0 q x val wr hz hv HC.out hq hbel).mono ?_
        rw [hn]
        rintro e w1 ⟨rfl, hb1⟩
        go_wp2
        go_ret
        exact ⟨ret_int' HX'.out.symm, hb1⟩
    · have HT := Lib.hid (findI_none (p := likeV val) (l := V) (fun i hi => Hj.out i hi (by omega)))
      go_wp2
      go_ret
      exact ⟨ret_int' HT.out.symm, hbel⟩
set_option maxRecDepth 100000 in
set_option maxHeartbeats 1000000 in
theorem normIndex_any (vo : Option Addr) (V : List ByteArray) (vc : Nat) (val : ByteArray) (w : World) (hd : StrsAt w vo V) (hf : FitsV V) (hv : val.size ≤ maxLen) :
    Calls Tryz.prog 48 #[.slice vo V.length vc, .string val] w fun e w' => e = .returned (.int .i64 (findI (likeV val) V)) ∧ Below w.heap.size w w' := by
  have HD := Lib.hid hd; have HF := Lib.hid hf; clear hd hf
  go_enter Tryz.func48, Tryz.ntmps48
  go_wp2_with fail
  have hB1 := more (Below.refl w.heap.size w) (.cells #[.string val] 9)
  refine (indexFunc_any (w.alloc (.cells #[.string val] 9)) vo V vc w.heap.size val _ (HD.out.below hB1) HF.out hv (by simp) (by simp) (Below.refl _ _)).mono ?_
  rintro e w1 ⟨rfl, hb1⟩
  generalize hr : findI (likeV val) V = r at *
  have HR := Lib.hid hr; clear hr
  go_wp2
  go_ret
  exact ⟨ret_int' HR.out.symm, hB1.trans (hb1.mono hB1.size)⟩
theorem own_strs {w : World} {B n cap : Nat} {ao : Option Addr} {V : List ByteArray} (h : w.ownsRow B 9 1 (.slice ao n cap) V.length (ss V)) : StrsAt w ao V := by
  by_cases h0 : V.length = 0
  · exact .inl (List.length_eq_zero_iff.1 h0)
  · obtain ⟨g, cp, hv, _, hlt⟩ := h.form (by omega)
    have e : ao = some ⟨g, 0, none⟩ := by injection hv
    subst e
    refine .inr ⟨g, 0, rfl, hlt, fun i hi => ?_⟩
    have := h.cells (g := g) rfl i (.string V[i]) (by unfold ss; rw [List.getElem?_map, List.getElem?_eq_getElem hi]; rfl)
    rw [add_plain] at this; rw [Nat.zero_add]; exact this
theorem attrOf_fits {d : RdnL} {l : List AttrV} (h : FitsA l) (nm : ByteArray) : FitsV (attrOfL d l nm) := by
  unfold attrOfL; split
  · exact valsOf_fits h nm
  · exact .nil
set_option maxRecDepth 100000 in
set_option maxHeartbeats 1000000 in
theorem HasValue_any (ao bo : Option Addr) (d : RdnL) (l : List AttrV) (ca cb : Nat) (nm val : ByteArray) (w : World) (hd : DnAt w ao d) (hl : AttrsAt w bo l) (hfd : Fits d) (hfl : FitsA l) (hn : nm.size ≤ maxLen) (hv : val.size ≤ maxLen) :
    Calls Tryz.prog 16 #[.agg #[.slice ao d.length ca, .slice bo l.length cb], .string nm, .string val] w fun e w' => e = .returned (.bool (hasB d l nm val)) ∧ Below w.heap.size w w' := by
  have HD := Lib.hid hd; have HL := Lib.hid hl; have FD := Lib.hid hfd; have FL := Lib.hid hfl; clear hd hl hfd hfl
  have HE : Hid (hasB d l nm val = decide (0 ≤ findI (likeV val) (attrOfL d l nm))) := Lib.hid rfl
  go_enter Tryz.func16, Tryz.ntmps16
  go_wp2_with fail
  have hB1 := more (Below.refl w.heap.size w) (.cells #[.slice ao d.length ca, .slice bo l.length cb] 26)
  refine (AttrOf_any ao bo d l ca cb nm _ (HD.out.below hB1) (HL.out.below hB1) FD.out FL.out hn).mono ?_
  rintro e w1 ⟨⟨v1, rfl, hown⟩, hb1⟩
  have FV := Lib.hid (attrOf_fits (d := d) FL.out nm)
  have B1 := Lib.hid (hB1.trans (hb1.mono hB1.size))
  obtain ⟨vo, vc, rfl⟩ := own_slice hown
  have HS := Lib.hid (own_strs hown)
  clear hown hb1 hB1
  generalize attrOfL d l nm = V at *
  go_wp2_with fail
  refine (normIndex_any vo V vc val w1 HS.out FV.out hv).mono ?_
  rintro e w2 ⟨rfl, hb2⟩
  generalize findI (likeV val) V = r at *
  by_cases h0 : 0 ≤ r
  · go_wp2
    go_ret
    exact ⟨ret_bool (by rw [HE.out]; first | done | simpa using h0), B1.out.trans (hb2.mono B1.out.size)⟩
  · have h1 : r < 0 := by omega
    go_wp2
    go_ret
    exact ⟨ret_bool (by rw [HE.out]; first | done | simpa using h1), B1.out.trans (hb2.mono B1.out.size)⟩
end Go.Proofs.YtjajpdghamecoaaGreat
/- withValues: what the program's text returns. -/
namespace Go.Proofs.YtjajpdghamecoaaGreat
open Go.RowKit
attribute [local go_sem ↓] Go.wp_at_zero Go.wp_at_succ

theorem turned_grown {w w' : World} {b : Nat} (h : w.mapTurned w' b) : w.grownBy w' (some b) := by
  obtain ⟨es, clock, es', clock', hb, rfl⟩ := h
  exact ⟨rfl, rfl, rfl, by simp [ChangeMaps.setBlock], fun i _ hi => ChangeMaps.heap_setBlock_other hb _ (fun e => hi (by rw [e]))⟩
theorem StrsAt.turn {w w' : World} {b : Nat} {es : Array MapEntry} {c : Nat} {ao : Option Addr} {V : List ByteArray} (h : StrsAt w ao V) (hm : w.heap[b]? = some (.map es c)) (hg : w.grownBy w' (some b)) : StrsAt w' ao V := by
  by_cases h0 : V = []
  · exact .inl h0
  · rcases h with h | ⟨p, off, h1, h2, h3⟩
    · exact absurd h h0
    · have hne : p ≠ b := by
        rintro rfl
        have := h3 0 (by cases V <;> simp_all)
        simp [World.cell?, hm] at this
      refine .inr ⟨p, off, h1, Nat.lt_of_lt_of_le h2 hg.size, fun i hi => ?_⟩
      have e := hg.block p h2 (by intro e; injection e with e; exact hne e)
      have := h3 i hi
      unfold World.cell? at this ⊢
      rw [e]; exact this
theorem MapIs.turn {w w' : World} {b n : Nat} {D D' : DataW Value} {T : List AttrV} (h : MapIs w D' T) (hm : w.ownsMap Tryz.prog 9 valR b n D) (hg : w.grownBy w' (some b)) : MapIs w' D' T := by
  obtain ⟨es, c, hb, _⟩ := hm
  refine ⟨h.1, fun a ha => ?_⟩
  obtain ⟨h1, vo, vc, h2, h3, h4⟩ := h.2 a ha
  exact ⟨h1, vo, vc, h2, h3.turn hb hg, h4⟩
theorem filter_two {α : Type} (p q : α → Bool) (h : ∀ a, p a = true → q a = false) (l : List α) : (l.filter p).length + (l.filter q).length ≤ l.length := by
  induction l with
  | nil => simp
  | cons a l ih =>
    rw [List.filter_cons, List.filter_cons]
    cases hp : p a with
    | true => rw [h a hp]; simp; omega
    | false => cases q a <;> simp <;> omega
theorem setL_len (T : List AttrV) (nm : ByteArray) (V : List ByteArray) : (setL T nm V).length ≤ T.length + 1 := by
  unfold setL
  rw [List.length_append, List.length_append]
  have h1 := filter_two (fun a => nameLt a (nm, V)) (fun a => nameLt (nm, V) a) (fun a h => by
    cases h2 : nameLt (nm, V) a with
    | false => rfl
    | true => have := nameLt_trans _ _ _ h h2; rw [nameLt_irrefl] at this; cases this) T
  have h2 : (if V = [] then [] else [(nm, V)] : List AttrV).length ≤ 1 := by split <;> simp
  omega
theorem setL_fits {T : List AttrV} {nm : ByteArray} {V : List ByteArray} (hT : FitsA T) (h8 : T.length ≤ 400) (hn : nm.size ≤ 1048576) (hV : FitsV V) : FitsA (setL T nm V) := by
  refine ⟨by have := setL_len T nm V; omega, fun a ha => ?_⟩
  rcases mem_setL.1 ha with ⟨h1, _⟩ | ⟨_, rfl⟩
  · exact hT.2 a h1
  · exact ⟨hn, hV⟩
/-- an entry of the call's own -/
def GivesE (w : World) (d : RdnL) (T : List AttrV) (e : Ending) (w' : World) : Prop :=
  (∃ v u, e = .returned (.agg #[v, u]) ∧ w'.ownsRow w.heap.size 97 2 v d.length (rs d) ∧ AttrsOwn w' w.heap.size u T) ∧ Below w.heap.size w w'
theorem right_inc {d : RdnL} {l : List AttrV} (h : rightB d l = true) : incB nameLt l = true := by
  unfold rightB attrsB at h
  simp only [Bool.and_eq_true] at h
  exact h.2.2
theorem AttrVals.below {w w' : World} {l : List AttrV} {ps : List (ByteArray × Value)} (h : AttrVals w l ps) (hb : Below w.heap.size w w') : AttrVals w' l ps := by
  refine ⟨h.1, fun i h1 h2 => ?_⟩
  obtain ⟨q1, vo, vc, q2, q3⟩ := h.2 i h1 h2
  exact ⟨q1, vo, vc, q2, q3.below hb⟩
theorem two_grown {w w' : World} {g : Nat} {T : TypeId} {a b : Value} {r : Nat} (h : Two w g T a b) (hg : w.grownBy w' (some r)) (hne : g ≠ r) : Two w' g T a b := (hg.block g h.lt (by intro e; injection e with e; exact hne e)).trans h
theorem AttrsOwn.below {w w' : World} {B : Nat} {v : Value} {T : List AttrV} (h : AttrsOwn w B v T) (hb : Below w.heap.size w w') : AttrsOwn w' B v T := by
  obtain ⟨P, h1, h2, h3, h4⟩ := h
  refine ⟨P, h1, own_below h2 hb, fun i q1 q2 => ?_, h4⟩
  obtain ⟨r1, r2, r3⟩ := h3 i q1 q2
  exact ⟨r1, r2, own_below r3 hb⟩
theorem AttrsOwn.mono {w : World} {B B' : Nat} {v : Value} {T : List AttrV} (h : AttrsOwn w B v T) (hB : B' ≤ B) : AttrsOwn w B' v T := by
  obtain ⟨P, h1, h2, h3, h4⟩ := h
  refine ⟨P, h1, own_mono h2 hB, fun i q1 q2 => ?_, h4⟩
  obtain ⟨r1, r2, r3⟩ := h3 i q1 q2
  exact ⟨r1, r2, own_mono r3 hB⟩
theorem own_cellOut {w : World} {B e z n R j : Nat} {v x : Value} {xs : List Value} (h : w.ownsRow B e z v n xs) (hR : R < B) : (w.setCell ⟨R, j, none⟩ x).ownsRow B e z v n xs := by
  refine h.kept (grown_set w R j x) ?_
  cases hu : v.ownBlock with
  | none => exact .inl rfl
  | some g =>
    right
    intro e
    injection e with e
    have := (h.lt g hu).1
    omega
theorem AttrsOwn.cellOut {w : World} {B R j : Nat} {v x : Value} {T : List AttrV} (h : AttrsOwn w B v T) (hR : R < B) : AttrsOwn (w.setCell ⟨R, j, none⟩ x) B v T := by
  obtain ⟨P, h1, h2, h3, h4⟩ := h
  refine ⟨P, h1, own_cellOut h2 hR, fun i q1 q2 => ?_, h4⟩
  obtain ⟨r1, r2, r3⟩ := h3 i q1 q2
  exact ⟨r1, r2, own_cellOut r3 hR⟩
set_option maxRecDepth 100000 in
set_option maxHeartbeats 1000000 in
theorem withNone_any (ao bo vo : Option Addr) (d : RdnL) (l : List AttrV) (ca cb vc : Nat) (nm : ByteArray) (w : World) (hd : DnAt w ao d) (hl : AttrsAt w bo l) (hfd : Fits d) (hfl : FitsA l) (hr : rightB d l = true) (h8 : l.length ≤ 8) (hn : nm.size ≤ 1048576) :
    Calls Tryz.prog 50 #[.agg #[.slice ao d.length ca, .slice bo l.length cb], .string nm, .slice vo 0 vc] w (GivesE w d (setL l nm [])) := by
  have HD := Lib.hid hd; have HL := Lib.hid hl; have FD := Lib.hid hfd; have FL := Lib.hid hfl; have HR := Lib.hid hr
  clear hd hl hfd hfl hr
  have hkey := Go.WideMaps.keyOf_string_mk Tryz.underlying9 (s := nm) (by unfold maxLen; omega)
  go_enter Tryz.func50, Tryz.ntmps50
  go_wp2_with fail
  refine calls_any' (fun W => Below w.heap.size w W ∧ Two W w.heap.size 26 (.slice ao d.length ca) (.slice bo l.length cb) ∧ Two W (w.heap.size + 1) 26 (.slice none 0 0) (.slice none 0 0)) ⟨more (more (Below.refl _ _) _) _, (twoNew w 26 _ _).alloc _, twoNext w _ 26 _ _⟩ ?_
  rintro W ⟨hbW, t0, t1⟩
  have hl1 := t1.lt
  refine (attrsByName_any bo l cb W (HL.out.below hbW) FL.out).mono ?_
  rintro e w1 ⟨rfl, ⟨ps, hps, hown⟩, hb1⟩
  have B1 := Lib.hid (hbW.trans (hb1.mono hbW.size)); have T0 := Lib.hid (t0.below hb1); have T1 := Lib.hid (t1.below hb1)
  have HM := Lib.hid ((mapIs_of hps HR.out).below hb1)
  have HO := Lib.hid hown
  have hlW : w.heap.size ≤ W.heap.size := hbW.size
  clear hbW t0 t1 hb1 hps hown
  generalize W.heap.size = M at *
  have hT0 := T0.out.lt
  go_wp2_with (first
    | (at_delete; refine wpList_delete_own _ rfl _ _ 83 9 rfl 48 Tryz.keyed9 Tryz.underlying83 valR M l.length (mapOf ps) rfl HO.out _ _ rfl hkey ?_; intro w2 hown2 hturn2; have hg2 := turned_grown hturn2; have T2 := Lib.hid (two_grown T0.out hg2 (by omega)); have U2 := Lib.hid (two_grown T1.out hg2 (by omega)); obtain ⟨⟨c0, c1⟩, _⟩ := T2.out.cells)
    | (fail "none"))
  have HM2 := Lib.hid ((HM.out.del nm).turn HO.out hg2)
  have B2 := Lib.hid (B1.out.grown hg2 B1.out.size (fun j hj => by injection hj with hj; omega))
  have HO2 := Lib.hid hown2
  clear hown2 hturn2 hg2 HM HO T0 T1 B1 c0 c1
  have hsz2 := B2.out.size
  have U2lt := U2.out.lt
  have HJ := Lib.hid (joinRdns_any w2.heap.size 0 1 [(ao, ca, d)] (w2.alloc (.cells #[.slice ao d.length ca] 23)) ⟨by simp, fun i hi => by
      match i, hi with
      | 0, _ => exact ⟨by simp, ((HD.out.below B2.out).below ((Below.refl _ _).alloc (Nat.le_refl _) _)), FD.out⟩⟩ (by simp))
  have HFl : Hid (flat [(ao, ca, d)] = d) := Lib.hid (by unfold flat; simp)
  rw [HFl.out] at HJ
  refine HJ.out.mono ?_
  rintro e w3 ⟨⟨v3, rfl, o3⟩, b3'⟩
  have b3 : Below w2.heap.size w2 w3 := (more (Below.refl _ _) _).trans (b3'.mono (by simp))
  have O3 := Lib.hid (own_mono o3 (show w2.heap.size ≤ _ by simp))
  have B3 := Lib.hid (B2.out.trans (b3.mono hsz2)); have U3 := Lib.hid (U2.out.below b3); have HM3 := Lib.hid (HM2.out.below b3); have HO3 := Lib.hid (HO2.out.kept (grown_of b3 none) (by simp))
  clear b3' b3 o3 HM2 HO2 U2 HJ
  have hsz3 := B3.out.size
  have U3lt := U3.out.lt
  have HA := Lib.hid (attrsInOrder_any M l.length _ (setL l nm []) w3 HO3.out HM3.out (setL_fits FL.out (by omega) hn .nil) (by have := setL_len l nm []; omega) (inc_setL (right_inc HR.out) nm []) (by omega))
  go_wp2_with fail
  refine HA.out.mono ?_
  rintro e w4 ⟨⟨v4, rfl, o4⟩, b4⟩
  have O4 := Lib.hid (own_below O3.out b4); have A4 := Lib.hid o4; have B4 := Lib.hid (B3.out.trans (b4.mono hsz3)); have U4 := Lib.hid (U3.out.below b4)
  clear o4 b4 O3 HA HO3 HM3 U3
  obtain ⟨d0, dc, rfl⟩ := own_slice O4.out
  obtain ⟨a0, ac, rfl⟩ : ∃ a0 ac, v4 = .slice a0 (setL l nm []).length ac := by obtain ⟨P, _, h2, _⟩ := A4.out; exact own_slice h2
  obtain ⟨⟨k0, k1⟩, f0, f1⟩ := U4.out.cells
  obtain ⟨⟨q0, q1⟩, _⟩ := ((U4.out.set0 (.slice d0 d.length dc)).set1 (.slice a0 (setL l nm []).length ac)).cells
  go_wp2_with fail
  refine bodyPost_ret (v := .agg #[.slice d0 d.length dc, .slice a0 (setL l nm []).length ac]) (by simp [results, Tryz.results50, go_sem, q0, q1]) rfl ⟨⟨_, _, rfl, ?_, ?_⟩, ?_⟩
  · exact own_mono (own_cellOut (own_cellOut O4.out (by omega)) (by omega)) hsz2
  · exact ((A4.out.cellOut (by omega)).cellOut (by omega)).mono hsz3
  · exact (B4.out.setCell (p := ⟨w.heap.size + 1, 0, none⟩) (by show w.heap.size ≤ w.heap.size + 1; omega) _).setCell (p := ⟨w.heap.size + 1, 1, none⟩) (by show w.heap.size ≤ w.heap.size + 1; omega) _
set_option maxRecDepth 100000 in
set_option maxHeartbeats 1000000 in
theorem withSome_any (ao bo vo : Option Addr) (d : RdnL) (l : List AttrV) (V : List ByteArray) (ca cb vc : Nat) (nm : ByteArray) (w : World) (hd : DnAt w ao d) (hl : AttrsAt w bo l) (hfd : Fits d) (hfl : FitsA l) (hr : rightB d l = true) (h8 : l.length ≤ 8) (hn : nm.size ≤ 1048576) (hv : ValsAt w vo vc V) (hfv : FitsV V) (h12 : V.length ≤ 12) (h0 : 0 < V.length) :
    Calls Tryz.prog 50 #[.agg #[.slice ao d.length ca, .slice bo l.length cb], .string nm, .slice vo V.length vc] w fun e w' => ∃ L : List ByteArray, L.Perm V ∧ Asc normLt L L.length ∧ GivesE w d (setL l nm L) e w' := by
  have HD := Lib.hid hd; have HL := Lib.hid hl; have FD := Lib.hid hfd; have FL := Lib.hid hfl; have HR := Lib.hid hr; have HVv := Lib.hid hv; have FV := Lib.hid hfv
  clear hd hl hfd hfl hr hv hfv
  have h0' : ((V.length : Int) == 0) = false := by
    rw [beq_eq_false_iff_ne]; omega
  have hkey := Go.WideMaps.keyOf_string_mk Tryz.underlying9 (s := nm) (by unfold maxLen; omega)
  go_enter Tryz.func50, Tryz.ntmps50
  go_wp2_with fail
  refine calls_any' (fun W => Below w.heap.size w W ∧ Two W w.heap.size 26 (.slice ao d.length ca) (.slice bo l.length cb) ∧ Two W (w.heap.size + 1) 26 (.slice none 0 0) (.slice none 0 0)) ⟨more (more (Below.refl _ _) _) _, (twoNew w 26 _ _).alloc _, twoNext w _ 26 _ _⟩ ?_
  rintro W ⟨hbW, t0, t1⟩
  have hl1 := t1.lt
  refine (attrsByName_any bo l cb W (HL.out.below hbW) FL.out).mono ?_
  rintro e w1 ⟨rfl, ⟨ps, hps, hown⟩, hb1⟩
  have B1 := Lib.hid (hbW.trans (hb1.mono hbW.size)); have T0 := Lib.hid (t0.below hb1); have T1 := Lib.hid (t1.below hb1)
  have HM := Lib.hid ((mapIs_of hps HR.out).below hb1)
  have HO := Lib.hid hown
  have hlW : w.heap.size ≤ W.heap.size := hbW.size
  clear hbW t0 t1 hb1 hps hown
  generalize W.heap.size = M at *
  have hT0 := T0.out.lt
  have hz1 := B1.out.size
  go_wp2_with fail
  refine (sortedS_any vo V vc w1 (HVv.out.below B1.out) FV.out h12).mono ?_
  rintro e w15 ⟨⟨v15, L, rfl, hp, ha, o15⟩, b15⟩
  obtain ⟨so, sc, rfl⟩ := own_slice o15
  have hLV := hp.length_eq
  have HVL : Hid (ValsAt w15 so sc L) := Lib.hid ⟨own_strs o15, own_cap o15, fun e => by
    rcases o15.2 with ⟨q, _⟩ | ⟨k, cp, cur, q, _⟩
    · injection q
    · rw [e] at q; injection q with q; cases q⟩
  have FL' : Hid (FitsV L) := Lib.hid ⟨by have := FV.out.1; omega, fun s hs => FV.out.2 s (hp.mem_iff.1 hs)⟩
  have HPm := Lib.hid hp; have HAs := Lib.hid ha
  have hLne : L ≠ [] := by intro e; rw [e] at hLV; simp at hLV; omega
  have BX := Lib.hid (B1.out.trans (b15.mono hz1)); have TX := Lib.hid (T0.out.below b15); have UX := Lib.hid (T1.out.below b15); have HMX := Lib.hid (HM.out.below b15); have HOX := Lib.hid (HO.out.kept (grown_of b15 none) (by simp))
  clear b15 o15 hp ha B1 T0 T1 HM HO hz1 hLV
  go_wp2_with (first
    | (at_mapUpdate; refine wpList_mapUpdate_own _ rfl _ _ _ 83 rfl 9 48 Tryz.keyed9 Tryz.underlying83 valR M l.length (mapOf ps) rfl HOX.out (by unfold maxLen; omega) _ _ _ rfl rfl hkey (.held (.agg #[.string nm, .slice so L.length sc])) [] rfl ?_; intro w2 hown2 hg2; have T2 := Lib.hid (two_grown TX.out hg2 (by omega)); have U2 := Lib.hid (two_grown UX.out hg2 (by omega)); obtain ⟨⟨c0, c1⟩, _⟩ := T2.out.cells)
    | (fail "none"))
  have HM2 := Lib.hid ((HMX.out.put (isMap_mapOf ps) nm hLne HVL.out).turn HOX.out hg2)
  have B2 := Lib.hid (BX.out.grown hg2 BX.out.size (fun j hj => by injection hj with hj; omega))
  have HO2 := Lib.hid hown2
  clear hown2 hg2 HMX HOX TX UX BX c0 c1
  have hsz2 := B2.out.size
  have U2lt := U2.out.lt
  have HJ := Lib.hid (joinRdns_any w2.heap.size 0 1 [(ao, ca, d)] (w2.alloc (.cells #[.slice ao d.length ca] 23)) ⟨by simp, fun i hi => by
      match i, hi with
      | 0, _ => exact ⟨by simp, ((HD.out.below B2.out).below ((Below.refl _ _).alloc (Nat.le_refl _) _)), FD.out⟩⟩ (by simp))
  have HFl : Hid (flat [(ao, ca, d)] = d) := Lib.hid (by unfold flat; simp)
  rw [HFl.out] at HJ
  refine HJ.out.mono ?_
  rintro e w3 ⟨⟨v3, rfl, o3⟩, b3'⟩
  have b3 : Below w2.heap.size w2 w3 := (more (Below.refl _ _) _).trans (b3'.mono (by simp))
  have O3 := Lib.hid (own_mono o3 (show w2.heap.size ≤ _ by simp))
  have B3 := Lib.hid (B2.out.trans (b3.mono hsz2)); have U3 := Lib.hid (U2.out.below b3); have HM3 := Lib.hid (HM2.out.below b3); have HO3 := Lib.hid (HO2.out.kept (grown_of b3 none) (by simp))
  clear b3' b3 o3 HM2 HO2 U2 HJ
  have hsz3 := B3.out.size
  have U3lt := U3.out.lt
  have HA := Lib.hid (attrsInOrder_any M (l.length + 1) _ (setL l nm L) w3 HO3.out HM3.out (setL_fits FL.out (by omega) hn FL'.out) (by have := setL_len l nm L; omega) (inc_setL (right_inc HR.out) nm L) (by omega))
  go_wp2_with fail
  refine HA.out.mono ?_
  rintro e w4 ⟨⟨v4, rfl, o4⟩, b4⟩
  have O4 := Lib.hid (own_below O3.out b4); have A4 := Lib.hid o4; have B4 := Lib.hid (B3.out.trans (b4.mono hsz3)); have U4 := Lib.hid (U3.out.below b4)
  clear o4 b4 O3 HA HO3 HM3 U3
  obtain ⟨d0, dc, rfl⟩ := own_slice O4.out
  obtain ⟨a0, ac, rfl⟩ : ∃ a0 ac, v4 = .slice a0 (setL l nm L).length ac := by obtain ⟨P, _, h2, _⟩ := A4.out; exact own_slice h2
  obtain ⟨⟨k0, k1⟩, f0, f1⟩ := U4.out.cells
  obtain ⟨⟨q0, q1⟩, _⟩ := ((U4.out.set0 (.slice d0 d.length dc)).set1 (.slice a0 (setL l nm L).length ac)).cells
  go_wp2_with fail
  refine bodyPost_ret (v := .agg #[.slice d0 d.length dc, .slice a0 (setL l nm L).length ac]) (by simp [results, Tryz.results50, go_sem, q0, q1]) rfl ⟨L, HPm.out, HAs.out, ⟨_, _, rfl, ?_, ?_⟩, ?_⟩
  · exact own_mono (own_cellOut (own_cellOut O4.out (by omega)) (by omega)) hsz2
  · exact ((A4.out.cellOut (by omega)).cellOut (by omega)).mono hsz3
  · exact (B4.out.setCell (p := ⟨w.heap.size + 1, 0, none⟩) (by show w.heap.size ≤ w.heap.size + 1; omega) _).setCell (p := ⟨w.heap.size + 1, 1, none⟩) (by show w.heap.size ≤ w.heap.size + 1; omega) _
end Go.Proofs.YtjajpdghamecoaaGreat
/- The helpers of the laws: a result's entry is marked, and the marks are found again. -/
namespace Go.Proofs.YtjajpdghamecoaaGreat
open Go.RowKit
attribute [local go_sem ↓] Go.wp_at_zero Go.wp_at_succ

/-- a row of the law's own, in a block from lo to below hi -/
def RowIn (w : World) (lo hi e z : Nat) (v : Value) (n : Nat) (xs : List Value) : Prop := w.ownsRow lo e z v n xs ∧ ∀ g, v.ownBlock = some g → g < hi
theorem RowIn.below {w w' : World} {lo hi e z n : Nat} {v : Value} {xs : List Value} (h : RowIn w lo hi e z v n xs) (hb : Below w.heap.size w w') : RowIn w' lo hi e z v n xs := ⟨own_below h.1 hb, h.2⟩
theorem rowIn_of {w : World} {lo e z n : Nat} {v : Value} {xs : List Value} (h : w.ownsRow lo e z v n xs) : RowIn w lo w.heap.size e z v n xs := ⟨h, fun g hg => (h.lt g hg).2⟩
theorem RowIn.kept {w w' : World} {lo hi e z n : Nat} {v : Value} {xs : List Value} {row : Option Nat} (h : RowIn w lo hi e z v n xs) (hg : w.grownBy w' row) (hne : ∀ g, v.ownBlock = some g → row ≠ some g) : RowIn w' lo hi e z v n xs := by
  refine ⟨h.1.kept hg ?_, h.2⟩
  cases hv : v.ownBlock with
  | none => exact .inl rfl
  | some g => exact .inr (fun e => hne g hv e.symm)
theorem RowIn.mid {w w' : World} {lo hi a b e z n : Nat} {v : Value} {xs : List Value} (h : RowIn w lo hi e z v n xs) (hm : Mid a b w w') (hx : hi ≤ a ∨ b ≤ lo) : RowIn w' lo hi e z v n xs := by
  refine ⟨⟨h.1.1, ?_⟩, h.2⟩
  rcases h.1.2 with h0 | ⟨g, cap, cur, e, hB, hk, hr⟩
  · exact .inl h0
  · have h1 := h.2 g (by rw [e]; rfl)
    exact .inr ⟨g, cap, cur, e, hB, (hm.2.2.2.2 g (Array.getElem?_eq_some_iff.1 hk).1 (by omega)).trans hk, hr⟩
theorem RowIn.turn {w w' : World} {lo hi e z n : Nat} {v : Value} {xs : List Value} (h : RowIn w lo hi e z v n xs) (hg : w.grownBy w' v.ownBlock) : Mid lo hi w w' := by
  refine ⟨hg.os, hg.tape, hg.output, hg.size, fun k hk hx => hg.block k hk ?_⟩
  intro e
  have h1 := h.2 k e.symm
  have h2 := (h.1.lt k e.symm).1
  omega
/-- rows of different types lie in different blocks -/
theorem rows_apart {w : World} {lo lo' e e' z z' n n' : Nat} {v v' : Value} {xs xs' : List Value} (h : w.ownsRow lo e z v n xs) (h' : w.ownsRow lo' e' z' v' n' xs') (hne : e ≠ e') : ∀ g, v.ownBlock = some g → v'.ownBlock ≠ some g := by
  intro g hg hg'
  rcases h.2 with ⟨rfl, _⟩ | ⟨k, cap, cur, rfl, _, hk, _⟩
  · simp [Value.ownBlock] at hg
  · rcases h'.2 with ⟨rfl, _⟩ | ⟨k', cap', cur', rfl, _, hk', _⟩
    · simp [Value.ownBlock] at hg'
    · simp [Value.ownBlock] at hg hg'
      subst hg; subst hg'
      rw [hk] at hk'
      injection hk' with hk'
      injection hk' with _ ht
      exact hne ht
/-- the rows of pairs are as they were -/
def Keeps97 (w w' : World) : Prop := ∀ (k : Nat) (C : Array Value) (fz : Nat × Nat), w.heap[k]? = some (.cells C 97 fz) → w'.heap[k]? = some (.cells C 97 fz)
theorem Keeps97.refl (w : World) : Keeps97 w w := fun _ _ _ h => h
theorem Keeps97.trans {a b c : World} (h : Keeps97 a b) (g : Keeps97 b c) : Keeps97 a c := fun k C fz e => g k C fz (h k C fz e)
theorem Keeps97.of_below {a b : World} (h : Below a.heap.size a b) : Keeps97 a b := fun k C fz e => (h.block k (Array.getElem?_eq_some_iff.1 e).1).trans e
theorem Keeps97.of_grown {w w' : World} {lo e z n : Nat} {v : Value} {xs : List Value} (h : w.ownsRow lo e z v n xs) (hne : e ≠ 97) (hg : w.grownBy w' v.ownBlock) : Keeps97 w w' := by
  intro k C fz hk
  refine (hg.block k (Array.getElem?_eq_some_iff.1 hk).1 (fun e' => ?_)).trans hk
  rcases h.2 with ⟨rfl, _⟩ | ⟨g, cap, cur, rfl, _, hgg, _⟩
  · cases e'
  · simp [Value.ownBlock] at e'
    subst e'
    rw [hgg] at hk
    injection hk with hk
    injection hk with _ ht
    exact hne ht
theorem RowIn.keep97 {w w' : World} {lo hi z n : Nat} {v : Value} {xs : List Value} (h : RowIn w lo hi 97 z v n xs) (hk : Keeps97 w w') : RowIn w' lo hi 97 z v n xs := by
  refine ⟨⟨h.1.1, ?_⟩, h.2⟩
  rcases h.1.2 with h0 | ⟨g, cap, cur, e, hB, hg, hr⟩
  · exact .inl h0
  · exact .inr ⟨g, cap, cur, e, hB, hk _ _ _ hg, hr⟩
def ApartB (P : List PairV) : Prop := P.Pairwise fun p q => ∀ g, p.2.ownBlock = some g → q.2.ownBlock ≠ some g
theorem ApartB.at {P : List PairV} (h : ApartB P) {i j : Nat} (hi : i < P.length) (hj : j < P.length) (hij : i ≠ j) : ∀ g, P[i].2.ownBlock = some g → P[j].2.ownBlock ≠ some g := by
  intro g h1 h2
  rcases Nat.lt_or_gt_of_ne hij with hl | hl
  · exact (List.pairwise_iff_getElem.1 h) i j hi hj hl g h1 h2
  · exact (List.pairwise_iff_getElem.1 h) j i hj hi hl g h2 h1
theorem apartB_of (P Q : List PairV) (h : ApartB P) (hl : Q.length = P.length) (he : ∀ i (h : i < Q.length) (h' : i < P.length), Q[i].2 = P[i].2) : ApartB Q := by
  refine List.pairwise_iff_getElem.2 fun i j hi hj hij => ?_
  rw [he i hi (by omega), he j hj (by omega)]
  exact (List.pairwise_iff_getElem.1 h) i j (by omega) (by omega) hij
/-- attributes of the law's own: the names of the first jn and the texts of the first jv are marked -/
def AttrsMk (w : World) (lo hi : Nat) (u : Value) (T : List AttrV) (k jn jv : Nat) : Prop :=
  ∃ P : List PairV, P.length = T.length ∧ RowIn w lo hi 48 2 u T.length (ps P) ∧ ApartB P ∧ ∀ i (h : i < T.length) (h' : i < P.length),
    (i < jn → P[i].1 = mkT (k + cntA T i)) ∧ IsSl P[i].2 ∧ ∃ V : List ByteArray, V.length = T[i].2.length ∧ RowIn w lo hi 9 1 P[i].2 V.length (ss V) ∧ (i < jv → V = marksS (k + cntA T i + 1) T[i].2.length) ∧ (jn ≤ i → P[i].1 = T[i].1) ∧ (jv ≤ i → V = T[i].2)
theorem AttrsMk.below {w w' : World} {lo hi k jn jv : Nat} {u : Value} {T : List AttrV} (h : AttrsMk w lo hi u T k jn jv) (hb : Below w.heap.size w w') : AttrsMk w' lo hi u T k jn jv := by
  obtain ⟨P, h1, h2, h3, h4⟩ := h
  refine ⟨P, h1, h2.below hb, h3, fun i a b => ?_⟩
  obtain ⟨q1, q2, V, q3, q4, q5⟩ := h4 i a b
  exact ⟨q1, q2, V, q3, q4.below hb, q5⟩
theorem ps_set (P : List PairV) (j : Nat) (A : ByteArray) (hj : j < P.length) : (ps P).set (j * 2) (.string A) = ps (P.set j (A, P[j].2)) := by
  induction P generalizing j with
  | nil => simp at hj
  | cons p P ih =>
    cases j with
    | zero => simp [ps]
    | succ j =>
      have := ih j (by simpa using hj)
      simp only [ps, List.flatMap_cons] at this ⊢
      rw [show (j + 1) * 2 = j * 2 + 1 + 1 by omega]
      simp only [List.cons_append, List.nil_append, List.set_cons_succ, List.getElem_cons_succ, List.flatMap_cons]
      rw [this]
theorem AttrsMk.at {w : World} {lo hi k jn jv j : Nat} {u : Value} {T : List AttrV} (h : AttrsMk w lo hi u T k jn jv) (hj : j < T.length) :
    ∃ g cap, u = .slice (some ⟨g, 0, none⟩) T.length cap ∧ lo ≤ g ∧ g < hi ∧ (∃ x, w.cell? ⟨g, j * 2, none⟩ = some (.string x) ∧ (j < jn → x = mkT (k + cntA T j))) ∧ w.frozen? ⟨g, j * 2, none⟩ = false ∧
      ∃ vo vc V, w.cell? ⟨g, j * 2 + 1, none⟩ = some (.slice vo T[j].2.length vc) ∧ V.length = T[j].2.length ∧ RowIn w lo hi 9 1 (.slice vo T[j].2.length vc) V.length (ss V) ∧ (j < jv → V = marksS (k + cntA T j + 1) T[j].2.length) := by
  obtain ⟨P, h1, h2, h3, h4⟩ := h
  have hjP : j < P.length := by omega
  rcases h2.1.2 with ⟨_, h0⟩ | ⟨g, cap, cur, rfl, hg, _⟩
  · omega
  · obtain ⟨q1, ⟨vo, n, vc, q2⟩, V, q3, q4, q5, _⟩ := h4 j hj hjP
    rw [q2] at q4
    obtain rfl : n = T[j].2.length := by
      obtain ⟨_, _, e⟩ := own_slice q4.1
      injection e with _ e _
      omega
    have c0 := h2.1.cellAt (j * 2) (by omega)
    have c1 := h2.1.cellAt (j * 2 + 1) (by omega)
    obtain ⟨p0, p1⟩ := ps_get P j hjP
    rw [p0] at c0; rw [p1, q2] at c1
    exact ⟨g, cap, rfl, hg, h2.2 g rfl, ⟨P[j].1, c0, q1⟩, h2.1.frozenAt _, vo, vc, V, c1, q3, q4, q5⟩
theorem AttrsMk.name {w : World} {lo hi k j g cap : Nat} {T : List AttrV} (h : AttrsMk w lo hi (.slice (some ⟨g, 0, none⟩) T.length cap) T k j j) (hj : j < T.length) :
    AttrsMk (w.setCell ⟨g, j * 2, none⟩ (.string (mkT (k + cntA T j)))) lo hi (.slice (some ⟨g, 0, none⟩) T.length cap) T k (j + 1) j ∧ Mid lo hi w (w.setCell ⟨g, j * 2, none⟩ (.string (mkT (k + cntA T j)))) ∧ Keeps97 w (w.setCell ⟨g, j * 2, none⟩ (.string (mkT (k + cntA T j)))) := by
  obtain ⟨P, h1, h2, h3, h4⟩ := h
  have hjP : j < P.length := by omega
  obtain ⟨s1, s2⟩ := h2.1.stored (j * 2) (.string (mkT (k + cntA T j)))
  have hm := h2.turn s2
  rw [ps_set P j _ hjP] at s1
  refine ⟨⟨P.set j (mkT (k + cntA T j), P[j].2), by simpa using h1, ⟨s1, h2.2⟩, ?_, fun i a b => ?_⟩, hm, Keeps97.of_grown h2.1 (by decide) s2⟩
  · refine apartB_of P _ h3 (by simp) fun i a b => ?_
    rw [List.getElem_set]; split
    · rename_i e; subst e; rfl
    · rfl
  · have hb : i < P.length := by omega
    obtain ⟨q1, q2, V, q3, q4, q5, q6, q7⟩ := h4 i a hb
    have e2 : (P.set j (mkT (k + cntA T j), P[j].2))[i].2 = P[i].2 := by
      rw [List.getElem_set]; split
      · rename_i e; subst e; rfl
      · rfl
    refine ⟨fun hlt => ?_, by rw [e2]; exact q2, V, q3, ?_, q5, fun hge => ?_, q7⟩
    · rw [List.getElem_set]; split
      · rename_i e; subst e; rfl
      · rename_i e; exact q1 (by omega)
    · rw [e2]
      exact q4.kept s2 (fun g' hg' e => rows_apart q4.1 h2.1 (by decide) g' hg' e)
    · rw [List.getElem_set, if_neg (by omega)]; exact q6 (by omega)
theorem AttrsMk.texts {w w' : World} {lo hi k j vc : Nat} {u : Value} {vo : Option Addr} {T : List AttrV} (h : AttrsMk w lo hi u T k (j + 1) j) (hj : j < T.length)
    (hc : ∀ g cap, u = .slice (some ⟨g, 0, none⟩) T.length cap → w.cell? ⟨g, j * 2 + 1, none⟩ = some (.slice vo T[j].2.length vc))
    (hr : RowIn w' lo hi 9 1 (.slice vo T[j].2.length vc) (marksS (k + cntA T j + 1) T[j].2.length).length (ss (marksS (k + cntA T j + 1) T[j].2.length))) (hg : w.grownBy w' (Value.slice vo T[j].2.length vc).ownBlock) :
    AttrsMk w' lo hi u T k (j + 1) (j + 1) := by
  obtain ⟨P, h1, h2, h3, h4⟩ := h
  have hjP : j < P.length := by omega
  have hP : P[j].2 = .slice vo T[j].2.length vc := by
    rcases h2.1.2 with ⟨_, h0⟩ | ⟨g, cap, cur, rfl, _, _⟩
    · omega
    · have c1 := h2.1.cellAt (j * 2 + 1) (by omega)
      rw [hc g cap rfl, (ps_get P j hjP).2] at c1
      injection c1 with c1
      exact c1.symm
  obtain ⟨_, _, V0, _, r0, _⟩ := h4 j hj hjP
  rw [hP] at r0
  refine ⟨P, h1, h2.kept hg (fun g hg e => rows_apart r0.1 h2.1 (by decide) g e hg), h3, fun i a b => ?_⟩
  obtain ⟨q1, q2, V, q3, q4, q5, q6, q7⟩ := h4 i a b
  refine ⟨q1, q2, ?_⟩
  by_cases e : i = j
  · subst e
    refine ⟨_, marksS_len _ _, ?_, fun _ => rfl, q6, fun h => absurd h (by omega)⟩
    rw [hP]; exact hr
  · refine ⟨V, q3, q4.kept hg (fun g hg' e' => ?_), fun hlt => q5 (by omega), q6, fun hge => q7 (by omega)⟩
    rw [← hP] at e'
    exact h3.at hjP b (fun h => e h.symm) g e' hg'
theorem slice_own {lo hi n vc : Nat} {w : World} {vo : Option Addr} {V : List ByteArray} (h : RowIn w lo hi 9 1 (.slice vo n vc) V.length (ss V)) : V.length = n := by
  obtain ⟨_, _, e⟩ := own_slice h.1
  injection e with _ e _
  exact e.symm
set_option maxRecDepth 100000 in
set_option maxHeartbeats 2000000 in
theorem markAttrS_own (u : Value) (lo hi k : Nat) (T : List AttrV) (w : World) (hS : AttrsMk w lo hi u T k 0 0) (hz : cntA T T.length ≤ 800) (hk1 : 0 < k) (hk2 : k ≤ 100) :
    Calls Tryz.prog 84 #[u, .int .i64 k] w fun e w' => e = .returned (.int .i64 ((k + cntA T T.length : Nat) : Int)) ∧ AttrsMk w' lo hi u T k T.length T.length ∧ Mid lo hi w w' ∧ Keeps97 w w' := by
  by_cases hT0 : T.length = 0
  · obtain ⟨ao, cap, rfl⟩ : ∃ ao cap, u = .slice ao T.length cap := by obtain ⟨P, _, h2, _⟩ := hS; exact own_slice h2.1
    have HS := Lib.hid hS; clear hS
    have hc0 : cntA T T.length = 0 := by rw [hT0]; simp [cntA]
    have H0 := Lib.hid hT0
    rw [hc0]
    generalize hTn : T.length = n at *
    subst hT0
    go_enter Tryz.func84, Tryz.ntmps84
    go_wp2
    go_loop [1, 5] (fun t i => t = .int .i64 k ∧ i = .int .i64 0) (fun _ _ => 0)
    case atStart => exact ⟨rfl, rfl⟩
    case round =>
      obtain ⟨rfl, rfl⟩ := hrel
      go_wp2
      go_ret
      exact ⟨rfl, HS.out, Mid.refl _ _ _, Keeps97.refl _⟩
  obtain ⟨g, cap, rfl, hg1, hg2, _⟩ := hS.at (j := 0) (by omega)
  have HS := Lib.hid hS; clear hS
  have hTl : T.length ≤ 800 := by
    have : ∀ L : List AttrV, L.length ≤ (L.map fun a => 1 + a.2.length).sum := fun L => by
      induction L with
      | nil => simp
      | cons a L ih => simp only [List.length_cons, List.map_cons, List.sum_cons]; omega
    have := this T
    unfold cntA at hz; rw [List.take_length] at hz
    omega
  go_enter Tryz.func84, Tryz.ntmps84
  go_wp2
  go_loopw [1, 5] (fun t i wr => ∃ j : Nat, j ≤ T.length ∧ i = .int .i64 j ∧ t = .int .i64 ((k + cntA T j : Nat) : Int) ∧ AttrsMk wr lo hi (.slice (some ⟨g, 0, none⟩) T.length cap) T k j j ∧ Mid lo hi w wr ∧ Keeps97 w wr) (fun _ i _ => T.length - (intOf i).toNat)
  case atStart => exact ⟨0, Nat.zero_le _, rfl, by simp [cntA], HS.out, Mid.refl _ _ _, Keeps97.refl _⟩
  case round =>
    obtain ⟨j, hj, rfl, rfl, hA, hM, hK⟩ := hrel
    have HA := Lib.hid hA; have HM := Lib.hid hM; have HK := Lib.hid hK; clear hA hM hK
    have hcj := cntA_le T j
    by_cases hlt : j < T.length
    · have HCs := Lib.hid (cntA_succ T j hlt)
      have hcs : cntA T j + (1 + T[j].2.length) ≤ cntA T T.length := by have := cntA_le T (j + 1); rw [HCs.out] at this; exact this
      have g1 : (0 : Int) ≤ (j : Int) := by omega
      have g2 : (j : Int) < (T.length : Int) := by omega
      go_wp2_with fail
      refine (markText_any (k + cntA T j) wr (by omega) (by omega)).mono ?_
      rintro e w2 ⟨rfl, hb2⟩
      have HA2 := Lib.hid (HA.out.below hb2)
      have HM2 := Lib.hid (HM.out.trans (Mid.of_below hb2)); have HK2 := Lib.hid (HK.out.trans (Keeps97.of_below hb2))
      clear hb2
      obtain ⟨g', cap', eu, _, _, ⟨x0, c0, _⟩, f0, _⟩ := HA2.out.at hlt
      injection eu with eu _ eu2
      injection eu with eu
      injection eu with eu
      subst eu; subst eu2
      obtain ⟨hA3, hM3, hK3⟩ := HA2.out.name hlt
      have HA3 := Lib.hid hA3; have HM3 := Lib.hid (HM2.out.trans hM3); have HK3 := Lib.hid (HK2.out.trans hK3)
      obtain ⟨g', cap', eu, _, _, _, _, vo, vc, V, c1, v1, v2, _⟩ := HA3.out.at hlt
      injection eu with eu _ eu2
      injection eu with eu
      injection eu with eu
      subst eu; subst eu2
      have HV := Lib.hid v2
      have HC1 := Lib.hid c1
      have HMS : Hid (∀ W, RowIn W lo hi 9 1 (.slice vo T[j].2.length vc) V.length (ss V) → Calls Tryz.prog 40 #[.slice vo T[j].2.length vc, .int .i64 (((k + cntA T j + 1 : Nat)) : Int)] W fun e w' => e = .returned (.int .i64 ((k + cntA T j + 1 + T[j].2.length : Nat) : Int)) ∧ RowIn w' lo hi 9 1 (.slice vo T[j].2.length vc) (marksS (k + cntA T j + 1) T[j].2.length).length (ss (marksS (k + cntA T j + 1) T[j].2.length)) ∧ W.grownBy w' (Value.slice vo T[j].2.length vc).ownBlock) :=
        Lib.hid (fun W h => by
          have := markStringS_any (.slice vo T[j].2.length vc) V lo (k + cntA T j + 1) W h.1 (by omega) (by omega) (by omega)
          rw [v1] at this
          exact this.mono fun e w' ⟨a, b, c⟩ => ⟨a, ⟨b, h.2⟩, c⟩)
      have HTx : Hid (∀ W, RowIn W lo hi 9 1 (.slice vo T[j].2.length vc) (marksS (k + cntA T j + 1) T[j].2.length).length (ss (marksS (k + cntA T j + 1) T[j].2.length)) → (w2.setCell ⟨g, j * 2, none⟩ (.string (mkT (k + cntA T j)))).grownBy W (Value.slice vo T[j].2.length vc).ownBlock → AttrsMk W lo hi (.slice (some ⟨g, 0, none⟩) T.length cap) T k (j + 1) (j + 1)) :=
        Lib.hid (fun W h1 h2 => HA3.out.texts hlt (fun g' c' e => by injection e with e; injection e with e; injection e with e; subst e; exact HC1.out) h1 h2)
      have hv1' : T[j].2.length ≤ 800 := by omega
      clear hA3 hM3 hK3 v1 v2
      generalize T[j].2.length = n at *
      generalize hA0 : mkT (k + cntA T j) = A at *
      clear hA0
      generalize marksS (k + cntA T j + 1) n = MV at *
      generalize hcc : cntA T j = c at *
      have Hcc := Lib.hid hcc; clear hcc
      rw [show ((k + c + 1 : Nat) : Int) = (k : Int) + (c : Int) + 1 by omega] at HMS
      go_wp2_with fail
      refine (HMS.out _ HV.out).mono ?_
      rintro e w3 ⟨rfl, hr3, hg3⟩
      have HA4 := Lib.hid (HTx.out w3 hr3 hg3)
      have HM4 := Lib.hid (HM3.out.trans (HV.out.turn hg3)); have HK4 := Lib.hid (HK3.out.trans (Keeps97.of_grown HV.out.1 (by decide) hg3))
      clear hr3 hg3 c0 f0 c1
      go_wp2
      go_roundw
      case rel => exact ⟨j + 1, by omega, by go_num, by rw [HCs.out]; exact congrArg (Value.int .i64) (by omega), HA4.out, HM4.out, HK4.out⟩
      case measure => simp [intOf]; omega
    · have e : j = T.length := by omega
      subst e
      go_wp2
      go_ret
      exact ⟨ret_int' (by omega), HA.out, HM.out, HK.out⟩
end Go.Proofs.YtjajpdghamecoaaGreat
/- ValueAdd: what the program's text returns. -/
namespace Go.Proofs.YtjajpdghamecoaaGreat
open Go.RowKit
attribute [local go_sem ↓] Go.wp_at_zero Go.wp_at_succ

def vcode (r : Bool) (nm val : ByteArray) : Int := if 8000 < nm.size ∨ 8000 < val.size then 2 else if (r && nmL nm && valB val) = true then 0 else 1
theorem vcode_big {r : Bool} {nm val : ByteArray} (h : 8000 < nm.size ∨ 8000 < val.size) : vcode r nm val = 2 := by unfold vcode; rw [if_pos h]
theorem vcode_small {r : Bool} {nm val : ByteArray} (h1 : ¬ 8000 < nm.size) (h2 : ¬ 8000 < val.size) : vcode r nm val = if (r && nmL nm && valB val) = true then 0 else 1 := by unfold vcode; rw [if_neg (by omega)]
set_option maxRecDepth 100000 in
set_option maxHeartbeats 1000000 in
theorem valueCode_any (ao bo : Option Addr) (d : RdnL) (l : List AttrV) (ca cb : Nat) (nm val : ByteArray) (w : World) (hd : DnAt w ao d) (hl : AttrsAt w bo l) (hfd : Fits d) (hfl : FitsA l) (hn : nm.size ≤ maxLen) (hv : val.size ≤ maxLen) :
    Calls Tryz.prog 47 #[.agg #[.slice ao d.length ca, .slice bo l.length cb], .string nm, .string val] w fun e w' => e = .returned (.int .i64 (vcode (rightB d l) nm val)) ∧ Below w.heap.size w w' := by
  have HD := Lib.hid hd; have HL := Lib.hid hl; have FD := Lib.hid hfd; have FL := Lib.hid hfl; have Hn := Lib.hid hn; have Hv := Lib.hid hv; clear hd hl hfd hfl
  unfold maxLen at hn hv
  have B0 := Lib.hid (more (Below.refl w.heap.size w) (.cells #[.slice ao d.length ca, .slice bo l.length cb] 26))
  by_cases h1 : 8000 < nm.size
  · have HE := Lib.hid (vcode_big (r := rightB d l) (val := val) (.inl h1))
    have g : 8000 < (nm.size : Int) := by omega
    go_enter Tryz.func47, Tryz.ntmps47
    go_wp2
    go_ret
    exact ⟨ret_int' HE.out.symm, B0.out⟩
  by_cases h2 : 8000 < val.size
  · have HE := Lib.hid (vcode_big (r := rightB d l) (nm := nm) (.inr h2))
    have g : ¬ 8000 < (nm.size : Int) := by omega
    have g' : 8000 < (val.size : Int) := by omega
    go_enter Tryz.func47, Tryz.ntmps47
    go_wp2
    go_ret
    exact ⟨ret_int' HE.out.symm, B0.out⟩
  have HE := Lib.hid (vcode_small (r := rightB d l) h1 h2)
  have g : ¬ 8000 < (nm.size : Int) := by omega
  have g' : ¬ 8000 < (val.size : Int) := by omega
  clear h1 h2
  go_enter Tryz.func47, Tryz.ntmps47
  go_wp2_with fail
  refine calls_any' (fun W => Below w.heap.size w W) B0.out ?_
  rintro W hbW
  refine (EntryRight_any ao bo d l ca cb W (HD.out.below hbW) (HL.out.below hbW) FD.out FL.out).mono ?_
  rintro e w1 ⟨rfl, hb1⟩
  have B1 := Lib.hid (hbW.trans (hb1.mono hbW.size))
  clear hbW hb1 B0
  cases hr : rightB d l
  · go_wp2
    go_ret
    exact ⟨ret_int' (by rw [HE.out, hr]; rfl), B1.out⟩
  · go_wp2_with fail
    refine (NameRight_any nm w1 Hn.out).mono ?_
    rintro e w2 ⟨rfl, rfl⟩
    cases hm : nmL nm
    · go_wp2
      go_ret
      exact ⟨ret_int' (by rw [HE.out, hr, hm]; rfl), B1.out⟩
    · go_wp2_with fail
      refine (isProperValue_any val w1 Hv.out).mono ?_
      rintro e w3 ⟨rfl, hb3⟩
      have B3 := Lib.hid (B1.out.trans (hb3.mono B1.out.size))
      clear hb3
      cases hq : valB val
      · go_wp2
        go_ret
        exact ⟨ret_int' (by rw [HE.out, hr, hm, hq]; rfl), B3.out⟩
      · go_wp2
        go_ret
        exact ⟨ret_int' (by rw [HE.out, hr, hm, hq]; rfl), B3.out⟩
noncomputable def lackB (d : RdnL) (l : List AttrV) (nm : ByteArray) : Bool := decide (l.length = 8) && decide ((attrOfL d l nm).length = 0)
set_option maxRecDepth 100000 in
set_option maxHeartbeats 1000000 in
theorem lacksRoom_any (ao bo : Option Addr) (d : RdnL) (l : List AttrV) (ca cb : Nat) (nm : ByteArray) (w : World) (hd : DnAt w ao d) (hl : AttrsAt w bo l) (hfd : Fits d) (hfl : FitsA l) (hn : nm.size ≤ maxLen) :
    Calls Tryz.prog 49 #[.agg #[.slice ao d.length ca, .slice bo l.length cb], .string nm] w fun e w' => e = .returned (.bool (lackB d l nm)) ∧ Below w.heap.size w w' := by
  have HD := Lib.hid hd; have HL := Lib.hid hl; have FD := Lib.hid hfd; have FL := Lib.hid hfl; clear hd hl hfd hfl
  have B0 := Lib.hid (more (Below.refl w.heap.size w) (.cells #[.slice ao d.length ca, .slice bo l.length cb] 26))
  have HE : Hid (lackB d l nm = (decide (l.length = 8) && decide ((attrOfL d l nm).length = 0))) := Lib.hid rfl
  have hll := FL.out.1
  by_cases h8 : l.length = 8
  · have g : ((l.length : Int) == 8) = true := by rw [h8]; rfl
    have H8 := Lib.hid h8; clear h8
    go_enter Tryz.func49, Tryz.ntmps49
    go_wp2_with fail
    refine (AttrOf_any ao bo d l ca cb nm _ (HD.out.below B0.out) (HL.out.below B0.out) FD.out FL.out hn).mono ?_
    rintro e w1 ⟨⟨v1, rfl, o1⟩, b1⟩
    obtain ⟨vo, vc, rfl⟩ := own_slice o1
    have B1 := Lib.hid (B0.out.trans (b1.mono B0.out.size))
    clear o1 b1
    generalize (attrOfL d l nm).length = q at *
    by_cases hq : q = 0
    · subst hq
      go_wp2
      go_ret
      exact ⟨ret_bool (by rw [HE.out, H8.out]; rfl), B1.out⟩
    · have g' : ((q : Int) == 0) = false := by rw [beq_eq_false_iff_ne]; omega
      have Hq := Lib.hid hq
      clear hq
      go_wp2
      go_ret
      exact ⟨ret_bool (by rw [HE.out, H8.out, decide_eq_false Hq.out]; rfl), B1.out⟩
  · have g : ((l.length : Int) == 8) = false := by rw [beq_eq_false_iff_ne]; omega
    have H8 := Lib.hid h8; clear h8
    go_enter Tryz.func49, Tryz.ntmps49
    go_wp2
    go_ret
    exact ⟨ret_bool (by rw [HE.out, decide_eq_false H8.out]; rfl), B0.out⟩
end Go.Proofs.YtjajpdghamecoaaGreat
