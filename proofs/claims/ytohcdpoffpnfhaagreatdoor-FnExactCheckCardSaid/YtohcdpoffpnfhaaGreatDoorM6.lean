/- Merged texts: Ty, Br, ClBr, Sh2, JoinRF, Own7. -/
import Derived.Test.YtohcdpoffpnfhaaGreatDoorM5
import Derived.Test.YtohcdpoffpnfhaaGreatDoorM1
import Derived.Test.YtohcdpoffpnfhaaGreatDoorM3
import Derived.Laws.OwnMore
import Derived.Deep.AppendLies
import Derived.Test.YtohcdpoffpnfhaaGreatDoorM2
/- The types of the laws: their shapes. -/
namespace Go.Proofs.YtohcdpoffpnfhaaGreatDoor
open Go.RowKit

theorem str_row {S : Bs} {w : World} {l : List ByteArray} {ao : Option Addr} {n cap k : Nat} (h : SlAt strE S w l (.slice ao n cap)) (hk : k < l.length) :
    ∃ (b off : Nat) (a0 : ByteArray), ao = some ⟨b, off, none⟩ ∧ S b ∧ b < w.heap.size ∧ l[k] = a0 ∧ w.cell? ⟨b, off + k, none⟩ = some (.string a0) := by
  obtain ⟨b, off, cs, e1, e2, e3, hc, ha⟩ := h.row hk
  have ha' : cs = [.string l[k]] := ha
  subst ha'
  have h0 := hc 0 (by simp)
  refine ⟨b, off, l[k], e1, e2, e3, rfl, ?_⟩
  have : off + k * strE.n + 0 = off + k := by show off + k * 1 + 0 = off + k; omega
  rw [this] at h0
  exact h0
theorem txt_own {S : Bs} {w : World} {x : ByteArray} {cs : List Value} (h : strE.Own S w x cs) : ∃ a0 : ByteArray, x = a0 ∧ cs = [.string a0] := ⟨x, rfl, h⟩
abbrev RdnT := ByteArray × ByteArray
abbrev rdnE : Enc (ByteArray × ByteArray) := pairE strE strE
theorem rdn_row {S : Bs} {w : World} {l : List RdnT} {ao : Option Addr} {n cap k : Nat} (h : SlAt rdnE S w l (.slice ao n cap)) (hk : k < l.length) :
    ∃ (b off : Nat) (a0 : ByteArray) (a1 : ByteArray) , ao = some ⟨b, off, none⟩ ∧ S b ∧ b < w.heap.size ∧ l[k] = (a0, a1) ∧ (w.cell? ⟨b, off + k * 2, none⟩ = some (.string a0) ∧ w.cell? ⟨b, off + k * 2 + 1, none⟩ = some (.string a1)) ∧ True := by
  obtain ⟨b, off, cs, e1, e2, e3, hc, ha⟩ := h.row hk
  rcases hx : l[k] with ⟨a0, a1⟩
  rw [hx] at ha
  obtain ⟨c1, d1, rfl, f1, r1⟩ := at_pair ha
  have g2 : _ = [Value.string a0] := f1
  subst g2
  have g3 : _ = [Value.string a1] := r1
  subst g3
  exact ⟨b, off, a0, a1, e1, e2, e3, rfl, ⟨hc 0 (by simp), hc 1 (by simp)⟩, trivial⟩
theorem rdn_atq {S : Bs} {w : World} {x : RdnT} {cs : List Value} (ha : rdnE.At S w x cs) : ∃ (a0 : ByteArray) (a1 : ByteArray) , x = (a0, a1) ∧ cs = [.string a0, .string a1] ∧ True := by
  rcases x with ⟨a0, a1⟩
  obtain ⟨c4, d4, rfl, f4, r4⟩ := at_pair ha
  have g5 : _ = [Value.string a0] := f4
  subst g5
  have g6 : _ = [Value.string a1] := r4
  subst g6
  exact ⟨a0, a1, rfl, by simp, trivial⟩
theorem rdn_own {S : Bs} {w : World} {x : RdnT} {cs : List Value} (h : rdnE.Own S w x cs) :
    ∃ (a0 : ByteArray) (a1 : ByteArray)  , x = (a0, a1) ∧ cs = [.string a0, .string a1] ∧ True := by
  rcases x with ⟨a0, a1⟩
  obtain ⟨c7, d7, A7, B7, rfl, f7, r7, i7, j7, x7⟩ := own_pair h
  have g8 : _ = [Value.string a0] := f7
  subst g8
  have g9 : _ = [Value.string a1] := r7
  subst g9
  exact ⟨a0, a1, rfl, by simp, trivial⟩
theorem rdn_pack {S : Bs} {w : World} (a0 : ByteArray) (a1 : ByteArray)   (h : True) :
    rdnE.Own S w (a0, a1) [.string a0, .string a1] := by
  obtain ⟨_⟩ := h
  exact (pair_own Nil Nil (own_str a0) (own_str a1) (fun _ z => z.elim) (fun _ z => z.elim) (fun _ z y => (by first | exact z.elim | exact y.elim)))
abbrev AttrT := ByteArray × (List ByteArray)
abbrev attrE : Enc (ByteArray × (List ByteArray)) := pairE strE (slE strE)
theorem attr_row {S : Bs} {w : World} {l : List AttrT} {ao : Option Addr} {n cap k : Nat} (h : SlAt attrE S w l (.slice ao n cap)) (hk : k < l.length) :
    ∃ (b off : Nat) (a0 : ByteArray) (a1 : (List ByteArray)) (v1 : Value), ao = some ⟨b, off, none⟩ ∧ S b ∧ b < w.heap.size ∧ l[k] = (a0, a1) ∧ (w.cell? ⟨b, off + k * 2, none⟩ = some (.string a0) ∧ w.cell? ⟨b, off + k * 2 + 1, none⟩ = some (v1)) ∧ SlAt strE S w a1 v1 ∧ True := by
  obtain ⟨b, off, cs, e1, e2, e3, hc, ha⟩ := h.row hk
  rcases hx : l[k] with ⟨a0, a1⟩
  rw [hx] at ha
  obtain ⟨c10, d10, rfl, f10, r10⟩ := at_pair ha
  have g11 : _ = [Value.string a0] := f10
  subst g11
  obtain ⟨v1, rfl, q1⟩ := r10
  exact ⟨b, off, a0, a1, v1, e1, e2, e3, rfl, ⟨hc 0 (by simp), hc 1 (by simp)⟩, q1, trivial⟩
theorem attr_atq {S : Bs} {w : World} {x : AttrT} {cs : List Value} (ha : attrE.At S w x cs) : ∃ (a0 : ByteArray) (a1 : (List ByteArray)) (v1 : Value), x = (a0, a1) ∧ cs = [.string a0, v1] ∧ SlAt strE S w a1 v1 ∧ True := by
  rcases x with ⟨a0, a1⟩
  obtain ⟨c12, d12, rfl, f12, r12⟩ := at_pair ha
  have g13 : _ = [Value.string a0] := f12
  subst g13
  obtain ⟨v1, rfl, q1⟩ := r12
  exact ⟨a0, a1, v1, rfl, by simp, q1, trivial⟩
theorem attr_atp {S : Bs} {w : World} {a0 : ByteArray} {a1 : (List ByteArray)} {v1 : Value} (h : attrE.At S w (a0, a1) [.string a0, v1]) : SlAt strE S w a1 v1 := by
  have h2 := h
  obtain ⟨l, hl⟩ : ∃ l : List Value, l = [.string a0, v1] := ⟨_, rfl⟩
  rw [← hl] at h2
  obtain ⟨c14, d14, rfl, f14, r14⟩ := at_pair h2
  have g15 : _ = [Value.string a0] := f14
  subst g15
  obtain ⟨y1, rfl, q1⟩ := r14
  simp only [List.cons_append, List.nil_append, List.cons.injEq] at hl
  obtain ⟨k0, k1, _⟩ := hl
  subst k1
  exact q1
theorem attr_own {S : Bs} {w : World} {x : AttrT} {cs : List Value} (h : attrE.Own S w x cs) :
    ∃ (a0 : ByteArray) (a1 : (List ByteArray)) (v1 : Value) (S1 : Bs), x = (a0, a1) ∧ cs = [.string a0, v1] ∧ SlOwn strE S1 w a1 v1 ∧ (∀ k, S1 k → S k) ∧ True := by
  rcases x with ⟨a0, a1⟩
  obtain ⟨c16, d16, A16, B16, rfl, f16, r16, i16, j16, x16⟩ := own_pair h
  have g17 : _ = [Value.string a0] := f16
  subst g17
  obtain ⟨v1, rfl, q1⟩ := r16
  obtain ⟨S1, hS1⟩ : ∃ X : Bs, X = B16 := ⟨_, rfl⟩
  rw [← hS1] at q1
  exact ⟨a0, a1, v1, S1, rfl, by simp, q1, fun k z => (j16 k (hS1 ▸ z)), trivial⟩
theorem attr_pack {S : Bs} {w : World} (a0 : ByteArray) (a1 : (List ByteArray)) (v1 : Value) (S1 : Bs) (h : SlOwn strE S1 w a1 v1 ∧ (∀ k, S1 k → S k) ∧ True) :
    attrE.Own S w (a0, a1) [.string a0, v1] := by
  obtain ⟨q1, u1, _⟩ := h
  exact (pair_own Nil S1 (own_str a0) (own_sl q1) (fun _ z => z.elim) (u1) (fun _ z y => (by first | exact z.elim | exact y.elim)))
theorem attr_op {S : Bs} {w : World} {a0 : ByteArray} {a1 : (List ByteArray)} {v1 : Value} (h : attrE.Own S w (a0, a1) [.string a0, v1]) : ∃ (S1 : Bs), SlOwn strE S1 w a1 v1 ∧ (∀ k, S1 k → S k) ∧ True := by
  obtain ⟨b0, b1, y1, Z1, e1, e2, q⟩ := attr_own h
  simp only [Prod.mk.injEq] at e1
  simp only [List.cons.injEq] at e2
  obtain ⟨rfl, rfl⟩ := e1
  obtain ⟨_, k1, _⟩ := e2
  subst k1
  exact ⟨Z1, q⟩
theorem attr_sl {S : Bs} {w : World} {x : AttrT} {cs : List Value} (h : attrE.Own S w x cs) {a0 : ByteArray} {v1 : Value} (hc : cs = [.string a0, v1]) : (∃ p l j, v1 = .slice p l j) := by
  obtain ⟨y0, y1, z1, Z1, e1, e2, qs⟩ := attr_own h
  subst e2
  simp only [List.cons.injEq] at hc
  obtain ⟨k0, k1, _⟩ := hc
  subst k1
  exact (by obtain ⟨o, c, e⟩ := qs.1.at.sl; exact ⟨o, _, c, e⟩)
abbrev EntryT := (List RdnT) × (List AttrT)
abbrev entryE : Enc ((List RdnT) × (List AttrT)) := pairE (slE rdnE) (slE attrE)
theorem entry_row {S : Bs} {w : World} {l : List EntryT} {ao : Option Addr} {n cap k : Nat} (h : SlAt entryE S w l (.slice ao n cap)) (hk : k < l.length) :
    ∃ (b off : Nat) (a0 : (List RdnT)) (a1 : (List AttrT)) (v0 v1 : Value), ao = some ⟨b, off, none⟩ ∧ S b ∧ b < w.heap.size ∧ l[k] = (a0, a1) ∧ (w.cell? ⟨b, off + k * 2, none⟩ = some (v0) ∧ w.cell? ⟨b, off + k * 2 + 1, none⟩ = some (v1)) ∧ SlAt rdnE S w a0 v0 ∧ SlAt attrE S w a1 v1 ∧ True := by
  obtain ⟨b, off, cs, e1, e2, e3, hc, ha⟩ := h.row hk
  rcases hx : l[k] with ⟨a0, a1⟩
  rw [hx] at ha
  obtain ⟨c18, d18, rfl, f18, r18⟩ := at_pair ha
  obtain ⟨v0, rfl, q0⟩ := f18
  obtain ⟨v1, rfl, q1⟩ := r18
  exact ⟨b, off, a0, a1, v0, v1, e1, e2, e3, rfl, ⟨hc 0 (by simp), hc 1 (by simp)⟩, q0, q1, trivial⟩
theorem entry_atq {S : Bs} {w : World} {x : EntryT} {cs : List Value} (ha : entryE.At S w x cs) : ∃ (a0 : (List RdnT)) (a1 : (List AttrT)) (v0 v1 : Value), x = (a0, a1) ∧ cs = [v0, v1] ∧ SlAt rdnE S w a0 v0 ∧ SlAt attrE S w a1 v1 ∧ True := by
  rcases x with ⟨a0, a1⟩
  obtain ⟨c19, d19, rfl, f19, r19⟩ := at_pair ha
  obtain ⟨v0, rfl, q0⟩ := f19
  obtain ⟨v1, rfl, q1⟩ := r19
  exact ⟨a0, a1, v0, v1, rfl, by simp, q0, q1, trivial⟩
theorem entry_atp {S : Bs} {w : World} {a0 : (List RdnT)} {a1 : (List AttrT)} {v0 v1 : Value} (h : entryE.At S w (a0, a1) [v0, v1]) : SlAt rdnE S w a0 v0 ∧ SlAt attrE S w a1 v1 := by
  have h2 := h
  obtain ⟨l, hl⟩ : ∃ l : List Value, l = [v0, v1] := ⟨_, rfl⟩
  rw [← hl] at h2
  obtain ⟨c20, d20, rfl, f20, r20⟩ := at_pair h2
  obtain ⟨y0, rfl, q0⟩ := f20
  obtain ⟨y1, rfl, q1⟩ := r20
  simp only [List.cons_append, List.nil_append, List.cons.injEq] at hl
  obtain ⟨k0, k1, _⟩ := hl
  subst k0 k1
  exact ⟨q0, q1⟩
theorem entry_own {S : Bs} {w : World} {x : EntryT} {cs : List Value} (h : entryE.Own S w x cs) :
    ∃ (a0 : (List RdnT)) (a1 : (List AttrT)) (v0 v1 : Value) (S0 S1 : Bs), x = (a0, a1) ∧ cs = [v0, v1] ∧ SlOwn rdnE S0 w a0 v0 ∧ (∀ k, S0 k → S k) ∧ SlOwn attrE S1 w a1 v1 ∧ (∀ k, S1 k → S k) ∧ (∀ k, S0 k → ¬ S1 k) ∧ True := by
  rcases x with ⟨a0, a1⟩
  obtain ⟨c21, d21, A21, B21, rfl, f21, r21, i21, j21, x21⟩ := own_pair h
  obtain ⟨v0, rfl, q0⟩ := f21
  obtain ⟨S0, hS0⟩ : ∃ X : Bs, X = A21 := ⟨_, rfl⟩
  rw [← hS0] at q0
  obtain ⟨v1, rfl, q1⟩ := r21
  obtain ⟨S1, hS1⟩ : ∃ X : Bs, X = B21 := ⟨_, rfl⟩
  rw [← hS1] at q1
  exact ⟨a0, a1, v0, v1, S0, S1, rfl, by simp, q0, fun k z => (i21 k (hS0 ▸ z)), q1, fun k z => (j21 k (hS1 ▸ z)), fun k z1 z2 => x21 k (hS0 ▸ z1) (hS1 ▸ z2), trivial⟩
theorem entry_pack {S : Bs} {w : World} (a0 : (List RdnT)) (a1 : (List AttrT)) (v0 v1 : Value) (S0 S1 : Bs) (h : SlOwn rdnE S0 w a0 v0 ∧ (∀ k, S0 k → S k) ∧ SlOwn attrE S1 w a1 v1 ∧ (∀ k, S1 k → S k) ∧ (∀ k, S0 k → ¬ S1 k) ∧ True) :
    entryE.Own S w (a0, a1) [v0, v1] := by
  obtain ⟨q0, u0, q1, u1, d0_1, _⟩ := h
  exact (pair_own S0 S1 (own_sl q0) (own_sl q1) (u0) (u1) (fun k z y => by first | exact d0_1 k z y))
theorem entry_op {S : Bs} {w : World} {a0 : (List RdnT)} {a1 : (List AttrT)} {v0 v1 : Value} (h : entryE.Own S w (a0, a1) [v0, v1]) : ∃ (S0 S1 : Bs), SlOwn rdnE S0 w a0 v0 ∧ (∀ k, S0 k → S k) ∧ SlOwn attrE S1 w a1 v1 ∧ (∀ k, S1 k → S k) ∧ (∀ k, S0 k → ¬ S1 k) ∧ True := by
  obtain ⟨b0, b1, y0, y1, Z0, Z1, e1, e2, q⟩ := entry_own h
  simp only [Prod.mk.injEq] at e1
  simp only [List.cons.injEq] at e2
  obtain ⟨rfl, rfl⟩ := e1
  obtain ⟨k0, k1, _⟩ := e2
  subst k0 k1
  exact ⟨Z0, Z1, q⟩
theorem entry_sl {S : Bs} {w : World} {x : EntryT} {cs : List Value} (h : entryE.Own S w x cs)  {v0 v1 : Value} (hc : cs = [v0, v1]) : (∃ p l j, v0 = .slice p l j) ∧ (∃ p l j, v1 = .slice p l j) := by
  obtain ⟨y0, y1, z0, z1, Z0, Z1, e1, e2, qs⟩ := entry_own h
  subst e2
  simp only [List.cons.injEq] at hc
  obtain ⟨k0, k1, _⟩ := hc
  subst k0 k1
  exact ⟨(by obtain ⟨o, c, e⟩ := qs.1.at.sl; exact ⟨o, _, c, e⟩), (by obtain ⟨o, c, e⟩ := qs.2.2.1.at.sl; exact ⟨o, _, c, e⟩)⟩
abbrev EntryOutT := EntryT × Int
abbrev entryOutE : Enc (EntryT × Int) := pairE entryE intE
theorem entryOut_row {S : Bs} {w : World} {l : List EntryOutT} {ao : Option Addr} {n cap k : Nat} (h : SlAt entryOutE S w l (.slice ao n cap)) (hk : k < l.length) :
    ∃ (b off : Nat) (a0 : (List RdnT)) (a1 : (List AttrT)) (a2 : Int) (v0 v1 : Value), ao = some ⟨b, off, none⟩ ∧ S b ∧ b < w.heap.size ∧ l[k] = ((a0, a1), a2) ∧ (w.cell? ⟨b, off + k * 3, none⟩ = some (v0) ∧ w.cell? ⟨b, off + k * 3 + 1, none⟩ = some (v1) ∧ w.cell? ⟨b, off + k * 3 + 2, none⟩ = some (.int .i64 a2)) ∧ SlAt rdnE S w a0 v0 ∧ SlAt attrE S w a1 v1 ∧ True := by
  obtain ⟨b, off, cs, e1, e2, e3, hc, ha⟩ := h.row hk
  rcases hx : l[k] with ⟨⟨a0, a1⟩, a2⟩
  rw [hx] at ha
  obtain ⟨c22, d22, rfl, f22, r22⟩ := at_pair ha
  obtain ⟨c23, d23, rfl, f23, r23⟩ := at_pair f22
  obtain ⟨v0, rfl, q0⟩ := f23
  obtain ⟨v1, rfl, q1⟩ := r23
  have g24 : _ = [Value.int .i64 a2] := r22
  subst g24
  exact ⟨b, off, a0, a1, a2, v0, v1, e1, e2, e3, rfl, ⟨hc 0 (by simp), hc 1 (by simp), hc 2 (by simp)⟩, q0, q1, trivial⟩
theorem entryOut_atq {S : Bs} {w : World} {x : EntryOutT} {cs : List Value} (ha : entryOutE.At S w x cs) : ∃ (a0 : (List RdnT)) (a1 : (List AttrT)) (a2 : Int) (v0 v1 : Value), x = ((a0, a1), a2) ∧ cs = [v0, v1, .int .i64 a2] ∧ SlAt rdnE S w a0 v0 ∧ SlAt attrE S w a1 v1 ∧ True := by
  rcases x with ⟨⟨a0, a1⟩, a2⟩
  obtain ⟨c25, d25, rfl, f25, r25⟩ := at_pair ha
  obtain ⟨c26, d26, rfl, f26, r26⟩ := at_pair f25
  obtain ⟨v0, rfl, q0⟩ := f26
  obtain ⟨v1, rfl, q1⟩ := r26
  have g27 : _ = [Value.int .i64 a2] := r25
  subst g27
  exact ⟨a0, a1, a2, v0, v1, rfl, by simp, q0, q1, trivial⟩
theorem entryOut_atp {S : Bs} {w : World} {a0 : (List RdnT)} {a1 : (List AttrT)} {a2 : Int} {v0 v1 : Value} (h : entryOutE.At S w ((a0, a1), a2) [v0, v1, .int .i64 a2]) : SlAt rdnE S w a0 v0 ∧ SlAt attrE S w a1 v1 := by
  have h2 := h
  obtain ⟨l, hl⟩ : ∃ l : List Value, l = [v0, v1, .int .i64 a2] := ⟨_, rfl⟩
  rw [← hl] at h2
  obtain ⟨c28, d28, rfl, f28, r28⟩ := at_pair h2
  obtain ⟨c29, d29, rfl, f29, r29⟩ := at_pair f28
  obtain ⟨y0, rfl, q0⟩ := f29
  obtain ⟨y1, rfl, q1⟩ := r29
  have g30 : _ = [Value.int .i64 a2] := r28
  subst g30
  simp only [List.cons_append, List.nil_append, List.cons.injEq] at hl
  obtain ⟨k0, k1, k2, _⟩ := hl
  subst k0 k1
  exact ⟨q0, q1⟩
theorem entryOut_own {S : Bs} {w : World} {x : EntryOutT} {cs : List Value} (h : entryOutE.Own S w x cs) :
    ∃ (a0 : (List RdnT)) (a1 : (List AttrT)) (a2 : Int) (v0 v1 : Value) (S0 S1 : Bs), x = ((a0, a1), a2) ∧ cs = [v0, v1, .int .i64 a2] ∧ SlOwn rdnE S0 w a0 v0 ∧ (∀ k, S0 k → S k) ∧ SlOwn attrE S1 w a1 v1 ∧ (∀ k, S1 k → S k) ∧ (∀ k, S0 k → ¬ S1 k) ∧ True := by
  rcases x with ⟨⟨a0, a1⟩, a2⟩
  obtain ⟨c31, d31, A31, B31, rfl, f31, r31, i31, j31, x31⟩ := own_pair h
  obtain ⟨c32, d32, A32, B32, rfl, f32, r32, i32, j32, x32⟩ := own_pair f31
  obtain ⟨v0, rfl, q0⟩ := f32
  obtain ⟨S0, hS0⟩ : ∃ X : Bs, X = A32 := ⟨_, rfl⟩
  rw [← hS0] at q0
  obtain ⟨v1, rfl, q1⟩ := r32
  obtain ⟨S1, hS1⟩ : ∃ X : Bs, X = B32 := ⟨_, rfl⟩
  rw [← hS1] at q1
  have g33 : _ = [Value.int .i64 a2] := r31
  subst g33
  exact ⟨a0, a1, a2, v0, v1, S0, S1, rfl, by simp, q0, fun k z => (i31 k (i32 k (hS0 ▸ z))), q1, fun k z => (i31 k (j32 k (hS1 ▸ z))), fun k z1 z2 => x32 k (hS0 ▸ z1) (hS1 ▸ z2), trivial⟩
theorem entryOut_pack {S : Bs} {w : World} (a0 : (List RdnT)) (a1 : (List AttrT)) (a2 : Int) (v0 v1 : Value) (S0 S1 : Bs) (h : SlOwn rdnE S0 w a0 v0 ∧ (∀ k, S0 k → S k) ∧ SlOwn attrE S1 w a1 v1 ∧ (∀ k, S1 k → S k) ∧ (∀ k, S0 k → ¬ S1 k) ∧ True) :
    entryOutE.Own S w ((a0, a1), a2) [v0, v1, .int .i64 a2] := by
  obtain ⟨q0, u0, q1, u1, d0_1, _⟩ := h
  exact (pair_own (fun k => S0 k ∨ S1 k) Nil ((pair_own S0 S1 (own_sl q0) (own_sl q1) (fun k z => by simp [z]) (fun k z => by simp [z]) (fun k z y => by first | exact d0_1 k z y))) (own_int a2) (fun k z => by rcases z with z | z <;> first | exact u0 k z | exact u1 k z) (fun _ z => z.elim) (fun _ z y => (by first | exact z.elim | exact y.elim)))
theorem entryOut_op {S : Bs} {w : World} {a0 : (List RdnT)} {a1 : (List AttrT)} {a2 : Int} {v0 v1 : Value} (h : entryOutE.Own S w ((a0, a1), a2) [v0, v1, .int .i64 a2]) : ∃ (S0 S1 : Bs), SlOwn rdnE S0 w a0 v0 ∧ (∀ k, S0 k → S k) ∧ SlOwn attrE S1 w a1 v1 ∧ (∀ k, S1 k → S k) ∧ (∀ k, S0 k → ¬ S1 k) ∧ True := by
  obtain ⟨b0, b1, b2, y0, y1, Z0, Z1, e1, e2, q⟩ := entryOut_own h
  simp only [Prod.mk.injEq] at e1
  simp only [List.cons.injEq] at e2
  obtain ⟨⟨rfl, rfl⟩, rfl⟩ := e1
  obtain ⟨k0, k1, _, _⟩ := e2
  subst k0 k1
  exact ⟨Z0, Z1, q⟩
theorem entryOut_sl {S : Bs} {w : World} {x : EntryOutT} {cs : List Value} (h : entryOutE.Own S w x cs) {a2 : Int} {v0 v1 : Value} (hc : cs = [v0, v1, .int .i64 a2]) : (∃ p l j, v0 = .slice p l j) ∧ (∃ p l j, v1 = .slice p l j) := by
  obtain ⟨y0, y1, y2, z0, z1, Z0, Z1, e1, e2, qs⟩ := entryOut_own h
  subst e2
  simp only [List.cons.injEq] at hc
  obtain ⟨k0, k1, k2, _⟩ := hc
  subst k0 k1
  exact ⟨(by obtain ⟨o, c, e⟩ := qs.1.at.sl; exact ⟨o, _, c, e⟩), (by obtain ⟨o, c, e⟩ := qs.2.2.1.at.sl; exact ⟨o, _, c, e⟩)⟩
abbrev NodeT := Int × ByteArray × ByteArray × Int
abbrev nodeE2 : Enc (ByteArray × Int) := pairE strE intE
abbrev nodeE1 : Enc (ByteArray × ByteArray × Int) := pairE strE nodeE2
abbrev nodeE : Enc (Int × ByteArray × ByteArray × Int) := pairE intE nodeE1
theorem node_row {S : Bs} {w : World} {l : List NodeT} {ao : Option Addr} {n cap k : Nat} (h : SlAt nodeE S w l (.slice ao n cap)) (hk : k < l.length) :
    ∃ (b off : Nat) (a0 : Int) (a1 : ByteArray) (a2 : ByteArray) (a3 : Int) , ao = some ⟨b, off, none⟩ ∧ S b ∧ b < w.heap.size ∧ l[k] = (a0, a1, a2, a3) ∧ (w.cell? ⟨b, off + k * 4, none⟩ = some (.int .i64 a0) ∧ w.cell? ⟨b, off + k * 4 + 1, none⟩ = some (.string a1) ∧ w.cell? ⟨b, off + k * 4 + 2, none⟩ = some (.string a2) ∧ w.cell? ⟨b, off + k * 4 + 3, none⟩ = some (.int .i64 a3)) ∧ True := by
  obtain ⟨b, off, cs, e1, e2, e3, hc, ha⟩ := h.row hk
  rcases hx : l[k] with ⟨a0, a1, a2, a3⟩
  rw [hx] at ha
  obtain ⟨c34, d34, rfl, f34, r34⟩ := at_pair ha
  have g35 : _ = [Value.int .i64 a0] := f34
  subst g35
  obtain ⟨c36, d36, rfl, f36, r36⟩ := at_pair r34
  have g37 : _ = [Value.string a1] := f36
  subst g37
  obtain ⟨c38, d38, rfl, f38, r38⟩ := at_pair r36
  have g39 : _ = [Value.string a2] := f38
  subst g39
  have g40 : _ = [Value.int .i64 a3] := r38
  subst g40
  exact ⟨b, off, a0, a1, a2, a3, e1, e2, e3, rfl, ⟨hc 0 (by simp), hc 1 (by simp), hc 2 (by simp), hc 3 (by simp)⟩, trivial⟩
theorem node_atq {S : Bs} {w : World} {x : NodeT} {cs : List Value} (ha : nodeE.At S w x cs) : ∃ (a0 : Int) (a1 : ByteArray) (a2 : ByteArray) (a3 : Int) , x = (a0, a1, a2, a3) ∧ cs = [.int .i64 a0, .string a1, .string a2, .int .i64 a3] ∧ True := by
  rcases x with ⟨a0, a1, a2, a3⟩
  obtain ⟨c41, d41, rfl, f41, r41⟩ := at_pair ha
  have g42 : _ = [Value.int .i64 a0] := f41
  subst g42
  obtain ⟨c43, d43, rfl, f43, r43⟩ := at_pair r41
  have g44 : _ = [Value.string a1] := f43
  subst g44
  obtain ⟨c45, d45, rfl, f45, r45⟩ := at_pair r43
  have g46 : _ = [Value.string a2] := f45
  subst g46
  have g47 : _ = [Value.int .i64 a3] := r45
  subst g47
  exact ⟨a0, a1, a2, a3, rfl, by simp, trivial⟩
theorem node_own {S : Bs} {w : World} {x : NodeT} {cs : List Value} (h : nodeE.Own S w x cs) :
    ∃ (a0 : Int) (a1 : ByteArray) (a2 : ByteArray) (a3 : Int)  , x = (a0, a1, a2, a3) ∧ cs = [.int .i64 a0, .string a1, .string a2, .int .i64 a3] ∧ True := by
  rcases x with ⟨a0, a1, a2, a3⟩
  obtain ⟨c48, d48, A48, B48, rfl, f48, r48, i48, j48, x48⟩ := own_pair h
  have g49 : _ = [Value.int .i64 a0] := f48
  subst g49
  obtain ⟨c50, d50, A50, B50, rfl, f50, r50, i50, j50, x50⟩ := own_pair r48
  have g51 : _ = [Value.string a1] := f50
  subst g51
  obtain ⟨c52, d52, A52, B52, rfl, f52, r52, i52, j52, x52⟩ := own_pair r50
  have g53 : _ = [Value.string a2] := f52
  subst g53
  have g54 : _ = [Value.int .i64 a3] := r52
  subst g54
  exact ⟨a0, a1, a2, a3, rfl, by simp, trivial⟩
theorem node_pack {S : Bs} {w : World} (a0 : Int) (a1 : ByteArray) (a2 : ByteArray) (a3 : Int)   (h : True) :
    nodeE.Own S w (a0, a1, a2, a3) [.int .i64 a0, .string a1, .string a2, .int .i64 a3] := by
  obtain ⟨_⟩ := h
  exact (pair_own Nil Nil (own_int a0) ((pair_own Nil Nil (own_str a1) ((pair_own Nil Nil (own_str a2) (own_int a3) (fun _ z => z.elim) (fun _ z => z.elim) (fun _ z y => (by first | exact z.elim | exact y.elim)))) (fun _ z => z.elim) (fun _ z => z.elim) (fun _ z y => (by first | exact z.elim | exact y.elim)))) (fun _ z => z.elim) (fun _ z => z.elim) (fun _ z y => (by first | exact z.elim | exact y.elim)))
abbrev ClassT := ByteArray × (List ByteArray) × (List ByteArray) × (List ByteArray)
abbrev classE2 : Enc ((List ByteArray) × (List ByteArray)) := pairE (slE strE) (slE strE)
abbrev classE1 : Enc ((List ByteArray) × (List ByteArray) × (List ByteArray)) := pairE (slE strE) classE2
abbrev classE : Enc (ByteArray × (List ByteArray) × (List ByteArray) × (List ByteArray)) := pairE strE classE1
theorem class_row {S : Bs} {w : World} {l : List ClassT} {ao : Option Addr} {n cap k : Nat} (h : SlAt classE S w l (.slice ao n cap)) (hk : k < l.length) :
    ∃ (b off : Nat) (a0 : ByteArray) (a1 : (List ByteArray)) (a2 : (List ByteArray)) (a3 : (List ByteArray)) (v1 v2 v3 : Value), ao = some ⟨b, off, none⟩ ∧ S b ∧ b < w.heap.size ∧ l[k] = (a0, a1, a2, a3) ∧ (w.cell? ⟨b, off + k * 4, none⟩ = some (.string a0) ∧ w.cell? ⟨b, off + k * 4 + 1, none⟩ = some (v1) ∧ w.cell? ⟨b, off + k * 4 + 2, none⟩ = some (v2) ∧ w.cell? ⟨b, off + k * 4 + 3, none⟩ = some (v3)) ∧ SlAt strE S w a1 v1 ∧ SlAt strE S w a2 v2 ∧ SlAt strE S w a3 v3 ∧ True := by
  obtain ⟨b, off, cs, e1, e2, e3, hc, ha⟩ := h.row hk
  rcases hx : l[k] with ⟨a0, a1, a2, a3⟩
  rw [hx] at ha
  obtain ⟨c55, d55, rfl, f55, r55⟩ := at_pair ha
  have g56 : _ = [Value.string a0] := f55
  subst g56
  obtain ⟨c57, d57, rfl, f57, r57⟩ := at_pair r55
  obtain ⟨v1, rfl, q1⟩ := f57
  obtain ⟨c58, d58, rfl, f58, r58⟩ := at_pair r57
  obtain ⟨v2, rfl, q2⟩ := f58
  obtain ⟨v3, rfl, q3⟩ := r58
  exact ⟨b, off, a0, a1, a2, a3, v1, v2, v3, e1, e2, e3, rfl, ⟨hc 0 (by simp), hc 1 (by simp), hc 2 (by simp), hc 3 (by simp)⟩, q1, q2, q3, trivial⟩
theorem class_atq {S : Bs} {w : World} {x : ClassT} {cs : List Value} (ha : classE.At S w x cs) : ∃ (a0 : ByteArray) (a1 : (List ByteArray)) (a2 : (List ByteArray)) (a3 : (List ByteArray)) (v1 v2 v3 : Value), x = (a0, a1, a2, a3) ∧ cs = [.string a0, v1, v2, v3] ∧ SlAt strE S w a1 v1 ∧ SlAt strE S w a2 v2 ∧ SlAt strE S w a3 v3 ∧ True := by
  rcases x with ⟨a0, a1, a2, a3⟩
  obtain ⟨c59, d59, rfl, f59, r59⟩ := at_pair ha
  have g60 : _ = [Value.string a0] := f59
  subst g60
  obtain ⟨c61, d61, rfl, f61, r61⟩ := at_pair r59
  obtain ⟨v1, rfl, q1⟩ := f61
  obtain ⟨c62, d62, rfl, f62, r62⟩ := at_pair r61
  obtain ⟨v2, rfl, q2⟩ := f62
  obtain ⟨v3, rfl, q3⟩ := r62
  exact ⟨a0, a1, a2, a3, v1, v2, v3, rfl, by simp, q1, q2, q3, trivial⟩
theorem class_atp {S : Bs} {w : World} {a0 : ByteArray} {a1 : (List ByteArray)} {a2 : (List ByteArray)} {a3 : (List ByteArray)} {v1 v2 v3 : Value} (h : classE.At S w (a0, a1, a2, a3) [.string a0, v1, v2, v3]) : SlAt strE S w a1 v1 ∧ SlAt strE S w a2 v2 ∧ SlAt strE S w a3 v3 := by
  have h2 := h
  obtain ⟨l, hl⟩ : ∃ l : List Value, l = [.string a0, v1, v2, v3] := ⟨_, rfl⟩
  rw [← hl] at h2
  obtain ⟨c63, d63, rfl, f63, r63⟩ := at_pair h2
  have g64 : _ = [Value.string a0] := f63
  subst g64
  obtain ⟨c65, d65, rfl, f65, r65⟩ := at_pair r63
  obtain ⟨y1, rfl, q1⟩ := f65
  obtain ⟨c66, d66, rfl, f66, r66⟩ := at_pair r65
  obtain ⟨y2, rfl, q2⟩ := f66
  obtain ⟨y3, rfl, q3⟩ := r66
  simp only [List.cons_append, List.nil_append, List.cons.injEq] at hl
  obtain ⟨k0, k1, k2, k3, _⟩ := hl
  subst k1 k2 k3
  exact ⟨q1, q2, q3⟩
theorem class_own {S : Bs} {w : World} {x : ClassT} {cs : List Value} (h : classE.Own S w x cs) :
    ∃ (a0 : ByteArray) (a1 : (List ByteArray)) (a2 : (List ByteArray)) (a3 : (List ByteArray)) (v1 v2 v3 : Value) (S1 S2 S3 : Bs), x = (a0, a1, a2, a3) ∧ cs = [.string a0, v1, v2, v3] ∧ SlOwn strE S1 w a1 v1 ∧ (∀ k, S1 k → S k) ∧ SlOwn strE S2 w a2 v2 ∧ (∀ k, S2 k → S k) ∧ SlOwn strE S3 w a3 v3 ∧ (∀ k, S3 k → S k) ∧ (∀ k, S1 k → ¬ S2 k) ∧ (∀ k, S1 k → ¬ S3 k) ∧ (∀ k, S2 k → ¬ S3 k) ∧ True := by
  rcases x with ⟨a0, a1, a2, a3⟩
  obtain ⟨c67, d67, A67, B67, rfl, f67, r67, i67, j67, x67⟩ := own_pair h
  have g68 : _ = [Value.string a0] := f67
  subst g68
  obtain ⟨c69, d69, A69, B69, rfl, f69, r69, i69, j69, x69⟩ := own_pair r67
  obtain ⟨v1, rfl, q1⟩ := f69
  obtain ⟨S1, hS1⟩ : ∃ X : Bs, X = A69 := ⟨_, rfl⟩
  rw [← hS1] at q1
  obtain ⟨c70, d70, A70, B70, rfl, f70, r70, i70, j70, x70⟩ := own_pair r69
  obtain ⟨v2, rfl, q2⟩ := f70
  obtain ⟨S2, hS2⟩ : ∃ X : Bs, X = A70 := ⟨_, rfl⟩
  rw [← hS2] at q2
  obtain ⟨v3, rfl, q3⟩ := r70
  obtain ⟨S3, hS3⟩ : ∃ X : Bs, X = B70 := ⟨_, rfl⟩
  rw [← hS3] at q3
  exact ⟨a0, a1, a2, a3, v1, v2, v3, S1, S2, S3, rfl, by simp, q1, fun k z => (j67 k (i69 k (hS1 ▸ z))), q2, fun k z => (j67 k (j69 k (i70 k (hS2 ▸ z)))), q3, fun k z => (j67 k (j69 k (j70 k (hS3 ▸ z)))), fun k z1 z2 => x69 k (hS1 ▸ z1) (i70 k (hS2 ▸ z2)), fun k z1 z2 => x69 k (hS1 ▸ z1) (j70 k (hS3 ▸ z2)), fun k z1 z2 => x70 k (hS2 ▸ z1) (hS3 ▸ z2), trivial⟩
theorem class_pack {S : Bs} {w : World} (a0 : ByteArray) (a1 : (List ByteArray)) (a2 : (List ByteArray)) (a3 : (List ByteArray)) (v1 v2 v3 : Value) (S1 S2 S3 : Bs) (h : SlOwn strE S1 w a1 v1 ∧ (∀ k, S1 k → S k) ∧ SlOwn strE S2 w a2 v2 ∧ (∀ k, S2 k → S k) ∧ SlOwn strE S3 w a3 v3 ∧ (∀ k, S3 k → S k) ∧ (∀ k, S1 k → ¬ S2 k) ∧ (∀ k, S1 k → ¬ S3 k) ∧ (∀ k, S2 k → ¬ S3 k) ∧ True) :
    classE.Own S w (a0, a1, a2, a3) [.string a0, v1, v2, v3] := by
  obtain ⟨q1, u1, q2, u2, q3, u3, d1_2, d1_3, d2_3, _⟩ := h
  exact (pair_own Nil (fun k => S1 k ∨ S2 k ∨ S3 k) (own_str a0) ((pair_own S1 (fun k => S2 k ∨ S3 k) (own_sl q1) ((pair_own S2 S3 (own_sl q2) (own_sl q3) (fun k z => by simp [z]) (fun k z => by simp [z]) (fun k z y => by first | exact d2_3 k z y))) (fun k z => by simp [z]) (fun k z => by rcases z with z | z <;> simp [z]) (fun k z y => by rcases y with y | y <;> first | exact d1_2 k z y | exact d1_3 k z y))) (fun _ z => z.elim) (fun k z => by rcases z with z | z | z <;> first | exact u1 k z | exact u2 k z | exact u3 k z) (fun _ z y => (by first | exact z.elim | exact y.elim)))
theorem class_op {S : Bs} {w : World} {a0 : ByteArray} {a1 : (List ByteArray)} {a2 : (List ByteArray)} {a3 : (List ByteArray)} {v1 v2 v3 : Value} (h : classE.Own S w (a0, a1, a2, a3) [.string a0, v1, v2, v3]) : ∃ (S1 S2 S3 : Bs), SlOwn strE S1 w a1 v1 ∧ (∀ k, S1 k → S k) ∧ SlOwn strE S2 w a2 v2 ∧ (∀ k, S2 k → S k) ∧ SlOwn strE S3 w a3 v3 ∧ (∀ k, S3 k → S k) ∧ (∀ k, S1 k → ¬ S2 k) ∧ (∀ k, S1 k → ¬ S3 k) ∧ (∀ k, S2 k → ¬ S3 k) ∧ True := by
  obtain ⟨b0, b1, b2, b3, y1, y2, y3, Z1, Z2, Z3, e1, e2, q⟩ := class_own h
  simp only [Prod.mk.injEq] at e1
  simp only [List.cons.injEq] at e2
  obtain ⟨rfl, rfl, rfl, rfl⟩ := e1
  obtain ⟨_, k1, k2, k3, _⟩ := e2
  subst k1 k2 k3
  exact ⟨Z1, Z2, Z3, q⟩
theorem class_sl {S : Bs} {w : World} {x : ClassT} {cs : List Value} (h : classE.Own S w x cs) {a0 : ByteArray} {v1 v2 v3 : Value} (hc : cs = [.string a0, v1, v2, v3]) : (∃ p l j, v1 = .slice p l j) ∧ (∃ p l j, v2 = .slice p l j) ∧ (∃ p l j, v3 = .slice p l j) := by
  obtain ⟨y0, y1, y2, y3, z1, z2, z3, Z1, Z2, Z3, e1, e2, qs⟩ := class_own h
  subst e2
  simp only [List.cons.injEq] at hc
  obtain ⟨k0, k1, k2, k3, _⟩ := hc
  subst k1 k2 k3
  exact ⟨(by obtain ⟨o, c, e⟩ := qs.1.at.sl; exact ⟨o, _, c, e⟩), (by obtain ⟨o, c, e⟩ := qs.2.2.1.at.sl; exact ⟨o, _, c, e⟩), (by obtain ⟨o, c, e⟩ := qs.2.2.2.2.1.at.sl; exact ⟨o, _, c, e⟩)⟩
abbrev RuleT := ByteArray × (List RdnT) × (List ByteArray) × Int × Bool
abbrev ruleE3 : Enc (Int × Bool) := pairE intE boolE
abbrev ruleE2 : Enc ((List ByteArray) × Int × Bool) := pairE (slE strE) ruleE3
abbrev ruleE1 : Enc ((List RdnT) × (List ByteArray) × Int × Bool) := pairE (slE rdnE) ruleE2
abbrev ruleE : Enc (ByteArray × (List RdnT) × (List ByteArray) × Int × Bool) := pairE strE ruleE1
theorem rule_row {S : Bs} {w : World} {l : List RuleT} {ao : Option Addr} {n cap k : Nat} (h : SlAt ruleE S w l (.slice ao n cap)) (hk : k < l.length) :
    ∃ (b off : Nat) (a0 : ByteArray) (a1 : (List RdnT)) (a2 : (List ByteArray)) (a3 : Int) (a4 : Bool) (v1 v2 : Value), ao = some ⟨b, off, none⟩ ∧ S b ∧ b < w.heap.size ∧ l[k] = (a0, a1, a2, a3, a4) ∧ (w.cell? ⟨b, off + k * 5, none⟩ = some (.string a0) ∧ w.cell? ⟨b, off + k * 5 + 1, none⟩ = some (v1) ∧ w.cell? ⟨b, off + k * 5 + 2, none⟩ = some (v2) ∧ w.cell? ⟨b, off + k * 5 + 3, none⟩ = some (.int .i64 a3) ∧ w.cell? ⟨b, off + k * 5 + 4, none⟩ = some (.bool a4)) ∧ SlAt rdnE S w a1 v1 ∧ SlAt strE S w a2 v2 ∧ True := by
  obtain ⟨b, off, cs, e1, e2, e3, hc, ha⟩ := h.row hk
  rcases hx : l[k] with ⟨a0, a1, a2, a3, a4⟩
  rw [hx] at ha
  obtain ⟨c71, d71, rfl, f71, r71⟩ := at_pair ha
  have g72 : _ = [Value.string a0] := f71
  subst g72
  obtain ⟨c73, d73, rfl, f73, r73⟩ := at_pair r71
  obtain ⟨v1, rfl, q1⟩ := f73
  obtain ⟨c74, d74, rfl, f74, r74⟩ := at_pair r73
  obtain ⟨v2, rfl, q2⟩ := f74
  obtain ⟨c75, d75, rfl, f75, r75⟩ := at_pair r74
  have g76 : _ = [Value.int .i64 a3] := f75
  subst g76
  have g77 : _ = [Value.bool a4] := r75
  subst g77
  exact ⟨b, off, a0, a1, a2, a3, a4, v1, v2, e1, e2, e3, rfl, ⟨hc 0 (by simp), hc 1 (by simp), hc 2 (by simp), hc 3 (by simp), hc 4 (by simp)⟩, q1, q2, trivial⟩
theorem rule_atq {S : Bs} {w : World} {x : RuleT} {cs : List Value} (ha : ruleE.At S w x cs) : ∃ (a0 : ByteArray) (a1 : (List RdnT)) (a2 : (List ByteArray)) (a3 : Int) (a4 : Bool) (v1 v2 : Value), x = (a0, a1, a2, a3, a4) ∧ cs = [.string a0, v1, v2, .int .i64 a3, .bool a4] ∧ SlAt rdnE S w a1 v1 ∧ SlAt strE S w a2 v2 ∧ True := by
  rcases x with ⟨a0, a1, a2, a3, a4⟩
  obtain ⟨c78, d78, rfl, f78, r78⟩ := at_pair ha
  have g79 : _ = [Value.string a0] := f78
  subst g79
  obtain ⟨c80, d80, rfl, f80, r80⟩ := at_pair r78
  obtain ⟨v1, rfl, q1⟩ := f80
  obtain ⟨c81, d81, rfl, f81, r81⟩ := at_pair r80
  obtain ⟨v2, rfl, q2⟩ := f81
  obtain ⟨c82, d82, rfl, f82, r82⟩ := at_pair r81
  have g83 : _ = [Value.int .i64 a3] := f82
  subst g83
  have g84 : _ = [Value.bool a4] := r82
  subst g84
  exact ⟨a0, a1, a2, a3, a4, v1, v2, rfl, by simp, q1, q2, trivial⟩
theorem rule_atp {S : Bs} {w : World} {a0 : ByteArray} {a1 : (List RdnT)} {a2 : (List ByteArray)} {a3 : Int} {a4 : Bool} {v1 v2 : Value} (h : ruleE.At S w (a0, a1, a2, a3, a4) [.string a0, v1, v2, .int .i64 a3, .bool a4]) : SlAt rdnE S w a1 v1 ∧ SlAt strE S w a2 v2 := by
  have h2 := h
  obtain ⟨l, hl⟩ : ∃ l : List Value, l = [.string a0, v1, v2, .int .i64 a3, .bool a4] := ⟨_, rfl⟩
  rw [← hl] at h2
  obtain ⟨c85, d85, rfl, f85, r85⟩ := at_pair h2
  have g86 : _ = [Value.string a0] := f85
  subst g86
  obtain ⟨c87, d87, rfl, f87, r87⟩ := at_pair r85
  obtain ⟨y1, rfl, q1⟩ := f87
  obtain ⟨c88, d88, rfl, f88, r88⟩ := at_pair r87
  obtain ⟨y2, rfl, q2⟩ := f88
  obtain ⟨c89, d89, rfl, f89, r89⟩ := at_pair r88
  have g90 : _ = [Value.int .i64 a3] := f89
  subst g90
  have g91 : _ = [Value.bool a4] := r89
  subst g91
  simp only [List.cons_append, List.nil_append, List.cons.injEq] at hl
  obtain ⟨k0, k1, k2, k3, k4, _⟩ := hl
  subst k1 k2
  exact ⟨q1, q2⟩
theorem rule_own {S : Bs} {w : World} {x : RuleT} {cs : List Value} (h : ruleE.Own S w x cs) :
    ∃ (a0 : ByteArray) (a1 : (List RdnT)) (a2 : (List ByteArray)) (a3 : Int) (a4 : Bool) (v1 v2 : Value) (S1 S2 : Bs), x = (a0, a1, a2, a3, a4) ∧ cs = [.string a0, v1, v2, .int .i64 a3, .bool a4] ∧ SlOwn rdnE S1 w a1 v1 ∧ (∀ k, S1 k → S k) ∧ SlOwn strE S2 w a2 v2 ∧ (∀ k, S2 k → S k) ∧ (∀ k, S1 k → ¬ S2 k) ∧ True := by
  rcases x with ⟨a0, a1, a2, a3, a4⟩
  obtain ⟨c92, d92, A92, B92, rfl, f92, r92, i92, j92, x92⟩ := own_pair h
  have g93 : _ = [Value.string a0] := f92
  subst g93
  obtain ⟨c94, d94, A94, B94, rfl, f94, r94, i94, j94, x94⟩ := own_pair r92
  obtain ⟨v1, rfl, q1⟩ := f94
  obtain ⟨S1, hS1⟩ : ∃ X : Bs, X = A94 := ⟨_, rfl⟩
  rw [← hS1] at q1
  obtain ⟨c95, d95, A95, B95, rfl, f95, r95, i95, j95, x95⟩ := own_pair r94
  obtain ⟨v2, rfl, q2⟩ := f95
  obtain ⟨S2, hS2⟩ : ∃ X : Bs, X = A95 := ⟨_, rfl⟩
  rw [← hS2] at q2
  obtain ⟨c96, d96, A96, B96, rfl, f96, r96, i96, j96, x96⟩ := own_pair r95
  have g97 : _ = [Value.int .i64 a3] := f96
  subst g97
  have g98 : _ = [Value.bool a4] := r96
  subst g98
  exact ⟨a0, a1, a2, a3, a4, v1, v2, S1, S2, rfl, by simp, q1, fun k z => (j92 k (i94 k (hS1 ▸ z))), q2, fun k z => (j92 k (j94 k (i95 k (hS2 ▸ z)))), fun k z1 z2 => x94 k (hS1 ▸ z1) (i95 k (hS2 ▸ z2)), trivial⟩
theorem rule_pack {S : Bs} {w : World} (a0 : ByteArray) (a1 : (List RdnT)) (a2 : (List ByteArray)) (a3 : Int) (a4 : Bool) (v1 v2 : Value) (S1 S2 : Bs) (h : SlOwn rdnE S1 w a1 v1 ∧ (∀ k, S1 k → S k) ∧ SlOwn strE S2 w a2 v2 ∧ (∀ k, S2 k → S k) ∧ (∀ k, S1 k → ¬ S2 k) ∧ True) :
    ruleE.Own S w (a0, a1, a2, a3, a4) [.string a0, v1, v2, .int .i64 a3, .bool a4] := by
  obtain ⟨q1, u1, q2, u2, d1_2, _⟩ := h
  exact (pair_own Nil (fun k => S1 k ∨ S2 k) (own_str a0) ((pair_own S1 S2 (own_sl q1) ((pair_own S2 Nil (own_sl q2) ((pair_own Nil Nil (own_int a3) (own_bool a4) (fun _ z => z.elim) (fun _ z => z.elim) (fun _ z y => (by first | exact z.elim | exact y.elim)))) (fun _ z => z) (fun _ z => z.elim) (fun _ z y => (by first | exact z.elim | exact y.elim)))) (fun k z => by simp [z]) (fun k z => by simp [z]) (fun k z y => by first | exact d1_2 k z y))) (fun _ z => z.elim) (fun k z => by rcases z with z | z <;> first | exact u1 k z | exact u2 k z) (fun _ z y => (by first | exact z.elim | exact y.elim)))
theorem rule_op {S : Bs} {w : World} {a0 : ByteArray} {a1 : (List RdnT)} {a2 : (List ByteArray)} {a3 : Int} {a4 : Bool} {v1 v2 : Value} (h : ruleE.Own S w (a0, a1, a2, a3, a4) [.string a0, v1, v2, .int .i64 a3, .bool a4]) : ∃ (S1 S2 : Bs), SlOwn rdnE S1 w a1 v1 ∧ (∀ k, S1 k → S k) ∧ SlOwn strE S2 w a2 v2 ∧ (∀ k, S2 k → S k) ∧ (∀ k, S1 k → ¬ S2 k) ∧ True := by
  obtain ⟨b0, b1, b2, b3, b4, y1, y2, Z1, Z2, e1, e2, q⟩ := rule_own h
  simp only [Prod.mk.injEq] at e1
  simp only [List.cons.injEq] at e2
  obtain ⟨rfl, rfl, rfl, rfl, rfl⟩ := e1
  obtain ⟨_, k1, k2, _, _, _⟩ := e2
  subst k1 k2
  exact ⟨Z1, Z2, q⟩
theorem rule_sl {S : Bs} {w : World} {x : RuleT} {cs : List Value} (h : ruleE.Own S w x cs) {a0 : ByteArray} {a3 : Int} {a4 : Bool} {v1 v2 : Value} (hc : cs = [.string a0, v1, v2, .int .i64 a3, .bool a4]) : (∃ p l j, v1 = .slice p l j) ∧ (∃ p l j, v2 = .slice p l j) := by
  obtain ⟨y0, y1, y2, y3, y4, z1, z2, Z1, Z2, e1, e2, qs⟩ := rule_own h
  subst e2
  simp only [List.cons.injEq] at hc
  obtain ⟨k0, k1, k2, k3, k4, _⟩ := hc
  subst k1 k2
  exact ⟨(by obtain ⟨o, c, e⟩ := qs.1.at.sl; exact ⟨o, _, c, e⟩), (by obtain ⟨o, c, e⟩ := qs.2.2.1.at.sl; exact ⟨o, _, c, e⟩)⟩
abbrev ModT := Int × ByteArray × (List ByteArray)
abbrev modE1 : Enc (ByteArray × (List ByteArray)) := pairE strE (slE strE)
abbrev modE : Enc (Int × ByteArray × (List ByteArray)) := pairE intE modE1
theorem mod_row {S : Bs} {w : World} {l : List ModT} {ao : Option Addr} {n cap k : Nat} (h : SlAt modE S w l (.slice ao n cap)) (hk : k < l.length) :
    ∃ (b off : Nat) (a0 : Int) (a1 : ByteArray) (a2 : (List ByteArray)) (v2 : Value), ao = some ⟨b, off, none⟩ ∧ S b ∧ b < w.heap.size ∧ l[k] = (a0, a1, a2) ∧ (w.cell? ⟨b, off + k * 3, none⟩ = some (.int .i64 a0) ∧ w.cell? ⟨b, off + k * 3 + 1, none⟩ = some (.string a1) ∧ w.cell? ⟨b, off + k * 3 + 2, none⟩ = some (v2)) ∧ SlAt strE S w a2 v2 ∧ True := by
  obtain ⟨b, off, cs, e1, e2, e3, hc, ha⟩ := h.row hk
  rcases hx : l[k] with ⟨a0, a1, a2⟩
  rw [hx] at ha
  obtain ⟨c99, d99, rfl, f99, r99⟩ := at_pair ha
  have g100 : _ = [Value.int .i64 a0] := f99
  subst g100
  obtain ⟨c101, d101, rfl, f101, r101⟩ := at_pair r99
  have g102 : _ = [Value.string a1] := f101
  subst g102
  obtain ⟨v2, rfl, q2⟩ := r101
  exact ⟨b, off, a0, a1, a2, v2, e1, e2, e3, rfl, ⟨hc 0 (by simp), hc 1 (by simp), hc 2 (by simp)⟩, q2, trivial⟩
theorem mod_atq {S : Bs} {w : World} {x : ModT} {cs : List Value} (ha : modE.At S w x cs) : ∃ (a0 : Int) (a1 : ByteArray) (a2 : (List ByteArray)) (v2 : Value), x = (a0, a1, a2) ∧ cs = [.int .i64 a0, .string a1, v2] ∧ SlAt strE S w a2 v2 ∧ True := by
  rcases x with ⟨a0, a1, a2⟩
  obtain ⟨c103, d103, rfl, f103, r103⟩ := at_pair ha
  have g104 : _ = [Value.int .i64 a0] := f103
  subst g104
  obtain ⟨c105, d105, rfl, f105, r105⟩ := at_pair r103
  have g106 : _ = [Value.string a1] := f105
  subst g106
  obtain ⟨v2, rfl, q2⟩ := r105
  exact ⟨a0, a1, a2, v2, rfl, by simp, q2, trivial⟩
theorem mod_atp {S : Bs} {w : World} {a0 : Int} {a1 : ByteArray} {a2 : (List ByteArray)} {v2 : Value} (h : modE.At S w (a0, a1, a2) [.int .i64 a0, .string a1, v2]) : SlAt strE S w a2 v2 := by
  have h2 := h
  obtain ⟨l, hl⟩ : ∃ l : List Value, l = [.int .i64 a0, .string a1, v2] := ⟨_, rfl⟩
  rw [← hl] at h2
  obtain ⟨c107, d107, rfl, f107, r107⟩ := at_pair h2
  have g108 : _ = [Value.int .i64 a0] := f107
  subst g108
  obtain ⟨c109, d109, rfl, f109, r109⟩ := at_pair r107
  have g110 : _ = [Value.string a1] := f109
  subst g110
  obtain ⟨y2, rfl, q2⟩ := r109
  simp only [List.cons_append, List.nil_append, List.cons.injEq] at hl
  obtain ⟨k0, k1, k2, _⟩ := hl
  subst k2
  exact q2
theorem mod_own {S : Bs} {w : World} {x : ModT} {cs : List Value} (h : modE.Own S w x cs) :
    ∃ (a0 : Int) (a1 : ByteArray) (a2 : (List ByteArray)) (v2 : Value) (S2 : Bs), x = (a0, a1, a2) ∧ cs = [.int .i64 a0, .string a1, v2] ∧ SlOwn strE S2 w a2 v2 ∧ (∀ k, S2 k → S k) ∧ True := by
  rcases x with ⟨a0, a1, a2⟩
  obtain ⟨c111, d111, A111, B111, rfl, f111, r111, i111, j111, x111⟩ := own_pair h
  have g112 : _ = [Value.int .i64 a0] := f111
  subst g112
  obtain ⟨c113, d113, A113, B113, rfl, f113, r113, i113, j113, x113⟩ := own_pair r111
  have g114 : _ = [Value.string a1] := f113
  subst g114
  obtain ⟨v2, rfl, q2⟩ := r113
  obtain ⟨S2, hS2⟩ : ∃ X : Bs, X = B113 := ⟨_, rfl⟩
  rw [← hS2] at q2
  exact ⟨a0, a1, a2, v2, S2, rfl, by simp, q2, fun k z => (j111 k (j113 k (hS2 ▸ z))), trivial⟩
theorem mod_pack {S : Bs} {w : World} (a0 : Int) (a1 : ByteArray) (a2 : (List ByteArray)) (v2 : Value) (S2 : Bs) (h : SlOwn strE S2 w a2 v2 ∧ (∀ k, S2 k → S k) ∧ True) :
    modE.Own S w (a0, a1, a2) [.int .i64 a0, .string a1, v2] := by
  obtain ⟨q2, u2, _⟩ := h
  exact (pair_own Nil S2 (own_int a0) ((pair_own Nil S2 (own_str a1) (own_sl q2) (fun _ z => z.elim) (fun _ z => z) (fun _ z y => (by first | exact z.elim | exact y.elim)))) (fun _ z => z.elim) (u2) (fun _ z y => (by first | exact z.elim | exact y.elim)))
theorem mod_op {S : Bs} {w : World} {a0 : Int} {a1 : ByteArray} {a2 : (List ByteArray)} {v2 : Value} (h : modE.Own S w (a0, a1, a2) [.int .i64 a0, .string a1, v2]) : ∃ (S2 : Bs), SlOwn strE S2 w a2 v2 ∧ (∀ k, S2 k → S k) ∧ True := by
  obtain ⟨b0, b1, b2, y2, Z2, e1, e2, q⟩ := mod_own h
  simp only [Prod.mk.injEq] at e1
  simp only [List.cons.injEq] at e2
  obtain ⟨rfl, rfl, rfl⟩ := e1
  obtain ⟨_, _, k2, _⟩ := e2
  subst k2
  exact ⟨Z2, q⟩
theorem mod_sl {S : Bs} {w : World} {x : ModT} {cs : List Value} (h : modE.Own S w x cs) {a0 : Int} {a1 : ByteArray} {v2 : Value} (hc : cs = [.int .i64 a0, .string a1, v2]) : (∃ p l j, v2 = .slice p l j) := by
  obtain ⟨y0, y1, y2, z2, Z2, e1, e2, qs⟩ := mod_own h
  subst e2
  simp only [List.cons.injEq] at hc
  obtain ⟨k0, k1, k2, _⟩ := hc
  subst k2
  exact (by obtain ⟨o, c, e⟩ := qs.1.at.sl; exact ⟨o, _, c, e⟩)
abbrev TreeT := (List ClassT) × (List EntryT)
abbrev treeE : Enc ((List ClassT) × (List EntryT)) := pairE (slE classE) (slE entryE)
theorem tree_row {S : Bs} {w : World} {l : List TreeT} {ao : Option Addr} {n cap k : Nat} (h : SlAt treeE S w l (.slice ao n cap)) (hk : k < l.length) :
    ∃ (b off : Nat) (a0 : (List ClassT)) (a1 : (List EntryT)) (v0 v1 : Value), ao = some ⟨b, off, none⟩ ∧ S b ∧ b < w.heap.size ∧ l[k] = (a0, a1) ∧ (w.cell? ⟨b, off + k * 2, none⟩ = some (v0) ∧ w.cell? ⟨b, off + k * 2 + 1, none⟩ = some (v1)) ∧ SlAt classE S w a0 v0 ∧ SlAt entryE S w a1 v1 ∧ True := by
  obtain ⟨b, off, cs, e1, e2, e3, hc, ha⟩ := h.row hk
  rcases hx : l[k] with ⟨a0, a1⟩
  rw [hx] at ha
  obtain ⟨c115, d115, rfl, f115, r115⟩ := at_pair ha
  obtain ⟨v0, rfl, q0⟩ := f115
  obtain ⟨v1, rfl, q1⟩ := r115
  exact ⟨b, off, a0, a1, v0, v1, e1, e2, e3, rfl, ⟨hc 0 (by simp), hc 1 (by simp)⟩, q0, q1, trivial⟩
theorem tree_atq {S : Bs} {w : World} {x : TreeT} {cs : List Value} (ha : treeE.At S w x cs) : ∃ (a0 : (List ClassT)) (a1 : (List EntryT)) (v0 v1 : Value), x = (a0, a1) ∧ cs = [v0, v1] ∧ SlAt classE S w a0 v0 ∧ SlAt entryE S w a1 v1 ∧ True := by
  rcases x with ⟨a0, a1⟩
  obtain ⟨c116, d116, rfl, f116, r116⟩ := at_pair ha
  obtain ⟨v0, rfl, q0⟩ := f116
  obtain ⟨v1, rfl, q1⟩ := r116
  exact ⟨a0, a1, v0, v1, rfl, by simp, q0, q1, trivial⟩
theorem tree_atp {S : Bs} {w : World} {a0 : (List ClassT)} {a1 : (List EntryT)} {v0 v1 : Value} (h : treeE.At S w (a0, a1) [v0, v1]) : SlAt classE S w a0 v0 ∧ SlAt entryE S w a1 v1 := by
  have h2 := h
  obtain ⟨l, hl⟩ : ∃ l : List Value, l = [v0, v1] := ⟨_, rfl⟩
  rw [← hl] at h2
  obtain ⟨c117, d117, rfl, f117, r117⟩ := at_pair h2
  obtain ⟨y0, rfl, q0⟩ := f117
  obtain ⟨y1, rfl, q1⟩ := r117
  simp only [List.cons_append, List.nil_append, List.cons.injEq] at hl
  obtain ⟨k0, k1, _⟩ := hl
  subst k0 k1
  exact ⟨q0, q1⟩
theorem tree_own {S : Bs} {w : World} {x : TreeT} {cs : List Value} (h : treeE.Own S w x cs) :
    ∃ (a0 : (List ClassT)) (a1 : (List EntryT)) (v0 v1 : Value) (S0 S1 : Bs), x = (a0, a1) ∧ cs = [v0, v1] ∧ SlOwn classE S0 w a0 v0 ∧ (∀ k, S0 k → S k) ∧ SlOwn entryE S1 w a1 v1 ∧ (∀ k, S1 k → S k) ∧ (∀ k, S0 k → ¬ S1 k) ∧ True := by
  rcases x with ⟨a0, a1⟩
  obtain ⟨c118, d118, A118, B118, rfl, f118, r118, i118, j118, x118⟩ := own_pair h
  obtain ⟨v0, rfl, q0⟩ := f118
  obtain ⟨S0, hS0⟩ : ∃ X : Bs, X = A118 := ⟨_, rfl⟩
  rw [← hS0] at q0
  obtain ⟨v1, rfl, q1⟩ := r118
  obtain ⟨S1, hS1⟩ : ∃ X : Bs, X = B118 := ⟨_, rfl⟩
  rw [← hS1] at q1
  exact ⟨a0, a1, v0, v1, S0, S1, rfl, by simp, q0, fun k z => (i118 k (hS0 ▸ z)), q1, fun k z => (j118 k (hS1 ▸ z)), fun k z1 z2 => x118 k (hS0 ▸ z1) (hS1 ▸ z2), trivial⟩
theorem tree_pack {S : Bs} {w : World} (a0 : (List ClassT)) (a1 : (List EntryT)) (v0 v1 : Value) (S0 S1 : Bs) (h : SlOwn classE S0 w a0 v0 ∧ (∀ k, S0 k → S k) ∧ SlOwn entryE S1 w a1 v1 ∧ (∀ k, S1 k → S k) ∧ (∀ k, S0 k → ¬ S1 k) ∧ True) :
    treeE.Own S w (a0, a1) [v0, v1] := by
  obtain ⟨q0, u0, q1, u1, d0_1, _⟩ := h
  exact (pair_own S0 S1 (own_sl q0) (own_sl q1) (u0) (u1) (fun k z y => by first | exact d0_1 k z y))
theorem tree_op {S : Bs} {w : World} {a0 : (List ClassT)} {a1 : (List EntryT)} {v0 v1 : Value} (h : treeE.Own S w (a0, a1) [v0, v1]) : ∃ (S0 S1 : Bs), SlOwn classE S0 w a0 v0 ∧ (∀ k, S0 k → S k) ∧ SlOwn entryE S1 w a1 v1 ∧ (∀ k, S1 k → S k) ∧ (∀ k, S0 k → ¬ S1 k) ∧ True := by
  obtain ⟨b0, b1, y0, y1, Z0, Z1, e1, e2, q⟩ := tree_own h
  simp only [Prod.mk.injEq] at e1
  simp only [List.cons.injEq] at e2
  obtain ⟨rfl, rfl⟩ := e1
  obtain ⟨k0, k1, _⟩ := e2
  subst k0 k1
  exact ⟨Z0, Z1, q⟩
theorem tree_sl {S : Bs} {w : World} {x : TreeT} {cs : List Value} (h : treeE.Own S w x cs)  {v0 v1 : Value} (hc : cs = [v0, v1]) : (∃ p l j, v0 = .slice p l j) ∧ (∃ p l j, v1 = .slice p l j) := by
  obtain ⟨y0, y1, z0, z1, Z0, Z1, e1, e2, qs⟩ := tree_own h
  subst e2
  simp only [List.cons.injEq] at hc
  obtain ⟨k0, k1, _⟩ := hc
  subst k0 k1
  exact ⟨(by obtain ⟨o, c, e⟩ := qs.1.at.sl; exact ⟨o, _, c, e⟩), (by obtain ⟨o, c, e⟩ := qs.2.2.1.at.sl; exact ⟨o, _, c, e⟩)⟩
abbrev ChangeT := Int × Int × ByteArray × EntryT
abbrev changeE2 : Enc (ByteArray × EntryT) := pairE strE entryE
abbrev changeE1 : Enc (Int × ByteArray × EntryT) := pairE intE changeE2
abbrev changeE : Enc (Int × Int × ByteArray × EntryT) := pairE intE changeE1
theorem change_row {S : Bs} {w : World} {l : List ChangeT} {ao : Option Addr} {n cap k : Nat} (h : SlAt changeE S w l (.slice ao n cap)) (hk : k < l.length) :
    ∃ (b off : Nat) (a0 : Int) (a1 : Int) (a2 : ByteArray) (a3 : (List RdnT)) (a4 : (List AttrT)) (v3 v4 : Value), ao = some ⟨b, off, none⟩ ∧ S b ∧ b < w.heap.size ∧ l[k] = (a0, a1, a2, (a3, a4)) ∧ (w.cell? ⟨b, off + k * 5, none⟩ = some (.int .i64 a0) ∧ w.cell? ⟨b, off + k * 5 + 1, none⟩ = some (.int .i64 a1) ∧ w.cell? ⟨b, off + k * 5 + 2, none⟩ = some (.string a2) ∧ w.cell? ⟨b, off + k * 5 + 3, none⟩ = some (v3) ∧ w.cell? ⟨b, off + k * 5 + 4, none⟩ = some (v4)) ∧ SlAt rdnE S w a3 v3 ∧ SlAt attrE S w a4 v4 ∧ True := by
  obtain ⟨b, off, cs, e1, e2, e3, hc, ha⟩ := h.row hk
  rcases hx : l[k] with ⟨a0, a1, a2, ⟨a3, a4⟩⟩
  rw [hx] at ha
  obtain ⟨c119, d119, rfl, f119, r119⟩ := at_pair ha
  have g120 : _ = [Value.int .i64 a0] := f119
  subst g120
  obtain ⟨c121, d121, rfl, f121, r121⟩ := at_pair r119
  have g122 : _ = [Value.int .i64 a1] := f121
  subst g122
  obtain ⟨c123, d123, rfl, f123, r123⟩ := at_pair r121
  have g124 : _ = [Value.string a2] := f123
  subst g124
  obtain ⟨c125, d125, rfl, f125, r125⟩ := at_pair r123
  obtain ⟨v3, rfl, q3⟩ := f125
  obtain ⟨v4, rfl, q4⟩ := r125
  exact ⟨b, off, a0, a1, a2, a3, a4, v3, v4, e1, e2, e3, rfl, ⟨hc 0 (by simp), hc 1 (by simp), hc 2 (by simp), hc 3 (by simp), hc 4 (by simp)⟩, q3, q4, trivial⟩
theorem change_atq {S : Bs} {w : World} {x : ChangeT} {cs : List Value} (ha : changeE.At S w x cs) : ∃ (a0 : Int) (a1 : Int) (a2 : ByteArray) (a3 : (List RdnT)) (a4 : (List AttrT)) (v3 v4 : Value), x = (a0, a1, a2, (a3, a4)) ∧ cs = [.int .i64 a0, .int .i64 a1, .string a2, v3, v4] ∧ SlAt rdnE S w a3 v3 ∧ SlAt attrE S w a4 v4 ∧ True := by
  rcases x with ⟨a0, a1, a2, ⟨a3, a4⟩⟩
  obtain ⟨c126, d126, rfl, f126, r126⟩ := at_pair ha
  have g127 : _ = [Value.int .i64 a0] := f126
  subst g127
  obtain ⟨c128, d128, rfl, f128, r128⟩ := at_pair r126
  have g129 : _ = [Value.int .i64 a1] := f128
  subst g129
  obtain ⟨c130, d130, rfl, f130, r130⟩ := at_pair r128
  have g131 : _ = [Value.string a2] := f130
  subst g131
  obtain ⟨c132, d132, rfl, f132, r132⟩ := at_pair r130
  obtain ⟨v3, rfl, q3⟩ := f132
  obtain ⟨v4, rfl, q4⟩ := r132
  exact ⟨a0, a1, a2, a3, a4, v3, v4, rfl, by simp, q3, q4, trivial⟩
theorem change_atp {S : Bs} {w : World} {a0 : Int} {a1 : Int} {a2 : ByteArray} {a3 : (List RdnT)} {a4 : (List AttrT)} {v3 v4 : Value} (h : changeE.At S w (a0, a1, a2, (a3, a4)) [.int .i64 a0, .int .i64 a1, .string a2, v3, v4]) : SlAt rdnE S w a3 v3 ∧ SlAt attrE S w a4 v4 := by
  have h2 := h
  obtain ⟨l, hl⟩ : ∃ l : List Value, l = [.int .i64 a0, .int .i64 a1, .string a2, v3, v4] := ⟨_, rfl⟩
  rw [← hl] at h2
  obtain ⟨c133, d133, rfl, f133, r133⟩ := at_pair h2
  have g134 : _ = [Value.int .i64 a0] := f133
  subst g134
  obtain ⟨c135, d135, rfl, f135, r135⟩ := at_pair r133
  have g136 : _ = [Value.int .i64 a1] := f135
  subst g136
  obtain ⟨c137, d137, rfl, f137, r137⟩ := at_pair r135
  have g138 : _ = [Value.string a2] := f137
  subst g138
  obtain ⟨c139, d139, rfl, f139, r139⟩ := at_pair r137
  obtain ⟨y3, rfl, q3⟩ := f139
  obtain ⟨y4, rfl, q4⟩ := r139
  simp only [List.cons_append, List.nil_append, List.cons.injEq] at hl
  obtain ⟨k0, k1, k2, k3, k4, _⟩ := hl
  subst k3 k4
  exact ⟨q3, q4⟩
theorem change_own {S : Bs} {w : World} {x : ChangeT} {cs : List Value} (h : changeE.Own S w x cs) :
    ∃ (a0 : Int) (a1 : Int) (a2 : ByteArray) (a3 : (List RdnT)) (a4 : (List AttrT)) (v3 v4 : Value) (S3 S4 : Bs), x = (a0, a1, a2, (a3, a4)) ∧ cs = [.int .i64 a0, .int .i64 a1, .string a2, v3, v4] ∧ SlOwn rdnE S3 w a3 v3 ∧ (∀ k, S3 k → S k) ∧ SlOwn attrE S4 w a4 v4 ∧ (∀ k, S4 k → S k) ∧ (∀ k, S3 k → ¬ S4 k) ∧ True := by
  rcases x with ⟨a0, a1, a2, ⟨a3, a4⟩⟩
  obtain ⟨c140, d140, A140, B140, rfl, f140, r140, i140, j140, x140⟩ := own_pair h
  have g141 : _ = [Value.int .i64 a0] := f140
  subst g141
  obtain ⟨c142, d142, A142, B142, rfl, f142, r142, i142, j142, x142⟩ := own_pair r140
  have g143 : _ = [Value.int .i64 a1] := f142
  subst g143
  obtain ⟨c144, d144, A144, B144, rfl, f144, r144, i144, j144, x144⟩ := own_pair r142
  have g145 : _ = [Value.string a2] := f144
  subst g145
  obtain ⟨c146, d146, A146, B146, rfl, f146, r146, i146, j146, x146⟩ := own_pair r144
  obtain ⟨v3, rfl, q3⟩ := f146
  obtain ⟨S3, hS3⟩ : ∃ X : Bs, X = A146 := ⟨_, rfl⟩
  rw [← hS3] at q3
  obtain ⟨v4, rfl, q4⟩ := r146
  obtain ⟨S4, hS4⟩ : ∃ X : Bs, X = B146 := ⟨_, rfl⟩
  rw [← hS4] at q4
  exact ⟨a0, a1, a2, a3, a4, v3, v4, S3, S4, rfl, by simp, q3, fun k z => (j140 k (j142 k (j144 k (i146 k (hS3 ▸ z))))), q4, fun k z => (j140 k (j142 k (j144 k (j146 k (hS4 ▸ z))))), fun k z1 z2 => x146 k (hS3 ▸ z1) (hS4 ▸ z2), trivial⟩
theorem change_pack {S : Bs} {w : World} (a0 : Int) (a1 : Int) (a2 : ByteArray) (a3 : (List RdnT)) (a4 : (List AttrT)) (v3 v4 : Value) (S3 S4 : Bs) (h : SlOwn rdnE S3 w a3 v3 ∧ (∀ k, S3 k → S k) ∧ SlOwn attrE S4 w a4 v4 ∧ (∀ k, S4 k → S k) ∧ (∀ k, S3 k → ¬ S4 k) ∧ True) :
    changeE.Own S w (a0, a1, a2, (a3, a4)) [.int .i64 a0, .int .i64 a1, .string a2, v3, v4] := by
  obtain ⟨q3, u3, q4, u4, d3_4, _⟩ := h
  exact (pair_own Nil (fun k => S3 k ∨ S4 k) (own_int a0) ((pair_own Nil (fun k => S3 k ∨ S4 k) (own_int a1) ((pair_own Nil (fun k => S3 k ∨ S4 k) (own_str a2) ((pair_own S3 S4 (own_sl q3) (own_sl q4) (fun k z => by simp [z]) (fun k z => by simp [z]) (fun k z y => by first | exact d3_4 k z y))) (fun _ z => z.elim) (fun _ z => z) (fun _ z y => (by first | exact z.elim | exact y.elim)))) (fun _ z => z.elim) (fun _ z => z) (fun _ z y => (by first | exact z.elim | exact y.elim)))) (fun _ z => z.elim) (fun k z => by rcases z with z | z <;> first | exact u3 k z | exact u4 k z) (fun _ z y => (by first | exact z.elim | exact y.elim)))
theorem change_op {S : Bs} {w : World} {a0 : Int} {a1 : Int} {a2 : ByteArray} {a3 : (List RdnT)} {a4 : (List AttrT)} {v3 v4 : Value} (h : changeE.Own S w (a0, a1, a2, (a3, a4)) [.int .i64 a0, .int .i64 a1, .string a2, v3, v4]) : ∃ (S3 S4 : Bs), SlOwn rdnE S3 w a3 v3 ∧ (∀ k, S3 k → S k) ∧ SlOwn attrE S4 w a4 v4 ∧ (∀ k, S4 k → S k) ∧ (∀ k, S3 k → ¬ S4 k) ∧ True := by
  obtain ⟨b0, b1, b2, b3, b4, y3, y4, Z3, Z4, e1, e2, q⟩ := change_own h
  simp only [Prod.mk.injEq] at e1
  simp only [List.cons.injEq] at e2
  obtain ⟨rfl, rfl, rfl, ⟨rfl, rfl⟩⟩ := e1
  obtain ⟨_, _, _, k3, k4, _⟩ := e2
  subst k3 k4
  exact ⟨Z3, Z4, q⟩
theorem change_sl {S : Bs} {w : World} {x : ChangeT} {cs : List Value} (h : changeE.Own S w x cs) {a0 : Int} {a1 : Int} {a2 : ByteArray} {v3 v4 : Value} (hc : cs = [.int .i64 a0, .int .i64 a1, .string a2, v3, v4]) : (∃ p l j, v3 = .slice p l j) ∧ (∃ p l j, v4 = .slice p l j) := by
  obtain ⟨y0, y1, y2, y3, y4, z3, z4, Z3, Z4, e1, e2, qs⟩ := change_own h
  subst e2
  simp only [List.cons.injEq] at hc
  obtain ⟨k0, k1, k2, k3, k4, _⟩ := hc
  subst k3 k4
  exact ⟨(by obtain ⟨o, c, e⟩ := qs.1.at.sl; exact ⟨o, _, c, e⟩), (by obtain ⟨o, c, e⟩ := qs.2.2.1.at.sl; exact ⟨o, _, c, e⟩)⟩
abbrev ChangesT := Int × (List ChangeT)
abbrev changesE : Enc (Int × (List ChangeT)) := pairE intE (slE changeE)
theorem changes_row {S : Bs} {w : World} {l : List ChangesT} {ao : Option Addr} {n cap k : Nat} (h : SlAt changesE S w l (.slice ao n cap)) (hk : k < l.length) :
    ∃ (b off : Nat) (a0 : Int) (a1 : (List ChangeT)) (v1 : Value), ao = some ⟨b, off, none⟩ ∧ S b ∧ b < w.heap.size ∧ l[k] = (a0, a1) ∧ (w.cell? ⟨b, off + k * 2, none⟩ = some (.int .i64 a0) ∧ w.cell? ⟨b, off + k * 2 + 1, none⟩ = some (v1)) ∧ SlAt changeE S w a1 v1 ∧ True := by
  obtain ⟨b, off, cs, e1, e2, e3, hc, ha⟩ := h.row hk
  rcases hx : l[k] with ⟨a0, a1⟩
  rw [hx] at ha
  obtain ⟨c147, d147, rfl, f147, r147⟩ := at_pair ha
  have g148 : _ = [Value.int .i64 a0] := f147
  subst g148
  obtain ⟨v1, rfl, q1⟩ := r147
  exact ⟨b, off, a0, a1, v1, e1, e2, e3, rfl, ⟨hc 0 (by simp), hc 1 (by simp)⟩, q1, trivial⟩
theorem changes_atq {S : Bs} {w : World} {x : ChangesT} {cs : List Value} (ha : changesE.At S w x cs) : ∃ (a0 : Int) (a1 : (List ChangeT)) (v1 : Value), x = (a0, a1) ∧ cs = [.int .i64 a0, v1] ∧ SlAt changeE S w a1 v1 ∧ True := by
  rcases x with ⟨a0, a1⟩
  obtain ⟨c149, d149, rfl, f149, r149⟩ := at_pair ha
  have g150 : _ = [Value.int .i64 a0] := f149
  subst g150
  obtain ⟨v1, rfl, q1⟩ := r149
  exact ⟨a0, a1, v1, rfl, by simp, q1, trivial⟩
theorem changes_atp {S : Bs} {w : World} {a0 : Int} {a1 : (List ChangeT)} {v1 : Value} (h : changesE.At S w (a0, a1) [.int .i64 a0, v1]) : SlAt changeE S w a1 v1 := by
  have h2 := h
  obtain ⟨l, hl⟩ : ∃ l : List Value, l = [.int .i64 a0, v1] := ⟨_, rfl⟩
  rw [← hl] at h2
  obtain ⟨c151, d151, rfl, f151, r151⟩ := at_pair h2
  have g152 : _ = [Value.int .i64 a0] := f151
  subst g152
  obtain ⟨y1, rfl, q1⟩ := r151
  simp only [List.cons_append, List.nil_append, List.cons.injEq] at hl
  obtain ⟨k0, k1, _⟩ := hl
  subst k1
  exact q1
theorem changes_own {S : Bs} {w : World} {x : ChangesT} {cs : List Value} (h : changesE.Own S w x cs) :
    ∃ (a0 : Int) (a1 : (List ChangeT)) (v1 : Value) (S1 : Bs), x = (a0, a1) ∧ cs = [.int .i64 a0, v1] ∧ SlOwn changeE S1 w a1 v1 ∧ (∀ k, S1 k → S k) ∧ True := by
  rcases x with ⟨a0, a1⟩
  obtain ⟨c153, d153, A153, B153, rfl, f153, r153, i153, j153, x153⟩ := own_pair h
  have g154 : _ = [Value.int .i64 a0] := f153
  subst g154
  obtain ⟨v1, rfl, q1⟩ := r153
  obtain ⟨S1, hS1⟩ : ∃ X : Bs, X = B153 := ⟨_, rfl⟩
  rw [← hS1] at q1
  exact ⟨a0, a1, v1, S1, rfl, by simp, q1, fun k z => (j153 k (hS1 ▸ z)), trivial⟩
theorem changes_pack {S : Bs} {w : World} (a0 : Int) (a1 : (List ChangeT)) (v1 : Value) (S1 : Bs) (h : SlOwn changeE S1 w a1 v1 ∧ (∀ k, S1 k → S k) ∧ True) :
    changesE.Own S w (a0, a1) [.int .i64 a0, v1] := by
  obtain ⟨q1, u1, _⟩ := h
  exact (pair_own Nil S1 (own_int a0) (own_sl q1) (fun _ z => z.elim) (u1) (fun _ z y => (by first | exact z.elim | exact y.elim)))
theorem changes_op {S : Bs} {w : World} {a0 : Int} {a1 : (List ChangeT)} {v1 : Value} (h : changesE.Own S w (a0, a1) [.int .i64 a0, v1]) : ∃ (S1 : Bs), SlOwn changeE S1 w a1 v1 ∧ (∀ k, S1 k → S k) ∧ True := by
  obtain ⟨b0, b1, y1, Z1, e1, e2, q⟩ := changes_own h
  simp only [Prod.mk.injEq] at e1
  simp only [List.cons.injEq] at e2
  obtain ⟨rfl, rfl⟩ := e1
  obtain ⟨_, k1, _⟩ := e2
  subst k1
  exact ⟨Z1, q⟩
theorem changes_sl {S : Bs} {w : World} {x : ChangesT} {cs : List Value} (h : changesE.Own S w x cs) {a0 : Int} {v1 : Value} (hc : cs = [.int .i64 a0, v1]) : (∃ p l j, v1 = .slice p l j) := by
  obtain ⟨y0, y1, z1, Z1, e1, e2, qs⟩ := changes_own h
  subst e2
  simp only [List.cons.injEq] at hc
  obtain ⟨k0, k1, _⟩ := hc
  subst k1
  exact (by obtain ⟨o, c, e⟩ := qs.1.at.sl; exact ⟨o, _, c, e⟩)
abbrev ChangesOutT := ChangesT × (List ChangeT) × Int
abbrev changesOutE1 : Enc ((List ChangeT) × Int) := pairE (slE changeE) intE
abbrev changesOutE : Enc (ChangesT × (List ChangeT) × Int) := pairE changesE changesOutE1
theorem changesOut_row {S : Bs} {w : World} {l : List ChangesOutT} {ao : Option Addr} {n cap k : Nat} (h : SlAt changesOutE S w l (.slice ao n cap)) (hk : k < l.length) :
    ∃ (b off : Nat) (a0 : Int) (a1 : (List ChangeT)) (a2 : (List ChangeT)) (a3 : Int) (v1 v2 : Value), ao = some ⟨b, off, none⟩ ∧ S b ∧ b < w.heap.size ∧ l[k] = ((a0, a1), a2, a3) ∧ (w.cell? ⟨b, off + k * 4, none⟩ = some (.int .i64 a0) ∧ w.cell? ⟨b, off + k * 4 + 1, none⟩ = some (v1) ∧ w.cell? ⟨b, off + k * 4 + 2, none⟩ = some (v2) ∧ w.cell? ⟨b, off + k * 4 + 3, none⟩ = some (.int .i64 a3)) ∧ SlAt changeE S w a1 v1 ∧ SlAt changeE S w a2 v2 ∧ True := by
  obtain ⟨b, off, cs, e1, e2, e3, hc, ha⟩ := h.row hk
  rcases hx : l[k] with ⟨⟨a0, a1⟩, a2, a3⟩
  rw [hx] at ha
  obtain ⟨c155, d155, rfl, f155, r155⟩ := at_pair ha
  obtain ⟨c156, d156, rfl, f156, r156⟩ := at_pair f155
  have g157 : _ = [Value.int .i64 a0] := f156
  subst g157
  obtain ⟨v1, rfl, q1⟩ := r156
  obtain ⟨c158, d158, rfl, f158, r158⟩ := at_pair r155
  obtain ⟨v2, rfl, q2⟩ := f158
  have g159 : _ = [Value.int .i64 a3] := r158
  subst g159
  exact ⟨b, off, a0, a1, a2, a3, v1, v2, e1, e2, e3, rfl, ⟨hc 0 (by simp), hc 1 (by simp), hc 2 (by simp), hc 3 (by simp)⟩, q1, q2, trivial⟩
theorem changesOut_atq {S : Bs} {w : World} {x : ChangesOutT} {cs : List Value} (ha : changesOutE.At S w x cs) : ∃ (a0 : Int) (a1 : (List ChangeT)) (a2 : (List ChangeT)) (a3 : Int) (v1 v2 : Value), x = ((a0, a1), a2, a3) ∧ cs = [.int .i64 a0, v1, v2, .int .i64 a3] ∧ SlAt changeE S w a1 v1 ∧ SlAt changeE S w a2 v2 ∧ True := by
  rcases x with ⟨⟨a0, a1⟩, a2, a3⟩
  obtain ⟨c160, d160, rfl, f160, r160⟩ := at_pair ha
  obtain ⟨c161, d161, rfl, f161, r161⟩ := at_pair f160
  have g162 : _ = [Value.int .i64 a0] := f161
  subst g162
  obtain ⟨v1, rfl, q1⟩ := r161
  obtain ⟨c163, d163, rfl, f163, r163⟩ := at_pair r160
  obtain ⟨v2, rfl, q2⟩ := f163
  have g164 : _ = [Value.int .i64 a3] := r163
  subst g164
  exact ⟨a0, a1, a2, a3, v1, v2, rfl, by simp, q1, q2, trivial⟩
theorem changesOut_atp {S : Bs} {w : World} {a0 : Int} {a1 : (List ChangeT)} {a2 : (List ChangeT)} {a3 : Int} {v1 v2 : Value} (h : changesOutE.At S w ((a0, a1), a2, a3) [.int .i64 a0, v1, v2, .int .i64 a3]) : SlAt changeE S w a1 v1 ∧ SlAt changeE S w a2 v2 := by
  have h2 := h
  obtain ⟨l, hl⟩ : ∃ l : List Value, l = [.int .i64 a0, v1, v2, .int .i64 a3] := ⟨_, rfl⟩
  rw [← hl] at h2
  obtain ⟨c165, d165, rfl, f165, r165⟩ := at_pair h2
  obtain ⟨c166, d166, rfl, f166, r166⟩ := at_pair f165
  have g167 : _ = [Value.int .i64 a0] := f166
  subst g167
  obtain ⟨y1, rfl, q1⟩ := r166
  obtain ⟨c168, d168, rfl, f168, r168⟩ := at_pair r165
  obtain ⟨y2, rfl, q2⟩ := f168
  have g169 : _ = [Value.int .i64 a3] := r168
  subst g169
  simp only [List.cons_append, List.nil_append, List.cons.injEq] at hl
  obtain ⟨k0, k1, k2, k3, _⟩ := hl
  subst k1 k2
  exact ⟨q1, q2⟩
theorem changesOut_own {S : Bs} {w : World} {x : ChangesOutT} {cs : List Value} (h : changesOutE.Own S w x cs) :
    ∃ (a0 : Int) (a1 : (List ChangeT)) (a2 : (List ChangeT)) (a3 : Int) (v1 v2 : Value) (S1 S2 : Bs), x = ((a0, a1), a2, a3) ∧ cs = [.int .i64 a0, v1, v2, .int .i64 a3] ∧ SlOwn changeE S1 w a1 v1 ∧ (∀ k, S1 k → S k) ∧ SlOwn changeE S2 w a2 v2 ∧ (∀ k, S2 k → S k) ∧ (∀ k, S1 k → ¬ S2 k) ∧ True := by
  rcases x with ⟨⟨a0, a1⟩, a2, a3⟩
  obtain ⟨c170, d170, A170, B170, rfl, f170, r170, i170, j170, x170⟩ := own_pair h
  obtain ⟨c171, d171, A171, B171, rfl, f171, r171, i171, j171, x171⟩ := own_pair f170
  have g172 : _ = [Value.int .i64 a0] := f171
  subst g172
  obtain ⟨v1, rfl, q1⟩ := r171
  obtain ⟨S1, hS1⟩ : ∃ X : Bs, X = B171 := ⟨_, rfl⟩
  rw [← hS1] at q1
  obtain ⟨c173, d173, A173, B173, rfl, f173, r173, i173, j173, x173⟩ := own_pair r170
  obtain ⟨v2, rfl, q2⟩ := f173
  obtain ⟨S2, hS2⟩ : ∃ X : Bs, X = A173 := ⟨_, rfl⟩
  rw [← hS2] at q2
  have g174 : _ = [Value.int .i64 a3] := r173
  subst g174
  exact ⟨a0, a1, a2, a3, v1, v2, S1, S2, rfl, by simp, q1, fun k z => (i170 k (j171 k (hS1 ▸ z))), q2, fun k z => (j170 k (i173 k (hS2 ▸ z))), fun k z1 z2 => x170 k (j171 k (hS1 ▸ z1)) (i173 k (hS2 ▸ z2)), trivial⟩
theorem changesOut_pack {S : Bs} {w : World} (a0 : Int) (a1 : (List ChangeT)) (a2 : (List ChangeT)) (a3 : Int) (v1 v2 : Value) (S1 S2 : Bs) (h : SlOwn changeE S1 w a1 v1 ∧ (∀ k, S1 k → S k) ∧ SlOwn changeE S2 w a2 v2 ∧ (∀ k, S2 k → S k) ∧ (∀ k, S1 k → ¬ S2 k) ∧ True) :
    changesOutE.Own S w ((a0, a1), a2, a3) [.int .i64 a0, v1, v2, .int .i64 a3] := by
  obtain ⟨q1, u1, q2, u2, d1_2, _⟩ := h
  exact (pair_own S1 S2 ((pair_own Nil S1 (own_int a0) (own_sl q1) (fun _ z => z.elim) (fun _ z => z) (fun _ z y => (by first | exact z.elim | exact y.elim)))) ((pair_own S2 Nil (own_sl q2) (own_int a3) (fun _ z => z) (fun _ z => z.elim) (fun _ z y => (by first | exact z.elim | exact y.elim)))) (u1) (u2) (fun k z y => by first | exact d1_2 k z y))
theorem changesOut_op {S : Bs} {w : World} {a0 : Int} {a1 : (List ChangeT)} {a2 : (List ChangeT)} {a3 : Int} {v1 v2 : Value} (h : changesOutE.Own S w ((a0, a1), a2, a3) [.int .i64 a0, v1, v2, .int .i64 a3]) : ∃ (S1 S2 : Bs), SlOwn changeE S1 w a1 v1 ∧ (∀ k, S1 k → S k) ∧ SlOwn changeE S2 w a2 v2 ∧ (∀ k, S2 k → S k) ∧ (∀ k, S1 k → ¬ S2 k) ∧ True := by
  obtain ⟨b0, b1, b2, b3, y1, y2, Z1, Z2, e1, e2, q⟩ := changesOut_own h
  simp only [Prod.mk.injEq] at e1
  simp only [List.cons.injEq] at e2
  obtain ⟨⟨rfl, rfl⟩, rfl, rfl⟩ := e1
  obtain ⟨_, k1, k2, _, _⟩ := e2
  subst k1 k2
  exact ⟨Z1, Z2, q⟩
theorem changesOut_sl {S : Bs} {w : World} {x : ChangesOutT} {cs : List Value} (h : changesOutE.Own S w x cs) {a0 : Int} {a3 : Int} {v1 v2 : Value} (hc : cs = [.int .i64 a0, v1, v2, .int .i64 a3]) : (∃ p l j, v1 = .slice p l j) ∧ (∃ p l j, v2 = .slice p l j) := by
  obtain ⟨y0, y1, y2, y3, z1, z2, Z1, Z2, e1, e2, qs⟩ := changesOut_own h
  subst e2
  simp only [List.cons.injEq] at hc
  obtain ⟨k0, k1, k2, k3, _⟩ := hc
  subst k1 k2
  exact ⟨(by obtain ⟨o, c, e⟩ := qs.1.at.sl; exact ⟨o, _, c, e⟩), (by obtain ⟨o, c, e⟩ := qs.2.2.1.at.sl; exact ⟨o, _, c, e⟩)⟩
abbrev TlvT := Int × ByteArray
abbrev tlvE : Enc (Int × ByteArray) := pairE intE strE
theorem tlv_row {S : Bs} {w : World} {l : List TlvT} {ao : Option Addr} {n cap k : Nat} (h : SlAt tlvE S w l (.slice ao n cap)) (hk : k < l.length) :
    ∃ (b off : Nat) (a0 : Int) (a1 : ByteArray) , ao = some ⟨b, off, none⟩ ∧ S b ∧ b < w.heap.size ∧ l[k] = (a0, a1) ∧ (w.cell? ⟨b, off + k * 2, none⟩ = some (.int .i64 a0) ∧ w.cell? ⟨b, off + k * 2 + 1, none⟩ = some (.string a1)) ∧ True := by
  obtain ⟨b, off, cs, e1, e2, e3, hc, ha⟩ := h.row hk
  rcases hx : l[k] with ⟨a0, a1⟩
  rw [hx] at ha
  obtain ⟨c175, d175, rfl, f175, r175⟩ := at_pair ha
  have g176 : _ = [Value.int .i64 a0] := f175
  subst g176
  have g177 : _ = [Value.string a1] := r175
  subst g177
  exact ⟨b, off, a0, a1, e1, e2, e3, rfl, ⟨hc 0 (by simp), hc 1 (by simp)⟩, trivial⟩
theorem tlv_atq {S : Bs} {w : World} {x : TlvT} {cs : List Value} (ha : tlvE.At S w x cs) : ∃ (a0 : Int) (a1 : ByteArray) , x = (a0, a1) ∧ cs = [.int .i64 a0, .string a1] ∧ True := by
  rcases x with ⟨a0, a1⟩
  obtain ⟨c178, d178, rfl, f178, r178⟩ := at_pair ha
  have g179 : _ = [Value.int .i64 a0] := f178
  subst g179
  have g180 : _ = [Value.string a1] := r178
  subst g180
  exact ⟨a0, a1, rfl, by simp, trivial⟩
theorem tlv_own {S : Bs} {w : World} {x : TlvT} {cs : List Value} (h : tlvE.Own S w x cs) :
    ∃ (a0 : Int) (a1 : ByteArray)  , x = (a0, a1) ∧ cs = [.int .i64 a0, .string a1] ∧ True := by
  rcases x with ⟨a0, a1⟩
  obtain ⟨c181, d181, A181, B181, rfl, f181, r181, i181, j181, x181⟩ := own_pair h
  have g182 : _ = [Value.int .i64 a0] := f181
  subst g182
  have g183 : _ = [Value.string a1] := r181
  subst g183
  exact ⟨a0, a1, rfl, by simp, trivial⟩
theorem tlv_pack {S : Bs} {w : World} (a0 : Int) (a1 : ByteArray)   (h : True) :
    tlvE.Own S w (a0, a1) [.int .i64 a0, .string a1] := by
  obtain ⟨_⟩ := h
  exact (pair_own Nil Nil (own_int a0) (own_str a1) (fun _ z => z.elim) (fun _ z => z.elim) (fun _ z y => (by first | exact z.elim | exact y.elim)))
abbrev TlvsOutT := (List TlvT) × Int
abbrev tlvsOutE : Enc ((List TlvT) × Int) := pairE (slE tlvE) intE
theorem tlvsOut_row {S : Bs} {w : World} {l : List TlvsOutT} {ao : Option Addr} {n cap k : Nat} (h : SlAt tlvsOutE S w l (.slice ao n cap)) (hk : k < l.length) :
    ∃ (b off : Nat) (a0 : (List TlvT)) (a1 : Int) (v0 : Value), ao = some ⟨b, off, none⟩ ∧ S b ∧ b < w.heap.size ∧ l[k] = (a0, a1) ∧ (w.cell? ⟨b, off + k * 2, none⟩ = some (v0) ∧ w.cell? ⟨b, off + k * 2 + 1, none⟩ = some (.int .i64 a1)) ∧ SlAt tlvE S w a0 v0 ∧ True := by
  obtain ⟨b, off, cs, e1, e2, e3, hc, ha⟩ := h.row hk
  rcases hx : l[k] with ⟨a0, a1⟩
  rw [hx] at ha
  obtain ⟨c184, d184, rfl, f184, r184⟩ := at_pair ha
  obtain ⟨v0, rfl, q0⟩ := f184
  have g185 : _ = [Value.int .i64 a1] := r184
  subst g185
  exact ⟨b, off, a0, a1, v0, e1, e2, e3, rfl, ⟨hc 0 (by simp), hc 1 (by simp)⟩, q0, trivial⟩
theorem tlvsOut_atq {S : Bs} {w : World} {x : TlvsOutT} {cs : List Value} (ha : tlvsOutE.At S w x cs) : ∃ (a0 : (List TlvT)) (a1 : Int) (v0 : Value), x = (a0, a1) ∧ cs = [v0, .int .i64 a1] ∧ SlAt tlvE S w a0 v0 ∧ True := by
  rcases x with ⟨a0, a1⟩
  obtain ⟨c186, d186, rfl, f186, r186⟩ := at_pair ha
  obtain ⟨v0, rfl, q0⟩ := f186
  have g187 : _ = [Value.int .i64 a1] := r186
  subst g187
  exact ⟨a0, a1, v0, rfl, by simp, q0, trivial⟩
theorem tlvsOut_atp {S : Bs} {w : World} {a0 : (List TlvT)} {a1 : Int} {v0 : Value} (h : tlvsOutE.At S w (a0, a1) [v0, .int .i64 a1]) : SlAt tlvE S w a0 v0 := by
  have h2 := h
  obtain ⟨l, hl⟩ : ∃ l : List Value, l = [v0, .int .i64 a1] := ⟨_, rfl⟩
  rw [← hl] at h2
  obtain ⟨c188, d188, rfl, f188, r188⟩ := at_pair h2
  obtain ⟨y0, rfl, q0⟩ := f188
  have g189 : _ = [Value.int .i64 a1] := r188
  subst g189
  simp only [List.cons_append, List.nil_append, List.cons.injEq] at hl
  obtain ⟨k0, k1, _⟩ := hl
  subst k0
  exact q0
theorem tlvsOut_own {S : Bs} {w : World} {x : TlvsOutT} {cs : List Value} (h : tlvsOutE.Own S w x cs) :
    ∃ (a0 : (List TlvT)) (a1 : Int) (v0 : Value) (S0 : Bs), x = (a0, a1) ∧ cs = [v0, .int .i64 a1] ∧ SlOwn tlvE S0 w a0 v0 ∧ (∀ k, S0 k → S k) ∧ True := by
  rcases x with ⟨a0, a1⟩
  obtain ⟨c190, d190, A190, B190, rfl, f190, r190, i190, j190, x190⟩ := own_pair h
  obtain ⟨v0, rfl, q0⟩ := f190
  obtain ⟨S0, hS0⟩ : ∃ X : Bs, X = A190 := ⟨_, rfl⟩
  rw [← hS0] at q0
  have g191 : _ = [Value.int .i64 a1] := r190
  subst g191
  exact ⟨a0, a1, v0, S0, rfl, by simp, q0, fun k z => (i190 k (hS0 ▸ z)), trivial⟩
theorem tlvsOut_pack {S : Bs} {w : World} (a0 : (List TlvT)) (a1 : Int) (v0 : Value) (S0 : Bs) (h : SlOwn tlvE S0 w a0 v0 ∧ (∀ k, S0 k → S k) ∧ True) :
    tlvsOutE.Own S w (a0, a1) [v0, .int .i64 a1] := by
  obtain ⟨q0, u0, _⟩ := h
  exact (pair_own S0 Nil (own_sl q0) (own_int a1) (u0) (fun _ z => z.elim) (fun _ z y => (by first | exact z.elim | exact y.elim)))
theorem tlvsOut_op {S : Bs} {w : World} {a0 : (List TlvT)} {a1 : Int} {v0 : Value} (h : tlvsOutE.Own S w (a0, a1) [v0, .int .i64 a1]) : ∃ (S0 : Bs), SlOwn tlvE S0 w a0 v0 ∧ (∀ k, S0 k → S k) ∧ True := by
  obtain ⟨b0, b1, y0, Z0, e1, e2, q⟩ := tlvsOut_own h
  simp only [Prod.mk.injEq] at e1
  simp only [List.cons.injEq] at e2
  obtain ⟨rfl, rfl⟩ := e1
  obtain ⟨k0, _, _⟩ := e2
  subst k0
  exact ⟨Z0, q⟩
theorem tlvsOut_sl {S : Bs} {w : World} {x : TlvsOutT} {cs : List Value} (h : tlvsOutE.Own S w x cs) {a1 : Int} {v0 : Value} (hc : cs = [v0, .int .i64 a1]) : (∃ p l j, v0 = .slice p l j) := by
  obtain ⟨y0, y1, z0, Z0, e1, e2, qs⟩ := tlvsOut_own h
  subst e2
  simp only [List.cons.injEq] at hc
  obtain ⟨k0, k1, _⟩ := hc
  subst k0
  exact (by obtain ⟨o, c, e⟩ := qs.1.at.sl; exact ⟨o, _, c, e⟩)
end Go.Proofs.YtohcdpoffpnfhaaGreatDoor
/- The shapes of the types, as the earlier texts say them. -/
namespace Go.Proofs.YtohcdpoffpnfhaaGreatDoor
open Go.RowKit

theorem strs_of {S : Bs} {w : World} {l : List ByteArray} {ao : Option Addr} {n cap : Nat} (h : SlAt strE S w l (.slice ao n cap)) : StrsAt w ao l := by
  by_cases h0 : l = []
  · exact .inl h0
  have hl : 0 < l.length := List.length_pos_iff.2 h0
  obtain ⟨b, off, a0, e, _, hb, _, _⟩ := str_row h hl
  subst e
  refine .inr ⟨b, off, rfl, hb, fun i hi => ?_⟩
  obtain ⟨b', off', a0, e, _, _, hx, hc⟩ := str_row h hi
  cases e
  rw [hx]; exact hc
theorem dn_of {S : Bs} {w : World} {l : RdnL} {ao : Option Addr} {n cap : Nat} (h : SlAt rdnE S w l (.slice ao n cap)) : DnAt w ao l := by
  by_cases h0 : l = []
  · exact .inl h0
  have hl : 0 < l.length := List.length_pos_iff.2 h0
  obtain ⟨b, off, a0, a1, e, _, hb, _, _⟩ := rdn_row h hl
  subst e
  refine .inr ⟨b, off, rfl, hb, fun i hi => ?_⟩
  obtain ⟨b', off', a0, a1, e, _, _, hx, hc, _⟩ := rdn_row h hi
  cases e
  rw [hx]; exact hc
theorem SlAt.cap {α : Type} {e : Enc α} {S : Bs} {w : World} {l : List α} {ao : Option Addr} {n cap : Nat} (h : SlAt e S w l (.slice ao n cap)) : n = l.length ∧ l.length ≤ cap ∧ (ao = none → cap = 0) := by
  obtain ⟨ao', cap', e1, h2, h3, _⟩ := h
  injection e1 with e1 e2 e3
  subst e1 e3
  exact ⟨e2, h2, h3⟩
theorem attrs_of {S : Bs} {w : World} {l : List AttrV} {ao : Option Addr} {n cap : Nat} (h : SlAt attrE S w l (.slice ao n cap)) : AttrsAt w ao l := by
  by_cases h0 : l = []
  · exact .inl h0
  have hl : 0 < l.length := List.length_pos_iff.2 h0
  obtain ⟨b, off, a0, a1, v1, e, _, hb, _, _⟩ := attr_row h hl
  subst e
  refine .inr ⟨b, off, rfl, hb, fun i hi => ?_⟩
  obtain ⟨b', off', a0, a1, v1, e, _, _, hx, hc, hs, _⟩ := attr_row h hi
  cases e
  rw [hx]
  obtain ⟨o, c, rfl⟩ := hs.sl
  obtain ⟨q1, q2, q3⟩ := hs.cap
  exact ⟨hc.1, o, c, hc.2, strs_of hs, q2, q3⟩
theorem szL_str (l : List ByteArray) : szL strE l = sizeV l := rfl
theorem fits_dn {l : RdnL} (h : l.length + szL rdnE l ≤ 1048576) : Fits l := ⟨by omega, fun r hr => by
  have h1 : rdnE.sz r ≤ szL rdnE l := szL_mem rdnE hr
  have h2 : rdnE.sz r = r.1.size + r.2.size := rfl
  omega⟩
theorem fits_str {l : List ByteArray} (h : l.length + szL strE l ≤ 1048576) : FitsV l := fitsV_of (by rw [szL_str] at h; exact h)
theorem fits_attrs {l : List AttrV} (h : l.length + szL attrE l ≤ 1048576) : FitsA l := ⟨by omega, fun r hr => by
  have h1 : attrE.sz r ≤ szL attrE l := szL_mem attrE hr
  have h2 : attrE.sz r = r.1.size + (r.2.length + szL strE r.2) := rfl
  exact ⟨by omega, fits_str (by omega)⟩⟩
end Go.Proofs.YtohcdpoffpnfhaaGreatDoor
/- Classes by their shape, as the earlier texts say them. -/
namespace Go.Proofs.YtohcdpoffpnfhaaGreatDoor
open Go.RowKit

def toCV (x : ClassT) : ClassV := ⟨x.1, x.2.1, x.2.2.1, x.2.2.2⟩
theorem slv_of {S : Bs} {w : World} {l : List ByteArray} {v : Value} (h : SlAt strE S w l v) : SlV w v l := by
  obtain ⟨o, c, rfl⟩ := h.sl
  obtain ⟨_, q2, q3⟩ := h.cap
  exact ⟨o, c, rfl, strs_of h, q2, q3⟩
theorem classes_of {S : Bs} {w : World} {l : List ClassT} {ao : Option Addr} {n cap : Nat} (h : SlAt classE S w l (.slice ao n cap)) : ClassesAt w ao (l.map toCV) := by
  by_cases h0 : l = []
  · left; subst h0; rfl
  have hl : 0 < l.length := List.length_pos_iff.2 h0
  obtain ⟨b, off, a0, a1, a2, a3, v1, v2, v3, e, _, hb, _, _⟩ := class_row h hl
  subst e
  refine .inr ⟨b, off, rfl, hb, fun i hi => ?_⟩
  have hi' : i < l.length := by simpa using hi
  obtain ⟨b', off', a0, a1, a2, a3, v1, v2, v3, e, _, _, hx, hc, s1, s2, s3, _⟩ := class_row h hi'
  cases e
  rw [List.getElem_map, hx]
  exact ⟨v1, v2, v3, hc.1, hc.2.1, hc.2.2.1, hc.2.2.2, slv_of s1, slv_of s2, slv_of s3⟩
theorem fits_classes {l : List ClassT} (h : l.length + szL classE l ≤ 1048576) : FitsC (l.map toCV) := ⟨by rw [List.length_map]; omega, fun c hc => by
  obtain ⟨x, hx, rfl⟩ := List.mem_map.1 hc
  have h1 : classE.sz x ≤ szL classE l := szL_mem classE hx
  have h2 : classE.sz x = x.1.size + ((x.2.1.length + szL strE x.2.1) + ((x.2.2.1.length + szL strE x.2.2.1) + (x.2.2.2.length + szL strE x.2.2.2))) := rfl
  exact ⟨by show x.1.size ≤ _; omega, fits_str (by show x.2.1.length + szL strE x.2.1 ≤ 1048576; omega), fits_str (by show x.2.2.1.length + szL strE x.2.2.1 ≤ 1048576; omega), fits_str (by show x.2.2.2.length + szL strE x.2.2.2 ≤ 1048576; omega)⟩⟩
end Go.Proofs.YtohcdpoffpnfhaaGreatDoor
/- Rows that a call makes by append: they come to be owned. -/
namespace Go.Proofs.YtohcdpoffpnfhaaGreatDoor
open Go.RowKit

section
variable {α : Type} {e : Enc α}
/-- rows in making, behind append: the cells of the slice, and each row's own blocks -/
structure Grow (e : Enc α) (T : TypeId) (B : Nat) (w : World) (v : Value) (l : List α) (xs : List Value) : Prop where
  row : w.ownsRow B T e.n v l.length xs
  ex : ∃ P : Nat → Bs, (∀ i, i < l.length → (∀ b, P i b → B ≤ b ∧ b < w.heap.size) ∧ ∀ g, v.ownBlock = some g → ¬ P i g) ∧ (∀ i j, i < l.length → j < l.length → i ≠ j → ∀ b, P i b → ¬ P j b) ∧
    ∀ i (h : i < l.length), ∃ cs, (∀ j (h : j < cs.length), xs[i * e.n + j]? = some cs[j]) ∧ e.Own (P i) w l[i] cs
theorem Grow.nil (e : Enc α) (T : TypeId) (B : Nat) (w : World) : Grow e T B w (.slice none 0 0) [] [] := ⟨⟨by simp, .inl ⟨rfl, rfl⟩⟩, fun _ _ => False, fun _ h => by simp at h, fun _ _ h => by simp at h, fun _ h => by simp at h⟩
theorem Grow.below {T : TypeId} {B : Nat} {w w' : World} {v : Value} {l : List α} {xs : List Value} (h : Grow e T B w v l xs) (hb : Below w.heap.size w w') : Grow e T B w' v l xs := by
  obtain ⟨hr, P, h1, h2, h3⟩ := h
  refine ⟨hr.kept (row := none) ⟨hb.os, hb.tape, hb.output, hb.size, fun k hk _ => hb.block k hk⟩ (by cases v.ownBlock <;> simp), P, fun i hi => ⟨fun b hx => ⟨((h1 i hi).1 b hx).1, Nat.lt_of_lt_of_le ((h1 i hi).1 b hx).2 hb.size⟩, (h1 i hi).2⟩, h2, fun i hi => ?_⟩
  obtain ⟨cs, q1, q2⟩ := h3 i hi
  exact ⟨cs, q1, e.ownFrame q2 (Same.of_below' hb)⟩
theorem Grow.step {T : TypeId} {B : Nat} {wr w2 w3 w' : World} {v v' : Value} {l : List α} {xs : List Value} {x : α} {cs : List Value} (h : Grow e T B wr v l xs) (hB : B ≤ wr.heap.size) (hb : Below wr.heap.size wr w2) (hx : e.Own (Fresh wr w2) w2 x cs)
    (h23 : Below w2.heap.size w2 w3) (h1 : w'.ownsRow B T e.n v' (l.length + 1) (xs ++ cs)) (h2 : w3.grownBy w' v.ownBlock) (h3 : ∀ g, v'.ownBlock = some g → v.ownBlock = some g ∨ w2.heap.size ≤ g) :
    Grow e T B w' v' (l ++ [x]) (xs ++ cs) := by
  have hr0 := h.row
  have hxl : xs.length = l.length * e.n := hr0.1
  have hn := e.ownLen hx
  have hG2 := h.below hb
  obtain ⟨_, P, p1, p2, p3⟩ := h
  obtain ⟨_, P2, _, _, _⟩ := hG2
  have hown : ∀ g, v.ownBlock = some g → g < wr.heap.size := fun g hg => (hr0.lt g hg).2
  have hs3 := h23.size
  have hs4 := h2.size
  have hsame : ∀ S : Bs, (∀ b, S b → b < w2.heap.size) → (∀ g, v.ownBlock = some g → ¬ S g) → Same S w2 w' := fun S hs hv k hk _ => by
    have e1 := h23.block k (hs k hk)
    have e2 := h2.block k (Nat.lt_of_lt_of_le (hs k hk) hs3) (fun e => hv k e.symm hk)
    exact e2.trans e1
  refine ⟨by rw [List.length_append]; exact h1, fun i => if i = l.length then Fresh wr w2 else P i, ?_, ?_, ?_⟩
  · intro i hi
    have hi' : i < l.length + 1 := by simpa using hi
    by_cases ei : i = l.length
    · subst ei
      simp only [if_true]
      refine ⟨fun b hx => ⟨by have := hx.1; omega, by have := hx.2; omega⟩, fun g hg hx => ?_⟩
      rcases h3 g hg with h | h
      · have := hown g h; have := hx.1; omega
      · have := hx.2; omega
    · simp only [if_neg ei]
      have hil : i < l.length := by omega
      have hbs := hb.size
      refine ⟨fun b hx => ⟨((p1 i hil).1 b hx).1, by have := ((p1 i hil).1 b hx).2; omega⟩, fun g hg hx => ?_⟩
      rcases h3 g hg with h | h
      · exact (p1 i hil).2 g h hx
      · have := ((p1 i hil).1 g hx).2; omega
  · intro i j hi hj hne b x1 x2
    have hi' : i < l.length + 1 := by simpa using hi
    have hj' : j < l.length + 1 := by simpa using hj
    by_cases ei : i = l.length
    · simp only [if_pos ei] at x1
      rw [if_neg (by omega)] at x2
      have := ((p1 j (by omega)).1 b x2).2
      have := x1.1
      omega
    · simp only [if_neg ei] at x1
      by_cases ej : j = l.length
      · simp only [if_pos ej] at x2
        have := ((p1 i (by omega)).1 b x1).2
        have := x2.1
        omega
      · simp only [if_neg ej] at x2
        exact p2 i j (by omega) (by omega) hne b x1 x2
  · intro i hi
    have hi' : i < l.length + 1 := by simpa using hi
    by_cases ei : i = l.length
    · subst ei
      refine ⟨cs, fun j hj => ?_, ?_⟩
      · rw [List.getElem?_append_right (by omega), hxl, Nat.add_sub_cancel_left, List.getElem?_eq_getElem hj]
      · have hxx : (l ++ [x])[l.length] = x := by rw [List.getElem_append_right (by omega)]; simp
        show e.Own (if l.length = l.length then _ else _) _ _ _
        rw [if_pos rfl, hxx]
        exact e.ownFrame hx (hsame _ (fun b h => h.2) (fun g hg hx => by have := hown g hg; have := hx.1; omega))
    · have hil : i < l.length := by omega
      obtain ⟨cs', q1, q2⟩ := p3 i hil
      have hn' := e.ownLen q2
      have hm : (i + 1) * e.n ≤ l.length * e.n := Nat.mul_le_mul_right _ (by omega)
      rw [Nat.add_mul] at hm
      refine ⟨cs', fun j hj => ?_, ?_⟩
      · rw [List.getElem?_append_left (by omega)]; exact q1 j hj
      · have hxx : (l ++ [x])[i] = l[i] := List.getElem_append_left (by omega)
        show e.Own (if i = l.length then _ else _) _ _ _
        rw [if_neg ei, hxx]
        have hbs := hb.size
        exact e.ownFrame (e.ownFrame q2 (Same.of_below' hb)) (hsame _ (fun b h => by have := ((p1 i hil).1 b h).2; omega) (p1 i hil).2)
theorem Grow.own {T : TypeId} {B : Nat} {w : World} {v : Value} {l : List α} {xs : List Value} (h : Grow e T B w v l xs) : SlOwn e (fun b => B ≤ b ∧ b < w.heap.size) w l v := by
  obtain ⟨hr, P, h1, h2, h3⟩ := h
  rcases hr.2 with ⟨rfl, h0⟩ | ⟨g, cap, cur, rfl, hB, hk, hc, _, hsz, ht⟩
  · have : l = [] := List.length_eq_zero_iff.1 h0
    subst this
    exact ⟨none, 0, rfl, Nat.le_refl _, fun _ => rfl, .inl rfl⟩
  · refine ⟨some ⟨g, 0, none⟩, cap, rfl, hc, (fun x => by cases x), .inr ⟨g, P, rfl, ⟨hB, (Array.getElem?_eq_some_iff.1 hk).1⟩, fun i hi => ⟨(h1 i hi).2 g rfl, (h1 i hi).1⟩, h2, fun i hi => ?_⟩⟩
    obtain ⟨cs, q1, q2⟩ := h3 i hi
    refine ⟨cs, ⟨cur, T, hk, fun j hj => ?_⟩, q2⟩
    have hn' := e.ownLen q2
    have hm : (i + 1) * e.n ≤ l.length * e.n := Nat.mul_le_mul_right _ (by omega)
    rw [Nat.add_mul] at hm
    have := q1 j hj
    rw [← ht, List.getElem?_take_of_lt (by omega), Array.getElem?_toList] at this
    exact this
/-- texts that a call has made -/
theorem own_texts {T : TypeId} {B : Nat} {w : World} {v : Value} {l : List ByteArray} (h : w.ownsRow B T 1 v l.length (l.map Value.string)) : SlOwn strE (fun b => B ≤ b ∧ b < w.heap.size) w l v :=
  Grow.own (T := T) (xs := l.map Value.string) ⟨h, fun _ => Nil, fun i _ => ⟨fun b x => x.elim, fun _ _ x => x⟩, fun _ _ _ _ _ _ x => x.elim, fun i hi => ⟨[.string l[i]], fun j hj => by
    have e : j = 0 := by simp at hj; exact hj
    subst e
    show (l.map Value.string)[i * 1 + 0]? = _
    rw [Nat.mul_one, Nat.add_zero, List.getElem?_map, List.getElem?_eq_getElem hi]; rfl, rfl⟩⟩
theorem own_slice3' {w : World} {B T z n : Nat} {v : Value} {xs : List Value} (h : w.ownsRow B T z v n xs) : ∃ p a c, v = .slice p a c := by
  rcases h.2 with ⟨rfl, _⟩ | ⟨g, cap, cur, rfl, _⟩
  · exact ⟨_, _, _, rfl⟩
  · exact ⟨_, _, _, rfl⟩
end
end Go.Proofs.YtohcdpoffpnfhaaGreatDoor
/- joinRdns: what the program's text returns. -/
namespace Go.Proofs.YtohcdpoffpnfhaaGreatDoor
open Go.RowKit
attribute [local go_sem ↓] Go.wp_at_zero Go.wp_at_succ

set_option maxRecDepth 100000 in
set_option maxHeartbeats 2000000 in
theorem joinRdns_any (pb po pc : Nat) (ps : List (Option Addr × Nat × RdnL)) (w : World) (hp : PartsAt w pb po ps) (hm : ps.length ≤ 10) :
    Calls Tryz.prog 128 #[.slice (some ⟨pb, po, none⟩) ps.length pc] w fun e w' => (∃ v, e = .returned v ∧ w'.ownsRow w.heap.size 108 2 v (flat ps).length (rs (flat ps))) ∧ Below w.heap.size w w' := by
  have HP := Lib.hid hp; clear hp
  go_enter Tryz.func128, Tryz.ntmps128
  go_wp2
  go_loopw [3, 9] (fun v i wr => ∃ k : Nat, k ≤ ps.length ∧ i = .int .i64 k ∧ wr.ownsRow w.heap.size 108 2 v (flat (ps.take k)).length (rs (flat (ps.take k))) ∧ Below w.heap.size w wr) (fun _ i _ => ps.length - (intOf i).toNat)
  case atStart => exact ⟨0, Nat.zero_le _, rfl, ⟨rfl, .inl ⟨rfl, rfl⟩⟩, Below.refl _ _⟩
  case round =>
    obtain ⟨k, hk, rfl, hown, hbel⟩ := hrel
    by_cases hlt : k < ps.length
    · obtain ⟨hc0, hd, hf⟩ := HP.out.2 k hlt
      have hc := (hbel.cell (p := ⟨pb, po + k, none⟩) HP.out.1).trans hc0
      have hl := hf.1
      have HF := Lib.hid (flat_succ ps k hlt)
      have hown0 : wr.ownsRow w.heap.size 108 2 u3 (flat (ps.take k) ++ ps[k].2.2.take 0).length (rs (flat (ps.take k) ++ ps[k].2.2.take 0)) := by rw [List.take_zero, List.append_nil]; exact hown
      have HO := Lib.hid hown0; have HD := Lib.hid hd; have HFi := Lib.hid hf; have HC0 := Lib.hid hc0
      clear hown hown0 hd hf hc0
      have hpl := HP.out.len hm k
      generalize flat (ps.take k) = pre at *
      generalize ps[k].1 = ao at *
      generalize ps[k].2.1 = cp at *
      generalize ps[k].2.2 = d at *
      go_wp2_with fail
      go_loopw [3, 17] (fun v i wr => ∃ j : Nat, j ≤ d.length ∧ i = .int .i64 j ∧ wr.ownsRow w.heap.size 108 2 v (pre ++ d.take j).length (rs (pre ++ d.take j)) ∧ Below w.heap.size w wr) (fun _ i _ => d.length - (intOf i).toNat)
      case atStart => exact ⟨0, Nat.zero_le _, rfl, HO.out, hbel⟩
      case round =>
        clear hc HO hbel
        obtain ⟨j, hj, rfl, hown, hbel⟩ := hrel
        have hc := (hbel.cell (p := ⟨pb, po + k, none⟩) HP.out.1).trans HC0.out
        by_cases hjlt : j < d.length
        · obtain ⟨b, off, rfl, hb0, hd1, hd2⟩ := HD.out.at hjlt
          have hc1 := (hbel.cell (p := ⟨b, off + j * 2, none⟩) hb0).trans hd1
          have hc2 := (hbel.cell (p := ⟨b, off + j * 2 + 1, none⟩) hb0).trans hd2
          have hz := HFi.out.small hjlt
          have HN : Hid (d.take (j + 1) = d.take j ++ [d[j]]) := Lib.hid (List.take_succ_eq_append_getElem hjlt)
          clear hd1 hd2
          have HR : Hid (u3.ownBlock ≠ some wr.heap.size) := Lib.hid (fun e => by have := (hown.lt _ e).2; omega)
          have HO := Lib.hid hown
          have hpl2 : Hid ((pre ++ d.take j).length ≤ 1000000000) := Lib.hid (by rw [List.length_append, List.length_take]; omega)
          have HD2 : Hid (d[j] = (d[j].1, d[j].2)) := Lib.hid rfl
          generalize d[j].1 = A at *
          generalize d[j].2 = V at *
          go_wp2_with fail
          refine wp_world (fun W => (W.cell? ⟨wr.heap.size, 0, none⟩ = some (.string A) ∧ W.cell? ⟨wr.heap.size, 1, none⟩ = some (.string V)) ∧ W.ownsRow w.heap.size 108 2 u3 (pre ++ d.take j).length (rs (pre ++ d.take j)) ∧ Below w.heap.size w W)
            ⟨⟨by simp, by simp⟩, HO.out.alloc _, more hbel _⟩ ?_
          rintro W0 ⟨hW1, hW2, hW3⟩
          have HO2 := Lib.hid hW2
          generalize wr.heap.size = R at *
          clear hown HO hW2 hc hc1 hc2 hbel
          have hW4 : Below W0.heap.size W0 W0.drew := (Below.refl _ _).drew
          obtain ⟨hz1, hz2⟩ := hz
          go_region_held3 (fun W => W.cell? ⟨R, 0, none⟩ = some (.string A) ∧ W.cell? ⟨R, 1, none⟩ = some (.string V))
            (first | go_keep | exact keep_far hg5 HR.out (by assumption) | exact keep_two hb2 (by assumption))
            (first
              | (go_at_call 169; refine (concat_at W0 _ A _ hz1 ?_ ?_ ?_).mono ?_; (focus (first | (simp; done) | (simp; omega) | (exact Nat.lt_of_lt_of_le (by first | (simp; done) | (simp; omega)) hb2.size))); (focus (first | (simp; done) | (rw [bc _ _ (by first | (simp; done) | (simp; omega))]; simp; done))); (focus (first | assumption | exact more (by assumption) _ | exact (more (Below.refl _ _) _).drew | exact (more (more (Below.refl _ _) _) _).drew)); rintro e w2 ⟨rfl, hq2, hb2⟩; obtain ⟨bc, bf⟩ := bcell hb2)
              | (go_at_call 169; refine (concat_at W0 _ V _ hz2 ?_ ?_ ?_).mono ?_; (focus (first | (simp; done) | (simp; omega) | (exact Nat.lt_of_lt_of_le (by first | (simp; done) | (simp; omega)) hb2.size))); (focus (first | (simp; done) | (rw [bc _ _ (by first | (simp; done) | (simp; omega))]; simp; done))); (focus (first | assumption | exact more (by assumption) _ | exact (more (Below.refl _ _) _).drew | exact (more (more (Below.refl _ _) _) _).drew)); rintro e w2 ⟨rfl, hq2, hb2⟩; obtain ⟨bc, bf⟩ := bcell hb2)
              | (refine step_rdn2 w.heap.size (by rfl) _ _ (by rfl) _ (pre ++ d.take j) (by rfl) (own_below HO2.out hq2) _ _ (by rfl) hpl2.out (Nat.le_trans hW3.size hq2.size) (hW3.trans (hq2.mono hW3.size)) ?_; intro g cp5 w5 hown5 hbel5 hg5)
              | (fail "none"))
          all_goals
            rw [show (pre ++ d.take j).length + 1 = pre.length + j + 1 by rw [List.length_append, List.length_take]; omega] at hown5
            have HO5 := Lib.hid hown5
            clear hown5 bc bf
            go_wp2
            go_roundw
            case rel => exact ⟨j + 1, by omega, by go_num, by rw [HN.out, HD2.out, ← List.append_assoc]; exact HO5.out, hbel5⟩
            case measure => simp [intOf]; omega
        · have e : d.take j = d := List.take_of_length_le (by omega)
          rw [e] at hown
          have HO := Lib.hid hown
          clear hown e
          go_wp2
          go_roundw
          case rel => exact ⟨k + 1, by omega, by go_num, by rw [HF.out]; exact HO.out, hbel⟩
          case measure => simp [intOf]; omega
    · have e : ps.take k = ps := List.take_of_length_le (by omega)
      rw [e] at hown
      have HO := Lib.hid hown
      clear hown e
      go_wp2
      go_ret
      exact ⟨⟨_, rfl, HO.out⟩, hbel⟩
end Go.Proofs.YtohcdpoffpnfhaaGreatDoor
/- Rows that the program makes, as owned ones; names joined. -/
namespace Go.Proofs.YtohcdpoffpnfhaaGreatDoor
open Go.RowKit

theorem own_rdns {T : TypeId} {B : Nat} {w : World} {v : Value} {l : RdnL} (h : w.ownsRow B T 2 v l.length (rs l)) : SlOwn rdnE (fun b => B ≤ b ∧ b < w.heap.size) w l v :=
  Grow.own (e := rdnE) (T := T) (xs := rs l) ⟨h, fun _ => Nil, fun i _ => ⟨fun b x => x.elim, fun _ _ x => x⟩, fun _ _ _ _ _ _ x => x.elim, fun i hi => ⟨[.string l[i].1, .string l[i].2], fun j hj => by
    obtain ⟨g0, g1⟩ := rs_get l i hi
    match j, hj with
    | 0, _ => exact g0
    | 1, _ => exact g1, rdn_pack (S := Nil) (w := w) l[i].1 l[i].2 trivial⟩⟩
theorem own_nilS {α : Type} (e : Enc α) (S : Bs) (w : World) : SlOwn e S w [] (.slice none 0 0) := ⟨none, 0, rfl, Nat.le_refl _, fun _ => rfl, .inl rfl⟩
/-- one name joined is a copy of it -/
theorem joinOne_any (o k : _) (dn : RdnL) (W : World) (T : TypeId) (hd : DnAt W o dn) (hf : Fits dn) : Calls Tryz.prog 128 #[.slice (some ⟨W.heap.size, 0, none⟩) 1 1] (W.alloc (.cells #[.slice o dn.length k] T)) fun e w' => ∃ u, e = .returned u ∧ SlOwn rdnE (Fresh W w') w' dn u ∧ Below W.heap.size W w' := by
  have := joinRdns_any W.heap.size 0 1 [(o, k, dn)] (W.alloc (.cells #[.slice o dn.length k] T)) ⟨by simp, fun i hi => by
    match i, hi with
    | 0, _ => exact ⟨by simp, hd.below (more' (Below.refl _ _) _), hf⟩⟩ (by simp)
  have e : flat [(o, k, dn)] = dn := by simp [flat]
  rw [e] at this
  exact this.mono fun e w' ⟨⟨v, he, ho⟩, hb⟩ => ⟨v, he, (own_rdns ho).wide (fun b h => ⟨by have h1 : (W.alloc (.cells #[.slice o dn.length k] T)).heap.size ≤ b := h.1; have h2 : (W.alloc (.cells #[.slice o dn.length k] T)).heap.size = W.heap.size + 1 := World.size_alloc W _; omega, h.2⟩), (more' (Below.refl _ _) _).trans (hb.mono (by simp))⟩
end Go.Proofs.YtohcdpoffpnfhaaGreatDoor
