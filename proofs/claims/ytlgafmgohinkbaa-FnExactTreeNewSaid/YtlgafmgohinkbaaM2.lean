/- Merged texts: Ty, Name, Name2, NormMath, Bytes, Norm, Norm2, Norm3, Name3, DnMath. -/
import Derived.Test.YtlgafmgohinkbaaM1
import Derived.Test.YtlgafmgohinkbaaRows
import Derived.WalkKit
import Derived.WalkSpells
import Derived.WalkLawsBesides
import Derived.Lib.Hide
import Derived.Laws.BytesArg
import Derived.Laws.OwnMore
import Derived.Deep.AppendLies
import Derived.Lib.Strings
/- The types of the laws: their shapes. -/
namespace Go.Proofs.Ytlgafmgohinkbaa
open Go.RowKit

theorem str_row {S : Bs} {w : World} {l : List ByteArray} {ao : Option Addr} {n cap k : Nat} (h : SlAt strE S w l (.slice ao n cap)) (hk : k < l.length) :
    ∃ (b off : Nat) (a0 : ByteArray), ao = some ⟨b, off, none⟩ ∧ S b ∧ b < w.heap.size ∧ l[k] = a0 ∧ w.cell? ⟨b, off + k, none⟩ = some (.string a0) := by
  obtain ⟨b, off, cs, e1, e2, e3, hc, ha⟩ := h.row hk
  have ha' : cs = [.string l[k]] := ha
  subst ha'
  have h0 := hc 0 (by simp)
  refine ⟨b, off, l[k], e1, e2, e3, rfl, ?_⟩
  have : off + k * strE.n + 0 = off + k := by show off + k * 1 + 0 = off + k; omega
  rw [this] at h0
  exact h0
theorem txt_own {S : Bs} {w : World} {x : ByteArray} {cs : List Value} (h : strE.Own S w x cs) : ∃ a0 : ByteArray, x = a0 ∧ cs = [.string a0] := ⟨x, rfl, h⟩
abbrev RdnT := ByteArray × ByteArray
abbrev rdnE : Enc (ByteArray × ByteArray) := pairE strE strE
theorem rdn_row {S : Bs} {w : World} {l : List RdnT} {ao : Option Addr} {n cap k : Nat} (h : SlAt rdnE S w l (.slice ao n cap)) (hk : k < l.length) :
    ∃ (b off : Nat) (a0 : ByteArray) (a1 : ByteArray) , ao = some ⟨b, off, none⟩ ∧ S b ∧ b < w.heap.size ∧ l[k] = (a0, a1) ∧ (w.cell? ⟨b, off + k * 2, none⟩ = some (.string a0) ∧ w.cell? ⟨b, off + k * 2 + 1, none⟩ = some (.string a1)) ∧ True := by
  obtain ⟨b, off, cs, e1, e2, e3, hc, ha⟩ := h.row hk
  rcases hx : l[k] with ⟨a0, a1⟩
  rw [hx] at ha
  obtain ⟨c1, d1, rfl, f1, r1⟩ := at_pair ha
  have g2 : _ = [Value.string a0] := f1
  subst g2
  have g3 : _ = [Value.string a1] := r1
  subst g3
  exact ⟨b, off, a0, a1, e1, e2, e3, rfl, ⟨hc 0 (by simp), hc 1 (by simp)⟩, trivial⟩
theorem rdn_atq {S : Bs} {w : World} {x : RdnT} {cs : List Value} (ha : rdnE.At S w x cs) : ∃ (a0 : ByteArray) (a1 : ByteArray) , x = (a0, a1) ∧ cs = [.string a0, .string a1] ∧ True := by
  rcases x with ⟨a0, a1⟩
  obtain ⟨c4, d4, rfl, f4, r4⟩ := at_pair ha
  have g5 : _ = [Value.string a0] := f4
  subst g5
  have g6 : _ = [Value.string a1] := r4
  subst g6
  exact ⟨a0, a1, rfl, by simp, trivial⟩
theorem rdn_own {S : Bs} {w : World} {x : RdnT} {cs : List Value} (h : rdnE.Own S w x cs) :
    ∃ (a0 : ByteArray) (a1 : ByteArray)  , x = (a0, a1) ∧ cs = [.string a0, .string a1] ∧ True := by
  rcases x with ⟨a0, a1⟩
  obtain ⟨c7, d7, A7, B7, rfl, f7, r7, i7, j7, x7⟩ := own_pair h
  have g8 : _ = [Value.string a0] := f7
  subst g8
  have g9 : _ = [Value.string a1] := r7
  subst g9
  exact ⟨a0, a1, rfl, by simp, trivial⟩
theorem rdn_pack {S : Bs} {w : World} (a0 : ByteArray) (a1 : ByteArray)   (h : True) :
    rdnE.Own S w (a0, a1) [.string a0, .string a1] := by
  obtain ⟨_⟩ := h
  exact (pair_own Nil Nil (own_str a0) (own_str a1) (fun _ z => z.elim) (fun _ z => z.elim) (fun _ z y => (by first | exact z.elim | exact y.elim)))
abbrev AttrT := ByteArray × (List ByteArray)
abbrev attrE : Enc (ByteArray × (List ByteArray)) := pairE strE (slE strE)
theorem attr_row {S : Bs} {w : World} {l : List AttrT} {ao : Option Addr} {n cap k : Nat} (h : SlAt attrE S w l (.slice ao n cap)) (hk : k < l.length) :
    ∃ (b off : Nat) (a0 : ByteArray) (a1 : (List ByteArray)) (v1 : Value), ao = some ⟨b, off, none⟩ ∧ S b ∧ b < w.heap.size ∧ l[k] = (a0, a1) ∧ (w.cell? ⟨b, off + k * 2, none⟩ = some (.string a0) ∧ w.cell? ⟨b, off + k * 2 + 1, none⟩ = some (v1)) ∧ SlAt strE S w a1 v1 ∧ True := by
  obtain ⟨b, off, cs, e1, e2, e3, hc, ha⟩ := h.row hk
  rcases hx : l[k] with ⟨a0, a1⟩
  rw [hx] at ha
  obtain ⟨c10, d10, rfl, f10, r10⟩ := at_pair ha
  have g11 : _ = [Value.string a0] := f10
  subst g11
  obtain ⟨v1, rfl, q1⟩ := r10
  exact ⟨b, off, a0, a1, v1, e1, e2, e3, rfl, ⟨hc 0 (by simp), hc 1 (by simp)⟩, q1, trivial⟩
theorem attr_atq {S : Bs} {w : World} {x : AttrT} {cs : List Value} (ha : attrE.At S w x cs) : ∃ (a0 : ByteArray) (a1 : (List ByteArray)) (v1 : Value), x = (a0, a1) ∧ cs = [.string a0, v1] ∧ SlAt strE S w a1 v1 ∧ True := by
  rcases x with ⟨a0, a1⟩
  obtain ⟨c12, d12, rfl, f12, r12⟩ := at_pair ha
  have g13 : _ = [Value.string a0] := f12
  subst g13
  obtain ⟨v1, rfl, q1⟩ := r12
  exact ⟨a0, a1, v1, rfl, by simp, q1, trivial⟩
theorem attr_atp {S : Bs} {w : World} {a0 : ByteArray} {a1 : (List ByteArray)} {v1 : Value} (h : attrE.At S w (a0, a1) [.string a0, v1]) : SlAt strE S w a1 v1 := by
  have h2 := h
  obtain ⟨l, hl⟩ : ∃ l : List Value, l = [.string a0, v1] := ⟨_, rfl⟩
  rw [← hl] at h2
  obtain ⟨c14, d14, rfl, f14, r14⟩ := at_pair h2
  have g15 : _ = [Value.string a0] := f14
  subst g15
  obtain ⟨y1, rfl, q1⟩ := r14
  simp only [List.cons_append, List.nil_append, List.cons.injEq] at hl
  obtain ⟨k0, k1, _⟩ := hl
  subst k1
  exact q1
theorem attr_own {S : Bs} {w : World} {x : AttrT} {cs : List Value} (h : attrE.Own S w x cs) :
    ∃ (a0 : ByteArray) (a1 : (List ByteArray)) (v1 : Value) (S1 : Bs), x = (a0, a1) ∧ cs = [.string a0, v1] ∧ SlOwn strE S1 w a1 v1 ∧ (∀ k, S1 k → S k) ∧ True := by
  rcases x with ⟨a0, a1⟩
  obtain ⟨c16, d16, A16, B16, rfl, f16, r16, i16, j16, x16⟩ := own_pair h
  have g17 : _ = [Value.string a0] := f16
  subst g17
  obtain ⟨v1, rfl, q1⟩ := r16
  obtain ⟨S1, hS1⟩ : ∃ X : Bs, X = B16 := ⟨_, rfl⟩
  rw [← hS1] at q1
  exact ⟨a0, a1, v1, S1, rfl, by simp, q1, fun k z => (j16 k (hS1 ▸ z)), trivial⟩
theorem attr_pack {S : Bs} {w : World} (a0 : ByteArray) (a1 : (List ByteArray)) (v1 : Value) (S1 : Bs) (h : SlOwn strE S1 w a1 v1 ∧ (∀ k, S1 k → S k) ∧ True) :
    attrE.Own S w (a0, a1) [.string a0, v1] := by
  obtain ⟨q1, u1, _⟩ := h
  exact (pair_own Nil S1 (own_str a0) (own_sl q1) (fun _ z => z.elim) (u1) (fun _ z y => (by first | exact z.elim | exact y.elim)))
theorem attr_sl {S : Bs} {w : World} {x : AttrT} {cs : List Value} (h : attrE.Own S w x cs) {a0 : ByteArray} {v1 : Value} (hc : cs = [.string a0, v1]) : (∃ p l j, v1 = .slice p l j) := by
  obtain ⟨y0, y1, z1, Z1, e1, e2, qs⟩ := attr_own h
  subst e2
  simp only [List.cons.injEq] at hc
  obtain ⟨k0, k1, _⟩ := hc
  subst k1
  exact (by obtain ⟨o, c, e⟩ := qs.1.at.sl; exact ⟨o, _, c, e⟩)
abbrev EntryT := (List RdnT) × (List AttrT)
abbrev entryE : Enc ((List RdnT) × (List AttrT)) := pairE (slE rdnE) (slE attrE)
theorem entry_row {S : Bs} {w : World} {l : List EntryT} {ao : Option Addr} {n cap k : Nat} (h : SlAt entryE S w l (.slice ao n cap)) (hk : k < l.length) :
    ∃ (b off : Nat) (a0 : (List RdnT)) (a1 : (List AttrT)) (v0 v1 : Value), ao = some ⟨b, off, none⟩ ∧ S b ∧ b < w.heap.size ∧ l[k] = (a0, a1) ∧ (w.cell? ⟨b, off + k * 2, none⟩ = some (v0) ∧ w.cell? ⟨b, off + k * 2 + 1, none⟩ = some (v1)) ∧ SlAt rdnE S w a0 v0 ∧ SlAt attrE S w a1 v1 ∧ True := by
  obtain ⟨b, off, cs, e1, e2, e3, hc, ha⟩ := h.row hk
  rcases hx : l[k] with ⟨a0, a1⟩
  rw [hx] at ha
  obtain ⟨c18, d18, rfl, f18, r18⟩ := at_pair ha
  obtain ⟨v0, rfl, q0⟩ := f18
  obtain ⟨v1, rfl, q1⟩ := r18
  exact ⟨b, off, a0, a1, v0, v1, e1, e2, e3, rfl, ⟨hc 0 (by simp), hc 1 (by simp)⟩, q0, q1, trivial⟩
theorem entry_atq {S : Bs} {w : World} {x : EntryT} {cs : List Value} (ha : entryE.At S w x cs) : ∃ (a0 : (List RdnT)) (a1 : (List AttrT)) (v0 v1 : Value), x = (a0, a1) ∧ cs = [v0, v1] ∧ SlAt rdnE S w a0 v0 ∧ SlAt attrE S w a1 v1 ∧ True := by
  rcases x with ⟨a0, a1⟩
  obtain ⟨c19, d19, rfl, f19, r19⟩ := at_pair ha
  obtain ⟨v0, rfl, q0⟩ := f19
  obtain ⟨v1, rfl, q1⟩ := r19
  exact ⟨a0, a1, v0, v1, rfl, by simp, q0, q1, trivial⟩
theorem entry_atp {S : Bs} {w : World} {a0 : (List RdnT)} {a1 : (List AttrT)} {v0 v1 : Value} (h : entryE.At S w (a0, a1) [v0, v1]) : SlAt rdnE S w a0 v0 ∧ SlAt attrE S w a1 v1 := by
  have h2 := h
  obtain ⟨l, hl⟩ : ∃ l : List Value, l = [v0, v1] := ⟨_, rfl⟩
  rw [← hl] at h2
  obtain ⟨c20, d20, rfl, f20, r20⟩ := at_pair h2
  obtain ⟨y0, rfl, q0⟩ := f20
  obtain ⟨y1, rfl, q1⟩ := r20
  simp only [List.cons_append, List.nil_append, List.cons.injEq] at hl
  obtain ⟨k0, k1, _⟩ := hl
  subst k0 k1
  exact ⟨q0, q1⟩
theorem entry_own {S : Bs} {w : World} {x : EntryT} {cs : List Value} (h : entryE.Own S w x cs) :
    ∃ (a0 : (List RdnT)) (a1 : (List AttrT)) (v0 v1 : Value) (S0 S1 : Bs), x = (a0, a1) ∧ cs = [v0, v1] ∧ SlOwn rdnE S0 w a0 v0 ∧ (∀ k, S0 k → S k) ∧ SlOwn attrE S1 w a1 v1 ∧ (∀ k, S1 k → S k) ∧ (∀ k, S0 k → ¬ S1 k) ∧ True := by
  rcases x with ⟨a0, a1⟩
  obtain ⟨c21, d21, A21, B21, rfl, f21, r21, i21, j21, x21⟩ := own_pair h
  obtain ⟨v0, rfl, q0⟩ := f21
  obtain ⟨S0, hS0⟩ : ∃ X : Bs, X = A21 := ⟨_, rfl⟩
  rw [← hS0] at q0
  obtain ⟨v1, rfl, q1⟩ := r21
  obtain ⟨S1, hS1⟩ : ∃ X : Bs, X = B21 := ⟨_, rfl⟩
  rw [← hS1] at q1
  exact ⟨a0, a1, v0, v1, S0, S1, rfl, by simp, q0, fun k z => (i21 k (hS0 ▸ z)), q1, fun k z => (j21 k (hS1 ▸ z)), fun k z1 z2 => x21 k (hS0 ▸ z1) (hS1 ▸ z2), trivial⟩
theorem entry_pack {S : Bs} {w : World} (a0 : (List RdnT)) (a1 : (List AttrT)) (v0 v1 : Value) (S0 S1 : Bs) (h : SlOwn rdnE S0 w a0 v0 ∧ (∀ k, S0 k → S k) ∧ SlOwn attrE S1 w a1 v1 ∧ (∀ k, S1 k → S k) ∧ (∀ k, S0 k → ¬ S1 k) ∧ True) :
    entryE.Own S w (a0, a1) [v0, v1] := by
  obtain ⟨q0, u0, q1, u1, d0_1, _⟩ := h
  exact (pair_own S0 S1 (own_sl q0) (own_sl q1) (u0) (u1) (fun k z y => by first | exact d0_1 k z y))
theorem entry_sl {S : Bs} {w : World} {x : EntryT} {cs : List Value} (h : entryE.Own S w x cs)  {v0 v1 : Value} (hc : cs = [v0, v1]) : (∃ p l j, v0 = .slice p l j) ∧ (∃ p l j, v1 = .slice p l j) := by
  obtain ⟨y0, y1, z0, z1, Z0, Z1, e1, e2, qs⟩ := entry_own h
  subst e2
  simp only [List.cons.injEq] at hc
  obtain ⟨k0, k1, _⟩ := hc
  subst k0 k1
  exact ⟨(by obtain ⟨o, c, e⟩ := qs.1.at.sl; exact ⟨o, _, c, e⟩), (by obtain ⟨o, c, e⟩ := qs.2.2.1.at.sl; exact ⟨o, _, c, e⟩)⟩
abbrev EntryOutT := EntryT × Int
abbrev entryOutE : Enc (EntryT × Int) := pairE entryE intE
theorem entryOut_row {S : Bs} {w : World} {l : List EntryOutT} {ao : Option Addr} {n cap k : Nat} (h : SlAt entryOutE S w l (.slice ao n cap)) (hk : k < l.length) :
    ∃ (b off : Nat) (a0 : (List RdnT)) (a1 : (List AttrT)) (a2 : Int) (v0 v1 : Value), ao = some ⟨b, off, none⟩ ∧ S b ∧ b < w.heap.size ∧ l[k] = ((a0, a1), a2) ∧ (w.cell? ⟨b, off + k * 3, none⟩ = some (v0) ∧ w.cell? ⟨b, off + k * 3 + 1, none⟩ = some (v1) ∧ w.cell? ⟨b, off + k * 3 + 2, none⟩ = some (.int .i64 a2)) ∧ SlAt rdnE S w a0 v0 ∧ SlAt attrE S w a1 v1 ∧ True := by
  obtain ⟨b, off, cs, e1, e2, e3, hc, ha⟩ := h.row hk
  rcases hx : l[k] with ⟨⟨a0, a1⟩, a2⟩
  rw [hx] at ha
  obtain ⟨c22, d22, rfl, f22, r22⟩ := at_pair ha
  obtain ⟨c23, d23, rfl, f23, r23⟩ := at_pair f22
  obtain ⟨v0, rfl, q0⟩ := f23
  obtain ⟨v1, rfl, q1⟩ := r23
  have g24 : _ = [Value.int .i64 a2] := r22
  subst g24
  exact ⟨b, off, a0, a1, a2, v0, v1, e1, e2, e3, rfl, ⟨hc 0 (by simp), hc 1 (by simp), hc 2 (by simp)⟩, q0, q1, trivial⟩
theorem entryOut_atq {S : Bs} {w : World} {x : EntryOutT} {cs : List Value} (ha : entryOutE.At S w x cs) : ∃ (a0 : (List RdnT)) (a1 : (List AttrT)) (a2 : Int) (v0 v1 : Value), x = ((a0, a1), a2) ∧ cs = [v0, v1, .int .i64 a2] ∧ SlAt rdnE S w a0 v0 ∧ SlAt attrE S w a1 v1 ∧ True := by
  rcases x with ⟨⟨a0, a1⟩, a2⟩
  obtain ⟨c25, d25, rfl, f25, r25⟩ := at_pair ha
  obtain ⟨c26, d26, rfl, f26, r26⟩ := at_pair f25
  obtain ⟨v0, rfl, q0⟩ := f26
  obtain ⟨v1, rfl, q1⟩ := r26
  have g27 : _ = [Value.int .i64 a2] := r25
  subst g27
  exact ⟨a0, a1, a2, v0, v1, rfl, by simp, q0, q1, trivial⟩
theorem entryOut_atp {S : Bs} {w : World} {a0 : (List RdnT)} {a1 : (List AttrT)} {a2 : Int} {v0 v1 : Value} (h : entryOutE.At S w ((a0, a1), a2) [v0, v1, .int .i64 a2]) : SlAt rdnE S w a0 v0 ∧ SlAt attrE S w a1 v1 := by
  have h2 := h
  obtain ⟨l, hl⟩ : ∃ l : List Value, l = [v0, v1, .int .i64 a2] := ⟨_, rfl⟩
  rw [← hl] at h2
  obtain ⟨c28, d28, rfl, f28, r28⟩ := at_pair h2
  obtain ⟨c29, d29, rfl, f29, r29⟩ := at_pair f28
  obtain ⟨y0, rfl, q0⟩ := f29
  obtain ⟨y1, rfl, q1⟩ := r29
  have g30 : _ = [Value.int .i64 a2] := r28
  subst g30
  simp only [List.cons_append, List.nil_append, List.cons.injEq] at hl
  obtain ⟨k0, k1, k2, _⟩ := hl
  subst k0 k1
  exact ⟨q0, q1⟩
theorem entryOut_own {S : Bs} {w : World} {x : EntryOutT} {cs : List Value} (h : entryOutE.Own S w x cs) :
    ∃ (a0 : (List RdnT)) (a1 : (List AttrT)) (a2 : Int) (v0 v1 : Value) (S0 S1 : Bs), x = ((a0, a1), a2) ∧ cs = [v0, v1, .int .i64 a2] ∧ SlOwn rdnE S0 w a0 v0 ∧ (∀ k, S0 k → S k) ∧ SlOwn attrE S1 w a1 v1 ∧ (∀ k, S1 k → S k) ∧ (∀ k, S0 k → ¬ S1 k) ∧ True := by
  rcases x with ⟨⟨a0, a1⟩, a2⟩
  obtain ⟨c31, d31, A31, B31, rfl, f31, r31, i31, j31, x31⟩ := own_pair h
  obtain ⟨c32, d32, A32, B32, rfl, f32, r32, i32, j32, x32⟩ := own_pair f31
  obtain ⟨v0, rfl, q0⟩ := f32
  obtain ⟨S0, hS0⟩ : ∃ X : Bs, X = A32 := ⟨_, rfl⟩
  rw [← hS0] at q0
  obtain ⟨v1, rfl, q1⟩ := r32
  obtain ⟨S1, hS1⟩ : ∃ X : Bs, X = B32 := ⟨_, rfl⟩
  rw [← hS1] at q1
  have g33 : _ = [Value.int .i64 a2] := r31
  subst g33
  exact ⟨a0, a1, a2, v0, v1, S0, S1, rfl, by simp, q0, fun k z => (i31 k (i32 k (hS0 ▸ z))), q1, fun k z => (i31 k (j32 k (hS1 ▸ z))), fun k z1 z2 => x32 k (hS0 ▸ z1) (hS1 ▸ z2), trivial⟩
theorem entryOut_pack {S : Bs} {w : World} (a0 : (List RdnT)) (a1 : (List AttrT)) (a2 : Int) (v0 v1 : Value) (S0 S1 : Bs) (h : SlOwn rdnE S0 w a0 v0 ∧ (∀ k, S0 k → S k) ∧ SlOwn attrE S1 w a1 v1 ∧ (∀ k, S1 k → S k) ∧ (∀ k, S0 k → ¬ S1 k) ∧ True) :
    entryOutE.Own S w ((a0, a1), a2) [v0, v1, .int .i64 a2] := by
  obtain ⟨q0, u0, q1, u1, d0_1, _⟩ := h
  exact (pair_own (fun k => S0 k ∨ S1 k) Nil ((pair_own S0 S1 (own_sl q0) (own_sl q1) (fun k z => by simp [z]) (fun k z => by simp [z]) (fun k z y => by first | exact d0_1 k z y))) (own_int a2) (fun k z => by rcases z with z | z <;> first | exact u0 k z | exact u1 k z) (fun _ z => z.elim) (fun _ z y => (by first | exact z.elim | exact y.elim)))
theorem entryOut_sl {S : Bs} {w : World} {x : EntryOutT} {cs : List Value} (h : entryOutE.Own S w x cs) {a2 : Int} {v0 v1 : Value} (hc : cs = [v0, v1, .int .i64 a2]) : (∃ p l j, v0 = .slice p l j) ∧ (∃ p l j, v1 = .slice p l j) := by
  obtain ⟨y0, y1, y2, z0, z1, Z0, Z1, e1, e2, qs⟩ := entryOut_own h
  subst e2
  simp only [List.cons.injEq] at hc
  obtain ⟨k0, k1, k2, _⟩ := hc
  subst k0 k1
  exact ⟨(by obtain ⟨o, c, e⟩ := qs.1.at.sl; exact ⟨o, _, c, e⟩), (by obtain ⟨o, c, e⟩ := qs.2.2.1.at.sl; exact ⟨o, _, c, e⟩)⟩
abbrev RuleT := ByteArray × (List RdnT) × (List ByteArray) × Int × Bool
abbrev ruleE3 : Enc (Int × Bool) := pairE intE boolE
abbrev ruleE2 : Enc ((List ByteArray) × Int × Bool) := pairE (slE strE) ruleE3
abbrev ruleE1 : Enc ((List RdnT) × (List ByteArray) × Int × Bool) := pairE (slE rdnE) ruleE2
abbrev ruleE : Enc (ByteArray × (List RdnT) × (List ByteArray) × Int × Bool) := pairE strE ruleE1
theorem rule_row {S : Bs} {w : World} {l : List RuleT} {ao : Option Addr} {n cap k : Nat} (h : SlAt ruleE S w l (.slice ao n cap)) (hk : k < l.length) :
    ∃ (b off : Nat) (a0 : ByteArray) (a1 : (List RdnT)) (a2 : (List ByteArray)) (a3 : Int) (a4 : Bool) (v1 v2 : Value), ao = some ⟨b, off, none⟩ ∧ S b ∧ b < w.heap.size ∧ l[k] = (a0, a1, a2, a3, a4) ∧ (w.cell? ⟨b, off + k * 5, none⟩ = some (.string a0) ∧ w.cell? ⟨b, off + k * 5 + 1, none⟩ = some (v1) ∧ w.cell? ⟨b, off + k * 5 + 2, none⟩ = some (v2) ∧ w.cell? ⟨b, off + k * 5 + 3, none⟩ = some (.int .i64 a3) ∧ w.cell? ⟨b, off + k * 5 + 4, none⟩ = some (.bool a4)) ∧ SlAt rdnE S w a1 v1 ∧ SlAt strE S w a2 v2 ∧ True := by
  obtain ⟨b, off, cs, e1, e2, e3, hc, ha⟩ := h.row hk
  rcases hx : l[k] with ⟨a0, a1, a2, a3, a4⟩
  rw [hx] at ha
  obtain ⟨c34, d34, rfl, f34, r34⟩ := at_pair ha
  have g35 : _ = [Value.string a0] := f34
  subst g35
  obtain ⟨c36, d36, rfl, f36, r36⟩ := at_pair r34
  obtain ⟨v1, rfl, q1⟩ := f36
  obtain ⟨c37, d37, rfl, f37, r37⟩ := at_pair r36
  obtain ⟨v2, rfl, q2⟩ := f37
  obtain ⟨c38, d38, rfl, f38, r38⟩ := at_pair r37
  have g39 : _ = [Value.int .i64 a3] := f38
  subst g39
  have g40 : _ = [Value.bool a4] := r38
  subst g40
  exact ⟨b, off, a0, a1, a2, a3, a4, v1, v2, e1, e2, e3, rfl, ⟨hc 0 (by simp), hc 1 (by simp), hc 2 (by simp), hc 3 (by simp), hc 4 (by simp)⟩, q1, q2, trivial⟩
theorem rule_atq {S : Bs} {w : World} {x : RuleT} {cs : List Value} (ha : ruleE.At S w x cs) : ∃ (a0 : ByteArray) (a1 : (List RdnT)) (a2 : (List ByteArray)) (a3 : Int) (a4 : Bool) (v1 v2 : Value), x = (a0, a1, a2, a3, a4) ∧ cs = [.string a0, v1, v2, .int .i64 a3, .bool a4] ∧ SlAt rdnE S w a1 v1 ∧ SlAt strE S w a2 v2 ∧ True := by
  rcases x with ⟨a0, a1, a2, a3, a4⟩
  obtain ⟨c41, d41, rfl, f41, r41⟩ := at_pair ha
  have g42 : _ = [Value.string a0] := f41
  subst g42
  obtain ⟨c43, d43, rfl, f43, r43⟩ := at_pair r41
  obtain ⟨v1, rfl, q1⟩ := f43
  obtain ⟨c44, d44, rfl, f44, r44⟩ := at_pair r43
  obtain ⟨v2, rfl, q2⟩ := f44
  obtain ⟨c45, d45, rfl, f45, r45⟩ := at_pair r44
  have g46 : _ = [Value.int .i64 a3] := f45
  subst g46
  have g47 : _ = [Value.bool a4] := r45
  subst g47
  exact ⟨a0, a1, a2, a3, a4, v1, v2, rfl, by simp, q1, q2, trivial⟩
theorem rule_atp {S : Bs} {w : World} {a0 : ByteArray} {a1 : (List RdnT)} {a2 : (List ByteArray)} {a3 : Int} {a4 : Bool} {v1 v2 : Value} (h : ruleE.At S w (a0, a1, a2, a3, a4) [.string a0, v1, v2, .int .i64 a3, .bool a4]) : SlAt rdnE S w a1 v1 ∧ SlAt strE S w a2 v2 := by
  have h2 := h
  obtain ⟨l, hl⟩ : ∃ l : List Value, l = [.string a0, v1, v2, .int .i64 a3, .bool a4] := ⟨_, rfl⟩
  rw [← hl] at h2
  obtain ⟨c48, d48, rfl, f48, r48⟩ := at_pair h2
  have g49 : _ = [Value.string a0] := f48
  subst g49
  obtain ⟨c50, d50, rfl, f50, r50⟩ := at_pair r48
  obtain ⟨y1, rfl, q1⟩ := f50
  obtain ⟨c51, d51, rfl, f51, r51⟩ := at_pair r50
  obtain ⟨y2, rfl, q2⟩ := f51
  obtain ⟨c52, d52, rfl, f52, r52⟩ := at_pair r51
  have g53 : _ = [Value.int .i64 a3] := f52
  subst g53
  have g54 : _ = [Value.bool a4] := r52
  subst g54
  simp only [List.cons_append, List.nil_append, List.cons.injEq] at hl
  obtain ⟨k0, k1, k2, k3, k4, _⟩ := hl
  subst k1 k2
  exact ⟨q1, q2⟩
theorem rule_own {S : Bs} {w : World} {x : RuleT} {cs : List Value} (h : ruleE.Own S w x cs) :
    ∃ (a0 : ByteArray) (a1 : (List RdnT)) (a2 : (List ByteArray)) (a3 : Int) (a4 : Bool) (v1 v2 : Value) (S1 S2 : Bs), x = (a0, a1, a2, a3, a4) ∧ cs = [.string a0, v1, v2, .int .i64 a3, .bool a4] ∧ SlOwn rdnE S1 w a1 v1 ∧ (∀ k, S1 k → S k) ∧ SlOwn strE S2 w a2 v2 ∧ (∀ k, S2 k → S k) ∧ (∀ k, S1 k → ¬ S2 k) ∧ True := by
  rcases x with ⟨a0, a1, a2, a3, a4⟩
  obtain ⟨c55, d55, A55, B55, rfl, f55, r55, i55, j55, x55⟩ := own_pair h
  have g56 : _ = [Value.string a0] := f55
  subst g56
  obtain ⟨c57, d57, A57, B57, rfl, f57, r57, i57, j57, x57⟩ := own_pair r55
  obtain ⟨v1, rfl, q1⟩ := f57
  obtain ⟨S1, hS1⟩ : ∃ X : Bs, X = A57 := ⟨_, rfl⟩
  rw [← hS1] at q1
  obtain ⟨c58, d58, A58, B58, rfl, f58, r58, i58, j58, x58⟩ := own_pair r57
  obtain ⟨v2, rfl, q2⟩ := f58
  obtain ⟨S2, hS2⟩ : ∃ X : Bs, X = A58 := ⟨_, rfl⟩
  rw [← hS2] at q2
  obtain ⟨c59, d59, A59, B59, rfl, f59, r59, i59, j59, x59⟩ := own_pair r58
  have g60 : _ = [Value.int .i64 a3] := f59
  subst g60
  have g61 : _ = [Value.bool a4] := r59
  subst g61
  exact ⟨a0, a1, a2, a3, a4, v1, v2, S1, S2, rfl, by simp, q1, fun k z => (j55 k (i57 k (hS1 ▸ z))), q2, fun k z => (j55 k (j57 k (i58 k (hS2 ▸ z)))), fun k z1 z2 => x57 k (hS1 ▸ z1) (i58 k (hS2 ▸ z2)), trivial⟩
theorem rule_pack {S : Bs} {w : World} (a0 : ByteArray) (a1 : (List RdnT)) (a2 : (List ByteArray)) (a3 : Int) (a4 : Bool) (v1 v2 : Value) (S1 S2 : Bs) (h : SlOwn rdnE S1 w a1 v1 ∧ (∀ k, S1 k → S k) ∧ SlOwn strE S2 w a2 v2 ∧ (∀ k, S2 k → S k) ∧ (∀ k, S1 k → ¬ S2 k) ∧ True) :
    ruleE.Own S w (a0, a1, a2, a3, a4) [.string a0, v1, v2, .int .i64 a3, .bool a4] := by
  obtain ⟨q1, u1, q2, u2, d1_2, _⟩ := h
  exact (pair_own Nil (fun k => S1 k ∨ S2 k) (own_str a0) ((pair_own S1 S2 (own_sl q1) ((pair_own S2 Nil (own_sl q2) ((pair_own Nil Nil (own_int a3) (own_bool a4) (fun _ z => z.elim) (fun _ z => z.elim) (fun _ z y => (by first | exact z.elim | exact y.elim)))) (fun _ z => z) (fun _ z => z.elim) (fun _ z y => (by first | exact z.elim | exact y.elim)))) (fun k z => by simp [z]) (fun k z => by simp [z]) (fun k z y => by first | exact d1_2 k z y))) (fun _ z => z.elim) (fun k z => by rcases z with z | z <;> first | exact u1 k z | exact u2 k z) (fun _ z y => (by first | exact z.elim | exact y.elim)))
theorem rule_sl {S : Bs} {w : World} {x : RuleT} {cs : List Value} (h : ruleE.Own S w x cs) {a0 : ByteArray} {a3 : Int} {a4 : Bool} {v1 v2 : Value} (hc : cs = [.string a0, v1, v2, .int .i64 a3, .bool a4]) : (∃ p l j, v1 = .slice p l j) ∧ (∃ p l j, v2 = .slice p l j) := by
  obtain ⟨y0, y1, y2, y3, y4, z1, z2, Z1, Z2, e1, e2, qs⟩ := rule_own h
  subst e2
  simp only [List.cons.injEq] at hc
  obtain ⟨k0, k1, k2, k3, k4, _⟩ := hc
  subst k1 k2
  exact ⟨(by obtain ⟨o, c, e⟩ := qs.1.at.sl; exact ⟨o, _, c, e⟩), (by obtain ⟨o, c, e⟩ := qs.2.2.1.at.sl; exact ⟨o, _, c, e⟩)⟩
abbrev NodeT := Int × ByteArray × ByteArray × Int
abbrev nodeE2 : Enc (ByteArray × Int) := pairE strE intE
abbrev nodeE1 : Enc (ByteArray × ByteArray × Int) := pairE strE nodeE2
abbrev nodeE : Enc (Int × ByteArray × ByteArray × Int) := pairE intE nodeE1
theorem node_row {S : Bs} {w : World} {l : List NodeT} {ao : Option Addr} {n cap k : Nat} (h : SlAt nodeE S w l (.slice ao n cap)) (hk : k < l.length) :
    ∃ (b off : Nat) (a0 : Int) (a1 : ByteArray) (a2 : ByteArray) (a3 : Int) , ao = some ⟨b, off, none⟩ ∧ S b ∧ b < w.heap.size ∧ l[k] = (a0, a1, a2, a3) ∧ (w.cell? ⟨b, off + k * 4, none⟩ = some (.int .i64 a0) ∧ w.cell? ⟨b, off + k * 4 + 1, none⟩ = some (.string a1) ∧ w.cell? ⟨b, off + k * 4 + 2, none⟩ = some (.string a2) ∧ w.cell? ⟨b, off + k * 4 + 3, none⟩ = some (.int .i64 a3)) ∧ True := by
  obtain ⟨b, off, cs, e1, e2, e3, hc, ha⟩ := h.row hk
  rcases hx : l[k] with ⟨a0, a1, a2, a3⟩
  rw [hx] at ha
  obtain ⟨c62, d62, rfl, f62, r62⟩ := at_pair ha
  have g63 : _ = [Value.int .i64 a0] := f62
  subst g63
  obtain ⟨c64, d64, rfl, f64, r64⟩ := at_pair r62
  have g65 : _ = [Value.string a1] := f64
  subst g65
  obtain ⟨c66, d66, rfl, f66, r66⟩ := at_pair r64
  have g67 : _ = [Value.string a2] := f66
  subst g67
  have g68 : _ = [Value.int .i64 a3] := r66
  subst g68
  exact ⟨b, off, a0, a1, a2, a3, e1, e2, e3, rfl, ⟨hc 0 (by simp), hc 1 (by simp), hc 2 (by simp), hc 3 (by simp)⟩, trivial⟩
theorem node_atq {S : Bs} {w : World} {x : NodeT} {cs : List Value} (ha : nodeE.At S w x cs) : ∃ (a0 : Int) (a1 : ByteArray) (a2 : ByteArray) (a3 : Int) , x = (a0, a1, a2, a3) ∧ cs = [.int .i64 a0, .string a1, .string a2, .int .i64 a3] ∧ True := by
  rcases x with ⟨a0, a1, a2, a3⟩
  obtain ⟨c69, d69, rfl, f69, r69⟩ := at_pair ha
  have g70 : _ = [Value.int .i64 a0] := f69
  subst g70
  obtain ⟨c71, d71, rfl, f71, r71⟩ := at_pair r69
  have g72 : _ = [Value.string a1] := f71
  subst g72
  obtain ⟨c73, d73, rfl, f73, r73⟩ := at_pair r71
  have g74 : _ = [Value.string a2] := f73
  subst g74
  have g75 : _ = [Value.int .i64 a3] := r73
  subst g75
  exact ⟨a0, a1, a2, a3, rfl, by simp, trivial⟩
theorem node_own {S : Bs} {w : World} {x : NodeT} {cs : List Value} (h : nodeE.Own S w x cs) :
    ∃ (a0 : Int) (a1 : ByteArray) (a2 : ByteArray) (a3 : Int)  , x = (a0, a1, a2, a3) ∧ cs = [.int .i64 a0, .string a1, .string a2, .int .i64 a3] ∧ True := by
  rcases x with ⟨a0, a1, a2, a3⟩
  obtain ⟨c76, d76, A76, B76, rfl, f76, r76, i76, j76, x76⟩ := own_pair h
  have g77 : _ = [Value.int .i64 a0] := f76
  subst g77
  obtain ⟨c78, d78, A78, B78, rfl, f78, r78, i78, j78, x78⟩ := own_pair r76
  have g79 : _ = [Value.string a1] := f78
  subst g79
  obtain ⟨c80, d80, A80, B80, rfl, f80, r80, i80, j80, x80⟩ := own_pair r78
  have g81 : _ = [Value.string a2] := f80
  subst g81
  have g82 : _ = [Value.int .i64 a3] := r80
  subst g82
  exact ⟨a0, a1, a2, a3, rfl, by simp, trivial⟩
theorem node_pack {S : Bs} {w : World} (a0 : Int) (a1 : ByteArray) (a2 : ByteArray) (a3 : Int)   (h : True) :
    nodeE.Own S w (a0, a1, a2, a3) [.int .i64 a0, .string a1, .string a2, .int .i64 a3] := by
  obtain ⟨_⟩ := h
  exact (pair_own Nil Nil (own_int a0) ((pair_own Nil Nil (own_str a1) ((pair_own Nil Nil (own_str a2) (own_int a3) (fun _ z => z.elim) (fun _ z => z.elim) (fun _ z y => (by first | exact z.elim | exact y.elim)))) (fun _ z => z.elim) (fun _ z => z.elim) (fun _ z y => (by first | exact z.elim | exact y.elim)))) (fun _ z => z.elim) (fun _ z => z.elim) (fun _ z y => (by first | exact z.elim | exact y.elim)))
abbrev ClassT := ByteArray × (List ByteArray) × (List ByteArray) × (List ByteArray)
abbrev classE2 : Enc ((List ByteArray) × (List ByteArray)) := pairE (slE strE) (slE strE)
abbrev classE1 : Enc ((List ByteArray) × (List ByteArray) × (List ByteArray)) := pairE (slE strE) classE2
abbrev classE : Enc (ByteArray × (List ByteArray) × (List ByteArray) × (List ByteArray)) := pairE strE classE1
theorem class_row {S : Bs} {w : World} {l : List ClassT} {ao : Option Addr} {n cap k : Nat} (h : SlAt classE S w l (.slice ao n cap)) (hk : k < l.length) :
    ∃ (b off : Nat) (a0 : ByteArray) (a1 : (List ByteArray)) (a2 : (List ByteArray)) (a3 : (List ByteArray)) (v1 v2 v3 : Value), ao = some ⟨b, off, none⟩ ∧ S b ∧ b < w.heap.size ∧ l[k] = (a0, a1, a2, a3) ∧ (w.cell? ⟨b, off + k * 4, none⟩ = some (.string a0) ∧ w.cell? ⟨b, off + k * 4 + 1, none⟩ = some (v1) ∧ w.cell? ⟨b, off + k * 4 + 2, none⟩ = some (v2) ∧ w.cell? ⟨b, off + k * 4 + 3, none⟩ = some (v3)) ∧ SlAt strE S w a1 v1 ∧ SlAt strE S w a2 v2 ∧ SlAt strE S w a3 v3 ∧ True := by
  obtain ⟨b, off, cs, e1, e2, e3, hc, ha⟩ := h.row hk
  rcases hx : l[k] with ⟨a0, a1, a2, a3⟩
  rw [hx] at ha
  obtain ⟨c83, d83, rfl, f83, r83⟩ := at_pair ha
  have g84 : _ = [Value.string a0] := f83
  subst g84
  obtain ⟨c85, d85, rfl, f85, r85⟩ := at_pair r83
  obtain ⟨v1, rfl, q1⟩ := f85
  obtain ⟨c86, d86, rfl, f86, r86⟩ := at_pair r85
  obtain ⟨v2, rfl, q2⟩ := f86
  obtain ⟨v3, rfl, q3⟩ := r86
  exact ⟨b, off, a0, a1, a2, a3, v1, v2, v3, e1, e2, e3, rfl, ⟨hc 0 (by simp), hc 1 (by simp), hc 2 (by simp), hc 3 (by simp)⟩, q1, q2, q3, trivial⟩
theorem class_atq {S : Bs} {w : World} {x : ClassT} {cs : List Value} (ha : classE.At S w x cs) : ∃ (a0 : ByteArray) (a1 : (List ByteArray)) (a2 : (List ByteArray)) (a3 : (List ByteArray)) (v1 v2 v3 : Value), x = (a0, a1, a2, a3) ∧ cs = [.string a0, v1, v2, v3] ∧ SlAt strE S w a1 v1 ∧ SlAt strE S w a2 v2 ∧ SlAt strE S w a3 v3 ∧ True := by
  rcases x with ⟨a0, a1, a2, a3⟩
  obtain ⟨c87, d87, rfl, f87, r87⟩ := at_pair ha
  have g88 : _ = [Value.string a0] := f87
  subst g88
  obtain ⟨c89, d89, rfl, f89, r89⟩ := at_pair r87
  obtain ⟨v1, rfl, q1⟩ := f89
  obtain ⟨c90, d90, rfl, f90, r90⟩ := at_pair r89
  obtain ⟨v2, rfl, q2⟩ := f90
  obtain ⟨v3, rfl, q3⟩ := r90
  exact ⟨a0, a1, a2, a3, v1, v2, v3, rfl, by simp, q1, q2, q3, trivial⟩
theorem class_atp {S : Bs} {w : World} {a0 : ByteArray} {a1 : (List ByteArray)} {a2 : (List ByteArray)} {a3 : (List ByteArray)} {v1 v2 v3 : Value} (h : classE.At S w (a0, a1, a2, a3) [.string a0, v1, v2, v3]) : SlAt strE S w a1 v1 ∧ SlAt strE S w a2 v2 ∧ SlAt strE S w a3 v3 := by
  have h2 := h
  obtain ⟨l, hl⟩ : ∃ l : List Value, l = [.string a0, v1, v2, v3] := ⟨_, rfl⟩
  rw [← hl] at h2
  obtain ⟨c91, d91, rfl, f91, r91⟩ := at_pair h2
  have g92 : _ = [Value.string a0] := f91
  subst g92
  obtain ⟨c93, d93, rfl, f93, r93⟩ := at_pair r91
  obtain ⟨y1, rfl, q1⟩ := f93
  obtain ⟨c94, d94, rfl, f94, r94⟩ := at_pair r93
  obtain ⟨y2, rfl, q2⟩ := f94
  obtain ⟨y3, rfl, q3⟩ := r94
  simp only [List.cons_append, List.nil_append, List.cons.injEq] at hl
  obtain ⟨k0, k1, k2, k3, _⟩ := hl
  subst k1 k2 k3
  exact ⟨q1, q2, q3⟩
theorem class_own {S : Bs} {w : World} {x : ClassT} {cs : List Value} (h : classE.Own S w x cs) :
    ∃ (a0 : ByteArray) (a1 : (List ByteArray)) (a2 : (List ByteArray)) (a3 : (List ByteArray)) (v1 v2 v3 : Value) (S1 S2 S3 : Bs), x = (a0, a1, a2, a3) ∧ cs = [.string a0, v1, v2, v3] ∧ SlOwn strE S1 w a1 v1 ∧ (∀ k, S1 k → S k) ∧ SlOwn strE S2 w a2 v2 ∧ (∀ k, S2 k → S k) ∧ SlOwn strE S3 w a3 v3 ∧ (∀ k, S3 k → S k) ∧ (∀ k, S1 k → ¬ S2 k) ∧ (∀ k, S1 k → ¬ S3 k) ∧ (∀ k, S2 k → ¬ S3 k) ∧ True := by
  rcases x with ⟨a0, a1, a2, a3⟩
  obtain ⟨c95, d95, A95, B95, rfl, f95, r95, i95, j95, x95⟩ := own_pair h
  have g96 : _ = [Value.string a0] := f95
  subst g96
  obtain ⟨c97, d97, A97, B97, rfl, f97, r97, i97, j97, x97⟩ := own_pair r95
  obtain ⟨v1, rfl, q1⟩ := f97
  obtain ⟨S1, hS1⟩ : ∃ X : Bs, X = A97 := ⟨_, rfl⟩
  rw [← hS1] at q1
  obtain ⟨c98, d98, A98, B98, rfl, f98, r98, i98, j98, x98⟩ := own_pair r97
  obtain ⟨v2, rfl, q2⟩ := f98
  obtain ⟨S2, hS2⟩ : ∃ X : Bs, X = A98 := ⟨_, rfl⟩
  rw [← hS2] at q2
  obtain ⟨v3, rfl, q3⟩ := r98
  obtain ⟨S3, hS3⟩ : ∃ X : Bs, X = B98 := ⟨_, rfl⟩
  rw [← hS3] at q3
  exact ⟨a0, a1, a2, a3, v1, v2, v3, S1, S2, S3, rfl, by simp, q1, fun k z => (j95 k (i97 k (hS1 ▸ z))), q2, fun k z => (j95 k (j97 k (i98 k (hS2 ▸ z)))), q3, fun k z => (j95 k (j97 k (j98 k (hS3 ▸ z)))), fun k z1 z2 => x97 k (hS1 ▸ z1) (i98 k (hS2 ▸ z2)), fun k z1 z2 => x97 k (hS1 ▸ z1) (j98 k (hS3 ▸ z2)), fun k z1 z2 => x98 k (hS2 ▸ z1) (hS3 ▸ z2), trivial⟩
theorem class_pack {S : Bs} {w : World} (a0 : ByteArray) (a1 : (List ByteArray)) (a2 : (List ByteArray)) (a3 : (List ByteArray)) (v1 v2 v3 : Value) (S1 S2 S3 : Bs) (h : SlOwn strE S1 w a1 v1 ∧ (∀ k, S1 k → S k) ∧ SlOwn strE S2 w a2 v2 ∧ (∀ k, S2 k → S k) ∧ SlOwn strE S3 w a3 v3 ∧ (∀ k, S3 k → S k) ∧ (∀ k, S1 k → ¬ S2 k) ∧ (∀ k, S1 k → ¬ S3 k) ∧ (∀ k, S2 k → ¬ S3 k) ∧ True) :
    classE.Own S w (a0, a1, a2, a3) [.string a0, v1, v2, v3] := by
  obtain ⟨q1, u1, q2, u2, q3, u3, d1_2, d1_3, d2_3, _⟩ := h
  exact (pair_own Nil (fun k => S1 k ∨ S2 k ∨ S3 k) (own_str a0) ((pair_own S1 (fun k => S2 k ∨ S3 k) (own_sl q1) ((pair_own S2 S3 (own_sl q2) (own_sl q3) (fun k z => by simp [z]) (fun k z => by simp [z]) (fun k z y => by first | exact d2_3 k z y))) (fun k z => by simp [z]) (fun k z => by rcases z with z | z <;> simp [z]) (fun k z y => by rcases y with y | y <;> first | exact d1_2 k z y | exact d1_3 k z y))) (fun _ z => z.elim) (fun k z => by rcases z with z | z | z <;> first | exact u1 k z | exact u2 k z | exact u3 k z) (fun _ z y => (by first | exact z.elim | exact y.elim)))
theorem class_sl {S : Bs} {w : World} {x : ClassT} {cs : List Value} (h : classE.Own S w x cs) {a0 : ByteArray} {v1 v2 v3 : Value} (hc : cs = [.string a0, v1, v2, v3]) : (∃ p l j, v1 = .slice p l j) ∧ (∃ p l j, v2 = .slice p l j) ∧ (∃ p l j, v3 = .slice p l j) := by
  obtain ⟨y0, y1, y2, y3, z1, z2, z3, Z1, Z2, Z3, e1, e2, qs⟩ := class_own h
  subst e2
  simp only [List.cons.injEq] at hc
  obtain ⟨k0, k1, k2, k3, _⟩ := hc
  subst k1 k2 k3
  exact ⟨(by obtain ⟨o, c, e⟩ := qs.1.at.sl; exact ⟨o, _, c, e⟩), (by obtain ⟨o, c, e⟩ := qs.2.2.1.at.sl; exact ⟨o, _, c, e⟩), (by obtain ⟨o, c, e⟩ := qs.2.2.2.2.1.at.sl; exact ⟨o, _, c, e⟩)⟩
abbrev ModT := Int × ByteArray × (List ByteArray)
abbrev modE1 : Enc (ByteArray × (List ByteArray)) := pairE strE (slE strE)
abbrev modE : Enc (Int × ByteArray × (List ByteArray)) := pairE intE modE1
theorem mod_row {S : Bs} {w : World} {l : List ModT} {ao : Option Addr} {n cap k : Nat} (h : SlAt modE S w l (.slice ao n cap)) (hk : k < l.length) :
    ∃ (b off : Nat) (a0 : Int) (a1 : ByteArray) (a2 : (List ByteArray)) (v2 : Value), ao = some ⟨b, off, none⟩ ∧ S b ∧ b < w.heap.size ∧ l[k] = (a0, a1, a2) ∧ (w.cell? ⟨b, off + k * 3, none⟩ = some (.int .i64 a0) ∧ w.cell? ⟨b, off + k * 3 + 1, none⟩ = some (.string a1) ∧ w.cell? ⟨b, off + k * 3 + 2, none⟩ = some (v2)) ∧ SlAt strE S w a2 v2 ∧ True := by
  obtain ⟨b, off, cs, e1, e2, e3, hc, ha⟩ := h.row hk
  rcases hx : l[k] with ⟨a0, a1, a2⟩
  rw [hx] at ha
  obtain ⟨c99, d99, rfl, f99, r99⟩ := at_pair ha
  have g100 : _ = [Value.int .i64 a0] := f99
  subst g100
  obtain ⟨c101, d101, rfl, f101, r101⟩ := at_pair r99
  have g102 : _ = [Value.string a1] := f101
  subst g102
  obtain ⟨v2, rfl, q2⟩ := r101
  exact ⟨b, off, a0, a1, a2, v2, e1, e2, e3, rfl, ⟨hc 0 (by simp), hc 1 (by simp), hc 2 (by simp)⟩, q2, trivial⟩
theorem mod_atq {S : Bs} {w : World} {x : ModT} {cs : List Value} (ha : modE.At S w x cs) : ∃ (a0 : Int) (a1 : ByteArray) (a2 : (List ByteArray)) (v2 : Value), x = (a0, a1, a2) ∧ cs = [.int .i64 a0, .string a1, v2] ∧ SlAt strE S w a2 v2 ∧ True := by
  rcases x with ⟨a0, a1, a2⟩
  obtain ⟨c103, d103, rfl, f103, r103⟩ := at_pair ha
  have g104 : _ = [Value.int .i64 a0] := f103
  subst g104
  obtain ⟨c105, d105, rfl, f105, r105⟩ := at_pair r103
  have g106 : _ = [Value.string a1] := f105
  subst g106
  obtain ⟨v2, rfl, q2⟩ := r105
  exact ⟨a0, a1, a2, v2, rfl, by simp, q2, trivial⟩
theorem mod_atp {S : Bs} {w : World} {a0 : Int} {a1 : ByteArray} {a2 : (List ByteArray)} {v2 : Value} (h : modE.At S w (a0, a1, a2) [.int .i64 a0, .string a1, v2]) : SlAt strE S w a2 v2 := by
  have h2 := h
  obtain ⟨l, hl⟩ : ∃ l : List Value, l = [.int .i64 a0, .string a1, v2] := ⟨_, rfl⟩
  rw [← hl] at h2
  obtain ⟨c107, d107, rfl, f107, r107⟩ := at_pair h2
  have g108 : _ = [Value.int .i64 a0] := f107
  subst g108
  obtain ⟨c109, d109, rfl, f109, r109⟩ := at_pair r107
  have g110 : _ = [Value.string a1] := f109
  subst g110
  obtain ⟨y2, rfl, q2⟩ := r109
  simp only [List.cons_append, List.nil_append, List.cons.injEq] at hl
  obtain ⟨k0, k1, k2, _⟩ := hl
  subst k2
  exact q2
theorem mod_own {S : Bs} {w : World} {x : ModT} {cs : List Value} (h : modE.Own S w x cs) :
    ∃ (a0 : Int) (a1 : ByteArray) (a2 : (List ByteArray)) (v2 : Value) (S2 : Bs), x = (a0, a1, a2) ∧ cs = [.int .i64 a0, .string a1, v2] ∧ SlOwn strE S2 w a2 v2 ∧ (∀ k, S2 k → S k) ∧ True := by
  rcases x with ⟨a0, a1, a2⟩
  obtain ⟨c111, d111, A111, B111, rfl, f111, r111, i111, j111, x111⟩ := own_pair h
  have g112 : _ = [Value.int .i64 a0] := f111
  subst g112
  obtain ⟨c113, d113, A113, B113, rfl, f113, r113, i113, j113, x113⟩ := own_pair r111
  have g114 : _ = [Value.string a1] := f113
  subst g114
  obtain ⟨v2, rfl, q2⟩ := r113
  obtain ⟨S2, hS2⟩ : ∃ X : Bs, X = B113 := ⟨_, rfl⟩
  rw [← hS2] at q2
  exact ⟨a0, a1, a2, v2, S2, rfl, by simp, q2, fun k z => (j111 k (j113 k (hS2 ▸ z))), trivial⟩
theorem mod_pack {S : Bs} {w : World} (a0 : Int) (a1 : ByteArray) (a2 : (List ByteArray)) (v2 : Value) (S2 : Bs) (h : SlOwn strE S2 w a2 v2 ∧ (∀ k, S2 k → S k) ∧ True) :
    modE.Own S w (a0, a1, a2) [.int .i64 a0, .string a1, v2] := by
  obtain ⟨q2, u2, _⟩ := h
  exact (pair_own Nil S2 (own_int a0) ((pair_own Nil S2 (own_str a1) (own_sl q2) (fun _ z => z.elim) (fun _ z => z) (fun _ z y => (by first | exact z.elim | exact y.elim)))) (fun _ z => z.elim) (u2) (fun _ z y => (by first | exact z.elim | exact y.elim)))
theorem mod_sl {S : Bs} {w : World} {x : ModT} {cs : List Value} (h : modE.Own S w x cs) {a0 : Int} {a1 : ByteArray} {v2 : Value} (hc : cs = [.int .i64 a0, .string a1, v2]) : (∃ p l j, v2 = .slice p l j) := by
  obtain ⟨y0, y1, y2, z2, Z2, e1, e2, qs⟩ := mod_own h
  subst e2
  simp only [List.cons.injEq] at hc
  obtain ⟨k0, k1, k2, _⟩ := hc
  subst k2
  exact (by obtain ⟨o, c, e⟩ := qs.1.at.sl; exact ⟨o, _, c, e⟩)
abbrev TreeT := (List ClassT) × (List EntryT)
abbrev treeE : Enc ((List ClassT) × (List EntryT)) := pairE (slE classE) (slE entryE)
theorem tree_row {S : Bs} {w : World} {l : List TreeT} {ao : Option Addr} {n cap k : Nat} (h : SlAt treeE S w l (.slice ao n cap)) (hk : k < l.length) :
    ∃ (b off : Nat) (a0 : (List ClassT)) (a1 : (List EntryT)) (v0 v1 : Value), ao = some ⟨b, off, none⟩ ∧ S b ∧ b < w.heap.size ∧ l[k] = (a0, a1) ∧ (w.cell? ⟨b, off + k * 2, none⟩ = some (v0) ∧ w.cell? ⟨b, off + k * 2 + 1, none⟩ = some (v1)) ∧ SlAt classE S w a0 v0 ∧ SlAt entryE S w a1 v1 ∧ True := by
  obtain ⟨b, off, cs, e1, e2, e3, hc, ha⟩ := h.row hk
  rcases hx : l[k] with ⟨a0, a1⟩
  rw [hx] at ha
  obtain ⟨c115, d115, rfl, f115, r115⟩ := at_pair ha
  obtain ⟨v0, rfl, q0⟩ := f115
  obtain ⟨v1, rfl, q1⟩ := r115
  exact ⟨b, off, a0, a1, v0, v1, e1, e2, e3, rfl, ⟨hc 0 (by simp), hc 1 (by simp)⟩, q0, q1, trivial⟩
theorem tree_atq {S : Bs} {w : World} {x : TreeT} {cs : List Value} (ha : treeE.At S w x cs) : ∃ (a0 : (List ClassT)) (a1 : (List EntryT)) (v0 v1 : Value), x = (a0, a1) ∧ cs = [v0, v1] ∧ SlAt classE S w a0 v0 ∧ SlAt entryE S w a1 v1 ∧ True := by
  rcases x with ⟨a0, a1⟩
  obtain ⟨c116, d116, rfl, f116, r116⟩ := at_pair ha
  obtain ⟨v0, rfl, q0⟩ := f116
  obtain ⟨v1, rfl, q1⟩ := r116
  exact ⟨a0, a1, v0, v1, rfl, by simp, q0, q1, trivial⟩
theorem tree_atp {S : Bs} {w : World} {a0 : (List ClassT)} {a1 : (List EntryT)} {v0 v1 : Value} (h : treeE.At S w (a0, a1) [v0, v1]) : SlAt classE S w a0 v0 ∧ SlAt entryE S w a1 v1 := by
  have h2 := h
  obtain ⟨l, hl⟩ : ∃ l : List Value, l = [v0, v1] := ⟨_, rfl⟩
  rw [← hl] at h2
  obtain ⟨c117, d117, rfl, f117, r117⟩ := at_pair h2
  obtain ⟨y0, rfl, q0⟩ := f117
  obtain ⟨y1, rfl, q1⟩ := r117
  simp only [List.cons_append, List.nil_append, List.cons.injEq] at hl
  obtain ⟨k0, k1, _⟩ := hl
  subst k0 k1
  exact ⟨q0, q1⟩
theorem tree_own {S : Bs} {w : World} {x : TreeT} {cs : List Value} (h : treeE.Own S w x cs) :
    ∃ (a0 : (List ClassT)) (a1 : (List EntryT)) (v0 v1 : Value) (S0 S1 : Bs), x = (a0, a1) ∧ cs = [v0, v1] ∧ SlOwn classE S0 w a0 v0 ∧ (∀ k, S0 k → S k) ∧ SlOwn entryE S1 w a1 v1 ∧ (∀ k, S1 k → S k) ∧ (∀ k, S0 k → ¬ S1 k) ∧ True := by
  rcases x with ⟨a0, a1⟩
  obtain ⟨c118, d118, A118, B118, rfl, f118, r118, i118, j118, x118⟩ := own_pair h
  obtain ⟨v0, rfl, q0⟩ := f118
  obtain ⟨S0, hS0⟩ : ∃ X : Bs, X = A118 := ⟨_, rfl⟩
  rw [← hS0] at q0
  obtain ⟨v1, rfl, q1⟩ := r118
  obtain ⟨S1, hS1⟩ : ∃ X : Bs, X = B118 := ⟨_, rfl⟩
  rw [← hS1] at q1
  exact ⟨a0, a1, v0, v1, S0, S1, rfl, by simp, q0, fun k z => (i118 k (hS0 ▸ z)), q1, fun k z => (j118 k (hS1 ▸ z)), fun k z1 z2 => x118 k (hS0 ▸ z1) (hS1 ▸ z2), trivial⟩
theorem tree_pack {S : Bs} {w : World} (a0 : (List ClassT)) (a1 : (List EntryT)) (v0 v1 : Value) (S0 S1 : Bs) (h : SlOwn classE S0 w a0 v0 ∧ (∀ k, S0 k → S k) ∧ SlOwn entryE S1 w a1 v1 ∧ (∀ k, S1 k → S k) ∧ (∀ k, S0 k → ¬ S1 k) ∧ True) :
    treeE.Own S w (a0, a1) [v0, v1] := by
  obtain ⟨q0, u0, q1, u1, d0_1, _⟩ := h
  exact (pair_own S0 S1 (own_sl q0) (own_sl q1) (u0) (u1) (fun k z y => by first | exact d0_1 k z y))
theorem tree_sl {S : Bs} {w : World} {x : TreeT} {cs : List Value} (h : treeE.Own S w x cs)  {v0 v1 : Value} (hc : cs = [v0, v1]) : (∃ p l j, v0 = .slice p l j) ∧ (∃ p l j, v1 = .slice p l j) := by
  obtain ⟨y0, y1, z0, z1, Z0, Z1, e1, e2, qs⟩ := tree_own h
  subst e2
  simp only [List.cons.injEq] at hc
  obtain ⟨k0, k1, _⟩ := hc
  subst k0 k1
  exact ⟨(by obtain ⟨o, c, e⟩ := qs.1.at.sl; exact ⟨o, _, c, e⟩), (by obtain ⟨o, c, e⟩ := qs.2.2.1.at.sl; exact ⟨o, _, c, e⟩)⟩
end Go.Proofs.Ytlgafmgohinkbaa
/- What the two texts of NameRight return. -/
namespace Go.Proofs.Ytlgafmgohinkbaa
open Go.RowKit

def letB (c : Int) : Bool := decide (97 ≤ c) && decide (c ≤ 122)
def digB (c : Int) : Bool := decide (48 ≤ c) && decide (c ≤ 57)
def nameB (c : Int) : Bool := letB c || digB c || (c == 95)

set_option maxHeartbeats 400000 in
theorem isLetter_any (c : Int) (w : World) :
    Calls Try.prog 143 #[.int .u8 c] w fun e w' => e = .returned (.bool (letB c)) ∧ w = w' := by
  by_cases h1 : 97 ≤ c
  all_goals by_cases h2 : c ≤ 122
  all_goals
    go_enter Try.func143, Try.ntmps143
    go_wp2
    go_ret
    exact ⟨by simp [letB, h1, h2], rfl⟩

set_option maxHeartbeats 400000 in
theorem isNameByte_any (c : Int) (w : World) :
    Calls Try.prog 144 #[.int .u8 c] w fun e w' => e = .returned (.bool (nameB c)) ∧ w = w' := by
  by_cases h1 : 97 ≤ c
  all_goals by_cases h2 : c ≤ 122
  all_goals by_cases h3 : 48 ≤ c
  all_goals by_cases h4 : c ≤ 57
  all_goals by_cases h5 : c = 95
  all_goals try omega
  all_goals
    first | (have hl : letB c = true := by simp [letB, h1, h2]) | (have hl : letB c = false := by simp [letB, h1, h2])
    first | (have h6 : (c == 95) = true := by simp [h5]) | (have h6 : (c == 95) = false := by simp [h5])
    go_enter Try.func144, Try.ntmps144
    go_wp2_with (first | (go_at_call 143; refine (isLetter_any _ _).mono ?_; rintro e w' ⟨rfl, rfl⟩))
    go_ret
    exact ⟨by simp [nameB, hl, digB, h3, h4, h6], rfl⟩
end Go.Proofs.Ytlgafmgohinkbaa
/- What the two texts of NameRight return. -/
namespace Go.Proofs.Ytlgafmgohinkbaa
open Go.RowKit

def allB (l : List UInt8) : Bool := l.all (fun c => nameB (c.toNat : Int))
def nmL (s : ByteArray) : Bool := decide (1 ≤ s.size) && decide (s.size ≤ 20) && letB ((s.data.toList.getD 0 0).toNat : Int) && allB s.data.toList

theorem take_snoc (s : ByteArray) (k : Nat) (h : k < s.size) : s.data.toList.take (k + 1) = s.data.toList.take k ++ [s[k]] := by
  rw [List.take_succ_eq_append_getElem (by simpa using h)]; rfl
theorem allB_snoc (l : List UInt8) (c : UInt8) : allB (l ++ [c]) = (allB l && nameB (c.toNat : Int)) := by simp [allB]
theorem getD_zero (s : ByteArray) (h : 0 < s.size) : s.data.toList.getD 0 0 = s[0] := by
  have h' : 0 < s.data.toList.length := by simpa using h
  rw [List.getD_eq_getElem?_getD, List.getElem?_eq_getElem h']; rfl
theorem mem_get (s : ByteArray) (k : Nat) (h : k < s.size) : s[k] ∈ s.data.toList := by
  have : s.data.toList[k]'(by simpa using h) = s[k] := rfl
  rw [← this]; exact List.getElem_mem _
theorem allB_false (s : ByteArray) (k : Nat) (h : k < s.size) (hn : nameB (s[k].toNat : Int) = false) : allB s.data.toList = false := by
  unfold allB; rw [List.all_eq_false]; exact ⟨_, mem_get s k h, by simp [hn]⟩
theorem ret_bool {a b : Bool} (h : a = b) : Ending.returned (.bool a) = .returned (.bool b) := by rw [h]

set_option maxHeartbeats 400000 in
theorem NameRight_any (s : ByteArray) (w : World) (hs : s.size ≤ maxLen) :
    Calls Try.prog 86 #[.string s] w fun e w' => e = .returned (.bool (nmL s)) ∧ w = w' := by
  unfold maxLen at hs
  by_cases h1 : s.size < 1
  · have hf : nmL s = false := by have : ¬ 1 ≤ s.size := by omega
                                  simp [nmL, this]
    have Hf := Lib.hid hf; clear hf
    go_enter Try.func86, Try.ntmps86
    go_wp2
    go_ret
    exact ⟨ret_bool Hf.out.symm, rfl⟩
  by_cases h2 : 20 < s.size
  · have hf : nmL s = false := by have : ¬ s.size ≤ 20 := by omega
                                  simp [nmL, this]
    have Hf := Lib.hid hf; clear hf
    go_enter Try.func86, Try.ntmps86
    go_wp2
    go_ret
    exact ⟨ret_bool Hf.out.symm, rfl⟩
  have h0 : 0 < s.size := by omega
  have hg := getD_zero s h0
  cases h3 : letB (s[0].toNat : Int)
  · have hf : nmL s = false := by simp [nmL, -List.getD_eq_getElem?_getD, hg, h3]
    have Hf := Lib.hid hf; clear hf hg
    go_enter Try.func86, Try.ntmps86
    go_wp2_with (first | (go_at_call 143; refine (isLetter_any _ _).mono ?_; rintro e w' ⟨rfl, rfl⟩))
    go_ret
    exact ⟨ret_bool Hf.out.symm, rfl⟩
  have hf : nmL s = allB s.data.toList := by simp only [nmL, hg, h3]; simp; omega
  have Hf := Lib.hid hf; clear hf hg
  go_enter Try.func86, Try.ntmps86
  go_wp2_with (first | (go_at_call 143; refine (isLetter_any _ _).mono ?_; rintro e w' ⟨rfl, rfl⟩))
  go_loop [20] (fun i => ∃ k : Nat, k ≤ s.size ∧ i = .int .i64 k ∧ allB (s.data.toList.take k) = true) (fun i => s.size - (intOf i).toNat)
  case atStart => exact ⟨0, Nat.zero_le _, rfl, rfl⟩
  case round =>
    obtain ⟨k, hk, rfl, ha⟩ := hrel
    have Ha := Lib.hid ha; clear ha
    by_cases hlt : k < s.size
    · have hts := Lib.hid (take_snoc s k hlt)
      cases hn : nameB (s[k].toNat : Int)
      · have hF := Lib.hid (allB_false s k hlt hn)
        go_wp2_with (first | (go_at_call 144; refine (isNameByte_any _ _).mono ?_; rintro e w' ⟨rfl, rfl⟩))
        go_ret
        exact ⟨ret_bool (by rw [Hf.out, hF.out]), rfl⟩
      · have hT : allB (s.data.toList.take (k + 1)) = true := by rw [hts.out, allB_snoc, Ha.out, hn]; rfl
        have HT := Lib.hid hT; clear hT
        go_wp2_with (first | (go_at_call 144; refine (isNameByte_any _ _).mono ?_; rintro e w' ⟨rfl, rfl⟩))
        go_round
        case rel => exact ⟨k + 1, by omega, by go_num, HT.out⟩
        case measure => simp [intOf]; omega
    · go_wp2
      go_ret
      refine ⟨ret_bool ?_, rfl⟩
      rw [Hf.out, ← Ha.out, List.take_of_length_le (by simp; omega)]
end Go.Proofs.Ytlgafmgohinkbaa
/- Norm: the plain mathematics. -/
namespace Go.Proofs.Ytlgafmgohinkbaa
open Go.RowKit

/-- the small letter of a capital one -/
def low (c : UInt8) : UInt8 := if 65 ≤ c.toNat ∧ c.toNat ≤ 90 then UInt8.ofNat (c.toNat + 32) else c
theorem low_in (c : UInt8) (h : 65 ≤ c.toNat ∧ c.toNat ≤ 90) : ((low c).toNat : Int) = (c.toNat : Int) + 32 := by
  unfold low; rw [if_pos h]; simp; omega
theorem low_out (c : UInt8) (h : ¬ (65 ≤ c.toNat ∧ c.toNat ≤ 90)) : low c = c := by unfold low; rw [if_neg h]
theorem low_space (c : UInt8) : low c = 32 ↔ c = 32 := by
  by_cases h : 65 ≤ c.toNat ∧ c.toNat ≤ 90
  · constructor
    · intro e
      have h1 := low_in c h
      rw [e] at h1
      have : ((32 : UInt8).toNat : Int) = 32 := rfl
      omega
    · intro e; subst e; simp at h
  · rw [low_out c h]
/-- one byte more of a normalized text -/
def nstep (o : List UInt8) (c : UInt8) : List UInt8 := if c = 32 ∧ (o = [] ∨ o.getLast? = some 32) then o else o ++ [low c]
def nfold (l : List UInt8) : List UInt8 := l.foldl nstep []
def chop (o : List UInt8) : List UInt8 := if o.getLast? = some 32 then o.dropLast else o
def plainB (l : List UInt8) : Bool := l.all (fun c => decide (32 ≤ (c.toNat : Int)) && decide ((c.toNat : Int) ≤ 126))
def normL (l : List UInt8) : List UInt8 := if l.length ≤ 100 ∧ plainB l = true then chop (nfold l) else []
def normS (s : ByteArray) : ByteArray := ⟨(normL s.data.toList).toArray⟩

theorem nstep_skip {o : List UInt8} {c : UInt8} (h1 : c = 32) (h2 : o = [] ∨ o.getLast? = some 32) : nstep o c = o := by unfold nstep; rw [if_pos ⟨h1, h2⟩]
theorem nstep_add {o : List UInt8} {c : UInt8} (h : ¬ (c = 32 ∧ (o = [] ∨ o.getLast? = some 32))) : nstep o c = o ++ [low c] := by unfold nstep; rw [if_neg h]
theorem nfold_snoc (l : List UInt8) (c : UInt8) : nfold (l ++ [c]) = nstep (nfold l) c := by simp [nfold]
theorem nfold_len (l : List UInt8) : (nfold l).length ≤ l.length := by
  have : ∀ (l o : List UInt8), (l.foldl nstep o).length ≤ o.length + l.length := by
    intro l
    induction l with
    | nil => intro o; simp
    | cons c l ih =>
      intro o
      rw [List.foldl_cons]
      refine Nat.le_trans (ih _) ?_
      unfold nstep
      split <;> simp <;> omega
  simpa [nfold] using this l []
theorem chop_len (o : List UInt8) : (chop o).length ≤ o.length := by unfold chop; split <;> simp
theorem normL_len (l : List UInt8) : (normL l).length ≤ 100 := by
  unfold normL
  split
  · rename_i h
    exact Nat.le_trans (chop_len _) (Nat.le_trans (nfold_len l) h.1)
  · simp
theorem normL_le (l : List UInt8) : (normL l).length ≤ l.length := by
  unfold normL
  split
  · exact Nat.le_trans (chop_len _) (nfold_len l)
  · simp
theorem normL_long {l : List UInt8} (h : ¬ l.length ≤ 100) : normL l = [] := by unfold normL; rw [if_neg (fun g => h g.1)]
theorem normL_odd {l : List UInt8} (h : plainB l = false) : normL l = [] := by unfold normL; rw [if_neg (fun g => by rw [h] at g; cases g.2)]
theorem normL_in {l : List UInt8} (h : l.length ≤ 100) (g : plainB l = true) : normL l = chop (nfold l) := by unfold normL; rw [if_pos ⟨h, g⟩]
theorem plainB_snoc (l : List UInt8) (c : UInt8) : plainB (l ++ [c]) = (plainB l && (decide (32 ≤ (c.toNat : Int)) && decide ((c.toNat : Int) ≤ 126))) := by simp [plainB]
theorem plainB_false (s : ByteArray) (k : Nat) (h : k < s.size) (hn : ¬ (32 ≤ (s[k].toNat : Int) ∧ (s[k].toNat : Int) ≤ 126)) : plainB s.data.toList = false := by
  unfold plainB; rw [List.all_eq_false]; exact ⟨_, mem_get s k h, by simp; omega⟩
end Go.Proofs.Ytlgafmgohinkbaa
/- Rows of bytes that a call owns, and the strings made of them. -/
namespace Go.Proofs.Ytlgafmgohinkbaa
open Go.RowKit

theorem Try.size5 (w : World) : (sizeOf 5).run Try.prog w = .ok 1 w := by kernel_rfl
theorem Try.info5 : (Try.prog.info? 5).map (fun i => (i.zero, i.size, i.bytes)) = some (some (.int .u8 0), 1, 1) := by kernel_rfl
theorem add_plain (b j : Nat) : (⟨b, 0, none⟩ : Addr).add j = ⟨b, j, none⟩ := by unfold Addr.add; split <;> simp_all
theorem str22 (W : World) (a : Addr) (cap : Nat) (l : List UInt8) (n : Nat) (hn : l.length = n) (hc : ∀ j (hj : j < l.length), W.cell? (a.add j) = some (.int .u8 (l[j].toNat : Int))) :
    (convert 68 9 (.slice (some a) n cap)).run Try.prog W = .ok (.string ⟨l.toArray⟩) W := by
  subst hn
  exact run_convert_bytes_back W 68 9 5 a cap l Try.underlying68 Try.underlying5 Try.underlying9 hc
def bs (l : List UInt8) : List Value := l.map (fun c => .int .u8 (c.toNat : Int))
theorem bs_length (l : List UInt8) : (bs l).length = l.length := by simp [bs]
theorem bs_snoc (l : List UInt8) (c : UInt8) : bs (l ++ [c]) = bs l ++ [.int .u8 (c.toNat : Int)] := by simp [bs]
/-- a string made of a row of bytes that the call owns -/
theorem str_own (W : World) (base : Nat) (v : Value) (l : List UInt8) (h : W.ownsRow base 5 1 v l.length (bs l)) :
    (convert 68 9 v).run Try.prog W = .ok (.string ⟨l.toArray⟩) W := by
  rcases h.2 with ⟨rfl, hn⟩ | ⟨g, cap, cur, rfl, hb, hg, hc1, hc2, hc3, hc4⟩
  · have : l = [] := List.length_eq_zero_iff.1 hn
    subst this
    exact run_convert_bytes_nil W 68 5 Try.underlying68 Try.underlying5 0 0 9 Try.underlying9
  · refine run_convert_bytes_back W 68 9 5 ⟨g, 0, none⟩ cap l Try.underlying68 Try.underlying5 Try.underlying9 fun j hj => ?_
    exact h.cells rfl j _ (by simp [bs, List.getElem?_eq_getElem hj])
/-- one byte more behind a row of bytes that the call owns -/
theorem append_byte {ops : Array Oper} {rest : List Oper} {o : Oper} {a : Act} {Q : Exit → Act → World → Prop} {w0 wr : World} (B : Nat) (hgd : o.guard = none) (s x : Operand)
    (ho : o.op = .call { callee := .builtin .append, args := #[s, x], argTypes := #[68, 68] }) (v : Value) (pre : List UInt8) (hs : a.eval s = v) (hown : wr.ownsRow B 5 1 v pre.length (bs pre))
    (c : UInt8) (n : Int) (hn : n = (c.toNat : Int)) (hx : a.eval x = .slice (some ⟨wr.heap.size, 0, none⟩) 1 1) (hlen : pre.length ≤ 1000000000) (hB : B ≤ wr.heap.size) (hbel : Below B w0 wr)
    (h : ∀ v' w', w'.ownsRow B 5 1 v' (pre ++ [c]).length (bs (pre ++ [c])) → Below B w0 w' → B ≤ w'.heap.size → wpList Try.prog ops Q rest (a.put o.dst v') w') :
    wpList Try.prog ops Q (o :: rest) a (wr.alloc (.cells #[.int .u8 n] 5)) := by
  obtain ⟨i0, hi, hz0, hz1, hz2⟩ := info_parts Try.info5
  subst hn
  refine wpList_append_own _ hgd s x 68 ho B 5 i0 (.int .u8 0) 1 1 Try.underlying68 hi hz0 hz1 hz2 rfl (by decide) v pre.length (bs pre) hs (hown.alloc _) ⟨wr.heap.size, 0, none⟩ 1 1 [.int .u8 (c.toNat : Int)] hx rfl (cell_one_new _ _ _) ?_ ?_ ?_ ?_ ?_
  · intro u hu; simp at hu; subst hu; rfl
  · unfold maxLen; omega
  · omega
  · simp; omega
  · intro v' w' h1 h2 h3
    have hb' : Below B w0 w' := (hbel.alloc hB _).grown h2 (by simp; omega) (fun k hk => (hown.lt k hk).1)
    refine h v' w' ?_ hb' (Nat.le_trans hB (by have := h2.size; simp at this; omega))
    rw [bs_snoc]; simpa using h1
/-- the value of a row that the call owns is a slice -/
theorem own_slice {w : World} {B e z n : Nat} {v : Value} {xs : List Value} (h : w.ownsRow B e z v n xs) : ∃ ao cap, v = .slice ao n cap := by
  rcases h.2 with ⟨rfl, rfl⟩ | ⟨g, cap, cur, rfl, _⟩
  · exact ⟨none, 0, rfl⟩
  · exact ⟨_, cap, rfl⟩
/-- the last byte of such a row -/
theorem own_last {w : World} {B n cap : Nat} {ao : Option Addr} {pre : List UInt8} {c : UInt8} (h : w.ownsRow B 5 1 (.slice ao n cap) pre.length (bs pre)) (hn : n = pre.length) (hc : pre.getLast? = some c) :
    ∃ g, ao = some ⟨g, 0, none⟩ ∧ w.cell? ⟨g, n - 1, none⟩ = some (.int .u8 (c.toNat : Int)) := by
  have h0 : 0 < pre.length := by
    rcases pre with _ | ⟨x, l⟩
    · simp at hc
    · simp
  obtain ⟨g, cp, hv, _, _⟩ := h.form h0
  have e : ao = some ⟨g, 0, none⟩ := by injection hv
  subst e
  refine ⟨g, rfl, ?_⟩
  have := h.cells (g := g) rfl (n - 1) (.int .u8 (c.toNat : Int)) (by
    rw [bs, List.getElem?_map, hn, ← List.getLast?_eq_getElem?, hc]; rfl)
  rw [add_plain] at this
  exact this
theorem ret_str {a b : ByteArray} (h : a = b) : Ending.returned (.string a) = .returned (.string b) := by rw [h]
theorem size_len (s : ByteArray) : s.data.toList.length = s.size := by simp
end Go.Proofs.Ytlgafmgohinkbaa
/- Norm: what the texts of the program and of the specification return. -/
namespace Go.Proofs.Ytlgafmgohinkbaa
open Go.RowKit

set_option maxHeartbeats 400000 in
theorem isPrintable_any (s : ByteArray) (w : World) (hs : s.size ≤ maxLen) :
    Calls Try.prog 227 #[.string s] w fun e w' => e = .returned (.bool (plainB s.data.toList)) ∧ w = w' := by
  unfold maxLen at hs
  go_enter Try.func227, Try.ntmps227
  go_wp2
  go_loop [6] (fun i => ∃ k : Nat, k ≤ s.size ∧ i = .int .i64 k ∧ plainB (s.data.toList.take k) = true) (fun i => s.size - (intOf i).toNat)
  case atStart => exact ⟨0, Nat.zero_le _, rfl, rfl⟩
  case round =>
    obtain ⟨k, hk, rfl, ha⟩ := hrel
    have Ha := Lib.hid ha; clear ha
    by_cases hlt : k < s.size
    · have hts := Lib.hid (take_snoc s k hlt)
      by_cases hp : 32 ≤ (s[k].toNat : Int) ∧ (s[k].toNat : Int) ≤ 126
      · obtain ⟨c1, c2⟩ := hp
        have HT : Hid (plainB (s.data.toList.take (k + 1)) = true) := Lib.hid (by rw [hts.out, plainB_snoc, Ha.out]; simp; omega)
        go_wp2
        go_round
        case rel => exact ⟨k + 1, by omega, by go_num, HT.out⟩
        case measure => simp [intOf]; omega
      · have HF := Lib.hid (plainB_false s k hlt hp)
        by_cases c1 : 32 ≤ (s[k].toNat : Int)
        · have c2 : ¬ (s[k].toNat : Int) ≤ 126 := by omega
          clear hp
          go_wp2
          go_ret
          exact ⟨ret_bool HF.out.symm, rfl⟩
        · clear hp
          go_wp2
          go_ret
          exact ⟨ret_bool HF.out.symm, rfl⟩
    · have e : s.data.toList.take k = s.data.toList := List.take_of_length_le (by simp; omega)
      have HT : Hid (plainB s.data.toList = true) := Lib.hid (by rw [← e]; exact Ha.out)
      clear e
      go_wp2
      go_ret
      exact ⟨ret_bool HT.out.symm, rfl⟩
set_option maxHeartbeats 400000 in
theorem l02Plain_any (s : ByteArray) (w : World) (hs : s.size ≤ maxLen) :
    Calls Try.prog 180 #[.string s] w fun e w' => e = .returned (.bool (plainB s.data.toList)) ∧ w = w' := by
  unfold maxLen at hs
  go_enter Try.func180, Try.ntmps180
  go_wp2
  go_loop [3] (fun i => ∃ k : Nat, k ≤ s.size ∧ i = .int .i64 k ∧ plainB (s.data.toList.take k) = true) (fun i => s.size - (intOf i).toNat)
  case atStart => exact ⟨0, Nat.zero_le _, rfl, rfl⟩
  case round =>
    obtain ⟨k, hk, rfl, ha⟩ := hrel
    have Ha := Lib.hid ha; clear ha
    by_cases hlt : k < s.size
    · have hts := Lib.hid (take_snoc s k hlt)
      by_cases hp : 32 ≤ (s[k].toNat : Int) ∧ (s[k].toNat : Int) ≤ 126
      · obtain ⟨c1, c2⟩ := hp
        have HT : Hid (plainB (s.data.toList.take (k + 1)) = true) := Lib.hid (by rw [hts.out, plainB_snoc, Ha.out]; simp; omega)
        go_wp2
        go_round
        case rel => exact ⟨k + 1, by omega, by go_num, HT.out⟩
        case measure => simp [intOf]; omega
      · have HF := Lib.hid (plainB_false s k hlt hp)
        by_cases c1 : 32 ≤ (s[k].toNat : Int)
        · have c2 : ¬ (s[k].toNat : Int) ≤ 126 := by omega
          clear hp
          go_wp2
          go_ret
          exact ⟨ret_bool HF.out.symm, rfl⟩
        · clear hp
          go_wp2
          go_ret
          exact ⟨ret_bool HF.out.symm, rfl⟩
    · have e : s.data.toList.take k = s.data.toList := List.take_of_length_le (by simp; omega)
      have HT : Hid (plainB s.data.toList = true) := Lib.hid (by rw [← e]; exact Ha.out)
      clear e
      go_wp2
      go_ret
      exact ⟨ret_bool HT.out.symm, rfl⟩

theorem ret_int' {k : IntKind} {a b : Int} (h : a = b) : Ending.returned (.int k a) = .returned (.int k b) := by rw [h]
set_option maxHeartbeats 400000 in
theorem lowerByte_any (c : UInt8) (w : World) :
    Calls Try.prog 228 #[.int .u8 (c.toNat : Int)] w fun e w' => e = .returned (.int .u8 ((low c).toNat : Int)) ∧ w = w' := by
  by_cases h : 65 ≤ c.toNat ∧ c.toNat ≤ 90
  · have H := Lib.hid (low_in c h)
    have h1 : 65 ≤ (c.toNat : Int) := by omega
    have h2 : (c.toNat : Int) ≤ 90 := by omega
    clear h
    go_enter Try.func228, Try.ntmps228
    go_wp2
    go_ret
    exact ⟨ret_int' (by rw [H.out]; omega), rfl⟩
  · have H := Lib.hid (low_out c h)
    by_cases h1 : 65 ≤ (c.toNat : Int)
    · have h2 : ¬ (c.toNat : Int) ≤ 90 := by omega
      clear h
      go_enter Try.func228, Try.ntmps228
      go_wp2
      go_ret
      exact ⟨ret_int' (by rw [H.out]), rfl⟩
    · clear h
      go_enter Try.func228, Try.ntmps228
      go_wp2
      go_ret
      exact ⟨ret_int' (by rw [H.out]), rfl⟩
end Go.Proofs.Ytlgafmgohinkbaa
/- Norm: what the specification's text returns. -/
namespace Go.Proofs.Ytlgafmgohinkbaa
open Go.RowKit

theorem last_some {pre : List UInt8} (h : pre ≠ []) : ∃ c, pre.getLast? = some c := ⟨pre.getLast h, List.getLast?_eq_some_getLast h⟩
theorem Try.elem68 : Try.prog.elem 68 = 5 := by kernel_rfl
/-- the row without its last byte -/
theorem cut_last (W : World) (g n cap : Nat) (hn : 0 < n) (hc : n ≤ cap) :
    (Instr.slice 68 (.slice (some ⟨g, 0, none⟩) n cap) none (some (.int .i64 ((n : Int) - 1))) none).run Try.prog W = .ok (.slice (some ⟨g, 0, none⟩) (n - 1) cap) W := by
  rw [run_slice_h W 68 (some ⟨g, 0, none⟩) n cap (by rw [Try.elem68]; exact Try.underlying68) .i64 ((n : Int) - 1) (by omega) (by omega), Try.elem68, Try.size5]
  have e : ((n : Int) - 1).toNat = n - 1 := by omega
  simp [Result.andThen, sliced, e]
  intro _; exact add_plain g 0
theorem own_cap {w : World} {B e z n m cap : Nat} {ao : Option Addr} {xs : List Value} (h : w.ownsRow B e z (.slice ao m cap) n xs) : n ≤ cap := by
  rcases h.2 with ⟨h, h'⟩ | ⟨_, _, _, h, _, _, h', _⟩
  · omega
  · injection h with _ _ h; omega
/-- what is known at the head of a round of Norm -/
def NormAt (s : ByteArray) (w : World) (v i : Value) (wr : World) (k : Nat) : Prop :=
  k ≤ s.size ∧ i = .int .i64 k ∧ wr.ownsRow w.heap.size 5 1 v (nfold (s.data.toList.take k)).length (bs (nfold (s.data.toList.take k))) ∧ Below w.heap.size w wr
theorem nat_of_u8 {c : UInt8} {n : Nat} (h : (c.toNat : Int) = n) (hn : n < 256) : c = UInt8.ofNat n := by
  apply UInt8.toNat_inj.1
  simp; omega
theorem nfold_take (s : ByteArray) (k : Nat) (h : k < s.size) : nfold (s.data.toList.take (k + 1)) = nstep (nfold (s.data.toList.take k)) s[k] := by rw [take_snoc s k h, nfold_snoc]
theorem nfold_take_len (s : ByteArray) (k : Nat) (hs : s.size ≤ 100) : (nfold (s.data.toList.take k)).length ≤ 100 := by
  refine Nat.le_trans (nfold_len _) ?_
  rw [List.length_take, size_len]; omega

set_option maxRecDepth 100000 in
set_option maxHeartbeats 1000000 in
theorem SpecNorm_in (s : ByteArray) (w : World) (hs : s.size ≤ 100) (hp : plainB s.data.toList = true) :
    Calls Try.prog 138 #[.string s] w fun e w' => e = .returned (.string (normS s)) ∧ Below w.heap.size w w' := by
  have HP := Lib.hid hp
  have hm : s.size ≤ maxLen := by unfold maxLen; omega
  go_enter Try.func138, Try.ntmps138
  go_wp2_with (first | (go_at_call 180; refine (l02Plain_any _ _ hm).mono ?_; rintro e w' ⟨rfl, rfl⟩))
  clear hp
  go_loopw [3, 4] (fun v i wr => ∃ k : Nat, NormAt s w v i wr k) (fun _ i _ => s.size - (intOf i).toNat)
  case atStart => exact ⟨0, Nat.zero_le _, rfl, World.ownsRow_made _ _ 0 (Nat.le_refl _) (by unfold maxLen; omega) rfl, (Below.refl _ _).alloc (Nat.le_refl _) _⟩
  case round =>
    obtain ⟨k, hk, rfl, hown, hbel⟩ := hrel
    have hlen := nfold_take_len s k hs
    obtain ⟨ao, cap, rfl⟩ := own_slice hown
    have hsz := hbel.size
    by_cases hlt : k < s.size
    · have HN := Lib.hid (nfold_take s k hlt)
      generalize nfold (s.data.toList.take k) = pre at *
      by_cases hcap : 65 ≤ (s[k].toNat : Int) ∧ (s[k].toNat : Int) ≤ 90
      · obtain ⟨c1, c2⟩ := hcap
        have hlow := low_in s[k] (by omega)
        have HE : Hid (nfold (s.data.toList.take (k + 1)) = pre ++ [low s[k]]) := Lib.hid (by
          rw [HN.out]; exact nstep_add (fun h => by have := congrArg UInt8.toNat h.1; simp at this; omega))
        have HL := Lib.hid hlow.symm; clear hlow
        go_wp2_with (first | (at_builtin; refine append_byte w.heap.size rfl _ _ rfl _ pre rfl hown (low s[k]) _ HL.out rfl (by omega) hsz hbel ?_; intro v' w1 hown' hbel' hsz'))
        go_roundw
        case rel => exact ⟨k + 1, by omega, by go_num, by rw [HE.out]; exact hown', hbel'⟩
        case measure => simp [intOf]; omega
      · have HL := Lib.hid (low_out s[k] (by omega))
        by_cases hsp : (s[k].toNat : Int) = 32
        · have hb1 : ((s[k].toNat : Int) == 32) = true := by rw [hsp]; rfl
          have hb2 : ¬ 65 ≤ (s[k].toNat : Int) := by omega
          have HS := Lib.hid (nat_of_u8 (n := 32) hsp (by omega))
          clear hcap hsp
          by_cases hne : pre = []
          · subst hne
            have HE : Hid (nfold (s.data.toList.take (k + 1)) = []) := Lib.hid (by rw [HN.out]; exact nstep_skip HS.out (.inl rfl))
            have hb3 : (([] : List UInt8).length : Int) = 0 := rfl
            rw [List.length_nil] at hown ⊢
            go_wp2
            go_roundw
            case rel => exact ⟨k + 1, by omega, by go_num, by rw [HE.out]; exact hown, hbel⟩
            case measure => simp [intOf]; omega
          · have h0 : 0 < pre.length := List.length_pos_iff.2 hne
            obtain ⟨d, hd⟩ := last_some hne
            obtain ⟨g, rfl, hcell⟩ := own_last hown rfl hd
            have HD := Lib.hid hd
            have hb3 : ((pre.length : Int) == 0) = false := by rw [beq_eq_false_iff_ne]; omega
            by_cases hds : (d.toNat : Int) = 32
            · have hb4 : ((d.toNat : Int) == 32) = true := by rw [hds]; rfl
              have HE : Hid (nfold (s.data.toList.take (k + 1)) = pre) := Lib.hid (by rw [HN.out]; exact nstep_skip HS.out (.inr (by rw [HD.out, nat_of_u8 (n := 32) hds (by omega)]; rfl)))
              clear hd hds hne
              go_wp2
              go_roundw
              case rel => exact ⟨k + 1, by omega, by go_num, by rw [HE.out]; exact hown, hbel⟩
              case measure => simp [intOf]; omega
            · have hb4 : ((d.toNat : Int) == 32) = false := by rw [beq_eq_false_iff_ne]; exact hds
              have HE : Hid (nfold (s.data.toList.take (k + 1)) = pre ++ [s[k]]) := Lib.hid (by
                rw [HN.out, nstep_add, HL.out]
                rintro ⟨_, h | h⟩
                · exact hne h
                · rw [HD.out] at h; have := Option.some.inj h; subst this; exact hds rfl)
              clear hd hds hne
              go_wp2_with (first | (at_builtin; refine append_byte w.heap.size rfl _ _ rfl _ pre rfl hown s[k] _ rfl rfl (by omega) hsz hbel ?_; intro v' w1 hown' hbel' hsz'))
              go_roundw
              case rel => exact ⟨k + 1, by omega, by go_num, by rw [HE.out]; exact hown', hbel'⟩
              case measure => simp [intOf]; omega
        · have hb1 : ((s[k].toNat : Int) == 32) = false := by rw [beq_eq_false_iff_ne]; exact hsp
          have HE : Hid (nfold (s.data.toList.take (k + 1)) = pre ++ [s[k]]) := Lib.hid (by
            rw [HN.out, nstep_add, HL.out]
            rintro ⟨h, _⟩
            rw [h] at hsp; exact hsp rfl)
          by_cases c1 : 65 ≤ (s[k].toNat : Int)
          · have c2 : ¬ (s[k].toNat : Int) ≤ 90 := by omega
            clear hcap hsp
            go_wp2_with (first | (at_builtin; refine append_byte w.heap.size rfl _ _ rfl _ pre rfl hown s[k] _ rfl rfl (by omega) hsz hbel ?_; intro v' w1 hown' hbel' hsz'))
            go_roundw
            case rel => exact ⟨k + 1, by omega, by go_num, by rw [HE.out]; exact hown', hbel'⟩
            case measure => simp [intOf]; omega
          · clear hcap hsp
            go_wp2_with (first | (at_builtin; refine append_byte w.heap.size rfl _ _ rfl _ pre rfl hown s[k] _ rfl rfl (by omega) hsz hbel ?_; intro v' w1 hown' hbel' hsz'))
            go_roundw
            case rel => exact ⟨k + 1, by omega, by go_num, by rw [HE.out]; exact hown', hbel'⟩
            case measure => simp [intOf]; omega
    · have e : s.data.toList.take k = s.data.toList := List.take_of_length_le (by simp; omega)
      rw [e] at hown hlen ⊢
      have HR : Hid (normS s = ⟨(chop (nfold s.data.toList)).toArray⟩) := Lib.hid (by unfold normS; rw [normL_in (by simpa using hs) HP.out])
      clear e
      generalize nfold s.data.toList = pre at *
      by_cases hne : pre = []
      · subst hne
        have hcv := str_own _ _ _ [] hown
        have HC : Hid (chop [] = []) := Lib.hid rfl
        rw [List.length_nil] at hown hcv ⊢
        go_wp2
        go_ret
        exact ⟨ret_str (by rw [HR.out, HC.out]), hbel⟩
      · have h0 : 0 < pre.length := List.length_pos_iff.2 hne
        obtain ⟨d, hd⟩ := last_some hne
        obtain ⟨g, rfl, hcell⟩ := own_last hown rfl hd
        have HD := Lib.hid hd
        by_cases hds : (d.toNat : Int) = 32
        · have hb4 : ((d.toNat : Int) == 32) = true := by rw [hds]; rfl
          have HC : Hid (chop pre = pre.dropLast) := Lib.hid (by unfold chop; rw [if_pos]; rw [HD.out, nat_of_u8 (n := 32) hds (by omega)]; rfl)
          have hcut := fun W => cut_last W g pre.length cap h0 (own_cap hown)
          have hcv := str22 wr ⟨g, 0, none⟩ cap pre.dropLast (pre.length - 1) (by simp) (fun j hj => by
            rw [List.length_dropLast] at hj
            rw [List.getElem_dropLast]
            exact hown.cells (g := g) rfl j _ (by simp [bs, List.getElem?_eq_getElem (show j < pre.length by omega)]))
          clear hd hds hne
          go_wp2
          go_ret
          exact ⟨ret_str (by rw [HR.out, HC.out]), hbel⟩
        · have hb4 : ((d.toNat : Int) == 32) = false := by rw [beq_eq_false_iff_ne]; exact hds
          have HC : Hid (chop pre = pre) := Lib.hid (by unfold chop; rw [if_neg]; intro h; rw [HD.out] at h; have := Option.some.inj h; subst this; exact hds rfl)
          have hcv := str_own _ _ _ pre hown
          clear hd hds hne
          go_wp2
          go_ret
          exact ⟨ret_str (by rw [HR.out, HC.out]), hbel⟩
end Go.Proofs.Ytlgafmgohinkbaa
/- Norm: what the program's text returns. -/
namespace Go.Proofs.Ytlgafmgohinkbaa
open Go.RowKit

def endsB (l : List UInt8) : Bool := l.getLast? == some 32
theorem extract_list (s : ByteArray) (i j : Nat) : (s.extract i j).data.toList = (s.data.toList.take j).drop i := by
  rw [ByteArray.data_extract, Array.toList_extract]; simp [List.extract, List.drop_take]
theorem ends_last (s : ByteArray) (h : 1 ≤ s.size) : ((s.extract (s.size - 1) s.size).toList == [32]) = endsB s.data.toList := by
  have hl : s.data.toList.length = s.size := size_len s
  rw [Lib.toList_data, extract_list, List.take_of_length_le (by omega)]
  unfold endsB
  have hne : s.data.toList ≠ [] := by intro e; rw [e] at hl; simp at hl; omega
  rw [List.getLast?_eq_some_getLast hne]
  have e : s.data.toList.drop (s.size - 1) = [s.data.toList.getLast hne] := by
    have h2 := List.dropLast_concat_getLast hne
    have h3 : s.data.toList.dropLast.length = s.size - 1 := by rw [List.length_dropLast, hl]
    calc s.data.toList.drop (s.size - 1) = (s.data.toList.dropLast ++ [s.data.toList.getLast hne]).drop (s.size - 1) := by rw [h2]
      _ = _ := by rw [← h3, List.drop_left]
  rw [e]
  simp
set_option maxHeartbeats 400000 in
theorem hasSuffix_any (s : ByteArray) (w : World) (hs : s.size ≤ maxLen) :
    Calls Try.prog 250 #[.string s, .string ⟨#[32]⟩] w fun e w' => e = .returned (.bool (endsB s.data.toList)) ∧ w = w' := by
  unfold maxLen at hs
  by_cases h1 : 1 ≤ s.size
  · have HE := Lib.hid (ends_last s h1)
    go_enter Try.func250, Try.ntmps250
    go_wp2
    go_ret
    exact ⟨ret_bool (by rw [← HE.out]), rfl⟩
  · have HE : Hid (endsB s.data.toList = false) := Lib.hid (by
      have : s.data.toList = [] := List.eq_nil_of_length_eq_zero (by rw [size_len]; omega)
      rw [this]; rfl)
    go_enter Try.func250, Try.ntmps250
    go_wp2
    go_ret
    exact ⟨ret_bool HE.out.symm, rfl⟩
theorem chop_ends (s : ByteArray) (h : endsB s.data.toList = true) : 1 ≤ s.size ∧ (⟨(chop s.data.toList).toArray⟩ : ByteArray) = s.extract 0 (s.size - 1) := by
  have hl := size_len s
  have h' : s.data.toList.getLast? = some 32 := by simpa [endsB] using h
  have h1 : 1 ≤ s.size := by
    rcases hd : s.data.toList with _ | ⟨x, l⟩
    · rw [hd] at h'; simp at h'
    · rw [hd] at hl; simp at hl; omega
  refine ⟨h1, ?_⟩
  apply ByteArray.ext
  apply Array.toList_inj.1
  rw [extract_list]
  unfold chop
  rw [if_pos h', List.dropLast_eq_take, hl]; simp
theorem chop_not (s : ByteArray) (h : endsB s.data.toList = false) : (⟨(chop s.data.toList).toArray⟩ : ByteArray) = s := by
  have h' : ¬ s.data.toList.getLast? = some 32 := by intro e; simp [endsB, e] at h
  unfold chop
  rw [if_neg h']
set_option maxHeartbeats 400000 in
theorem trimIn_any (s : ByteArray) (w : World) (hs : s.size ≤ maxLen) :
    Calls Try.prog 242 #[.string s, .string ⟨#[32]⟩] w fun e w' => e = .returned (.string ⟨(chop s.data.toList).toArray⟩) ∧ w = w' := by
  have hM := hs
  unfold maxLen at hs
  cases hb : endsB s.data.toList
  · have HE := Lib.hid (chop_not s hb)
    go_enter Try.func242, Try.ntmps242
    go_wp2_with (first | (go_at_call 250; refine (hasSuffix_any _ _ hM).mono ?_; rintro e w' ⟨rfl, rfl⟩))
    go_ret
    exact ⟨ret_str (by rw [HE.out]), rfl⟩
  · obtain ⟨h1, hc⟩ := chop_ends s hb
    have HE := Lib.hid hc; clear hc
    go_enter Try.func242, Try.ntmps242
    go_wp2_with (first | (go_at_call 250; refine (hasSuffix_any _ _ hM).mono ?_; rintro e w' ⟨rfl, rfl⟩))
    go_ret
    exact ⟨ret_str (by rw [HE.out]), rfl⟩
set_option maxHeartbeats 400000 in
theorem trim_any (s : ByteArray) (w : World) (hs : s.size ≤ maxLen) :
    Calls Try.prog 229 #[.string s, .string ⟨#[32]⟩] w fun e w' => e = .returned (.string ⟨(chop s.data.toList).toArray⟩) ∧ w = w' := by
  go_enter Try.func229, Try.ntmps229
  go_wp2_with (first | (go_at_call 242; refine (trimIn_any _ _ hs).mono ?_; rintro e w' ⟨rfl, rfl⟩))
  go_ret
  exact ⟨rfl, rfl⟩

set_option maxRecDepth 100000 in
set_option maxHeartbeats 1000000 in
theorem Norm_in (s : ByteArray) (w : World) (hs : s.size ≤ 100) (hp : plainB s.data.toList = true) :
    Calls Try.prog 188 #[.string s] w fun e w' => e = .returned (.string (normS s)) ∧ Below w.heap.size w w' := by
  have HP := Lib.hid hp
  have hm : s.size ≤ maxLen := by unfold maxLen; omega
  go_enter Try.func188, Try.ntmps188
  go_wp2_with (first | (go_at_call 227; refine (isPrintable_any _ _ hm).mono ?_; rintro e w' ⟨rfl, rfl⟩))
  clear hp
  go_loopw [3, 16] (fun v i wr => ∃ k : Nat, NormAt s w v i wr k) (fun _ i _ => s.size - (intOf i).toNat)
  case atStart => exact ⟨0, Nat.zero_le _, rfl, ⟨rfl, .inl ⟨rfl, rfl⟩⟩, Below.refl _ _⟩
  case round =>
    obtain ⟨k, hk, rfl, hown, hbel⟩ := hrel
    have hlen := nfold_take_len s k hs
    obtain ⟨ao, cap, rfl⟩ := own_slice hown
    have hsz := hbel.size
    by_cases hlt : k < s.size
    · have HN := Lib.hid (nfold_take s k hlt)
      generalize nfold (s.data.toList.take k) = pre at *
      by_cases hsp : (s[k].toNat : Int) = 32
      · have hb1 : ((s[k].toNat : Int) == 32) = true := by rw [hsp]; rfl
        have HS := Lib.hid (nat_of_u8 (n := 32) hsp (by omega))
        clear hsp
        by_cases hne : pre = []
        · subst hne
          have HE : Hid (nfold (s.data.toList.take (k + 1)) = []) := Lib.hid (by rw [HN.out]; exact nstep_skip HS.out (.inl rfl))
          have hb3 : (([] : List UInt8).length : Int) = 0 := rfl
          rw [List.length_nil] at hown ⊢
          go_wp2
          go_roundw
          case rel => exact ⟨k + 1, by omega, by go_num, by rw [HE.out]; exact hown, hbel⟩
          case measure => simp [intOf]; omega
        · have h0 : 0 < pre.length := List.length_pos_iff.2 hne
          obtain ⟨d, hd⟩ := last_some hne
          obtain ⟨g, rfl, hcell⟩ := own_last hown rfl hd
          have HD := Lib.hid hd
          have hb3 : ((pre.length : Int) == 0) = false := by rw [beq_eq_false_iff_ne]; omega
          by_cases hds : (d.toNat : Int) = 32
          · have hb4 : ((d.toNat : Int) == 32) = true := by rw [hds]; rfl
            have HE : Hid (nfold (s.data.toList.take (k + 1)) = pre) := Lib.hid (by rw [HN.out]; exact nstep_skip HS.out (.inr (by rw [HD.out, nat_of_u8 (n := 32) hds (by omega)]; rfl)))
            clear hd hds hne
            go_wp2
            go_roundw
            case rel => exact ⟨k + 1, by omega, by go_num, by rw [HE.out]; exact hown, hbel⟩
            case measure => simp [intOf]; omega
          · have hb4 : ((d.toNat : Int) == 32) = false := by rw [beq_eq_false_iff_ne]; exact hds
            have HE : Hid (nfold (s.data.toList.take (k + 1)) = pre ++ [low s[k]]) := Lib.hid (by
              rw [HN.out, nstep_add]
              rintro ⟨_, h | h⟩
              · exact hne h
              · rw [HD.out] at h; have := Option.some.inj h; subst this; exact hds rfl)
            clear hd hds hne
            go_wp2_with (first | (go_at_call 228; refine (lowerByte_any _ _).mono ?_; rintro e w' ⟨rfl, rfl⟩) | (at_builtin; refine append_byte w.heap.size rfl _ _ rfl _ pre rfl hown (low s[k]) _ rfl rfl (by omega) hsz hbel ?_; intro v' w1 hown' hbel' hsz'))
            go_roundw
            case rel => exact ⟨k + 1, by omega, by go_num, by rw [HE.out]; exact hown', hbel'⟩
            case measure => simp [intOf]; omega
      · have hb1 : ((s[k].toNat : Int) == 32) = false := by rw [beq_eq_false_iff_ne]; exact hsp
        have HE : Hid (nfold (s.data.toList.take (k + 1)) = pre ++ [low s[k]]) := Lib.hid (by
          rw [HN.out, nstep_add]
          rintro ⟨h, _⟩
          rw [h] at hsp; exact hsp rfl)
        clear hsp
        go_wp2_with (first | (go_at_call 228; refine (lowerByte_any _ _).mono ?_; rintro e w' ⟨rfl, rfl⟩) | (at_builtin; refine append_byte w.heap.size rfl _ _ rfl _ pre rfl hown (low s[k]) _ rfl rfl (by omega) hsz hbel ?_; intro v' w1 hown' hbel' hsz'))
        go_roundw
        case rel => exact ⟨k + 1, by omega, by go_num, by rw [HE.out]; exact hown', hbel'⟩
        case measure => simp [intOf]; omega
    · have e : s.data.toList.take k = s.data.toList := List.take_of_length_le (by simp; omega)
      rw [e] at hown hlen ⊢
      have HR : Hid (normS s = ⟨(chop (nfold s.data.toList)).toArray⟩) := Lib.hid (by unfold normS; rw [normL_in (by simpa using hs) HP.out])
      clear e
      generalize nfold s.data.toList = pre at *
      have hcv := str_own _ _ _ _ hown
      have hpm : (⟨pre.toArray⟩ : ByteArray).size ≤ maxLen := by unfold maxLen; simp [ByteArray.size]; omega
      have HX := Lib.hid (fun w => trim_any ⟨pre.toArray⟩ w hpm)
      go_wp2_with (first | (go_at_call 229; refine (HX.out _).mono ?_; rintro e w' ⟨rfl, rfl⟩))
      go_ret
      exact ⟨ret_str HR.out.symm, hbel⟩
theorem normS_long (s : ByteArray) (h : ¬ s.size ≤ 100) : normS s = ByteArray.empty := by unfold normS; rw [normL_long (by rw [size_len]; exact h)]; rfl
theorem normS_odd (s : ByteArray) (h : plainB s.data.toList = false) : normS s = ByteArray.empty := by unfold normS; rw [normL_odd h]; rfl
set_option maxHeartbeats 400000 in
theorem Norm_any (s : ByteArray) (w : World) (hs : s.size ≤ maxLen) :
    Calls Try.prog 188 #[.string s] w fun e w' => e = .returned (.string (normS s)) ∧ Below w.heap.size w w' := by
  by_cases h1 : s.size ≤ 100
  · cases hp : plainB s.data.toList
    · have HR := Lib.hid (normS_odd s hp)
      go_enter Try.func188, Try.ntmps188
      go_wp2_with (first | (go_at_call 227; refine (isPrintable_any _ _ hs).mono ?_; rintro e w' ⟨rfl, rfl⟩))
      go_ret
      exact ⟨ret_str HR.out.symm, Below.refl _ _⟩
    · exact Norm_in s w h1 hp
  · have HR := Lib.hid (normS_long s h1)
    have h1' : 100 < s.size := by omega
    clear h1
    unfold maxLen at hs
    go_enter Try.func188, Try.ntmps188
    go_wp2
    go_ret
    exact ⟨ret_str HR.out.symm, Below.refl _ _⟩
set_option maxHeartbeats 400000 in
theorem SpecNorm_any (s : ByteArray) (w : World) (hs : s.size ≤ maxLen) :
    Calls Try.prog 138 #[.string s] w fun e w' => e = .returned (.string (normS s)) ∧ Below w.heap.size w w' := by
  by_cases h1 : s.size ≤ 100
  · cases hp : plainB s.data.toList
    · have HR := Lib.hid (normS_odd s hp)
      go_enter Try.func138, Try.ntmps138
      go_wp2_with (first | (go_at_call 180; refine (l02Plain_any _ _ hs).mono ?_; rintro e w' ⟨rfl, rfl⟩))
      go_ret
      exact ⟨ret_str HR.out.symm, Below.refl _ _⟩
    · exact SpecNorm_in s w h1 hp
  · have HR := Lib.hid (normS_long s h1)
    have h1' : 100 < s.size := by omega
    clear h1
    unfold maxLen at hs
    go_enter Try.func138, Try.ntmps138
    go_wp2
    go_ret
    exact ⟨ret_str HR.out.symm, Below.refl _ _⟩
end Go.Proofs.Ytlgafmgohinkbaa
/- What the specification's text of NameRight returns. -/
namespace Go.Proofs.Ytlgafmgohinkbaa
open Go.RowKit

/-- the first k bytes are as they must be -/
def goodTo (s : ByteArray) (k : Nat) : Bool := allB (s.data.toList.take k) && (decide (k = 0) || letB ((s.data.toList.getD 0 0).toNat : Int))

theorem nameB_of_let {c : Int} (h : letB c = true) : nameB c = true := by simp [nameB, h]

set_option maxHeartbeats 1000000 in
theorem SpecNameRight_any (s : ByteArray) (w : World) (hs : s.size ≤ maxLen) :
    Calls Try.prog 58 #[.string s] w fun e w' => e = .returned (.bool (nmL s)) ∧ w = w' := by
  unfold maxLen at hs
  by_cases h1 : s.size < 1
  · have hf : nmL s = false := by have : ¬ 1 ≤ s.size := by omega
                                  simp [nmL, this]
    have Hf := Lib.hid hf; clear hf
    go_enter Try.func58, Try.ntmps58
    go_wp2
    go_ret
    exact ⟨ret_bool Hf.out.symm, rfl⟩
  by_cases h2 : 20 < s.size
  · have hf : nmL s = false := by have : ¬ s.size ≤ 20 := by omega
                                  simp [nmL, this]
    have Hf := Lib.hid hf; clear hf
    go_enter Try.func58, Try.ntmps58
    go_wp2
    go_ret
    exact ⟨ret_bool Hf.out.symm, rfl⟩
  have h0 : 0 < s.size := by omega
  have Hg := Lib.hid (getD_zero s h0)
  go_enter Try.func58, Try.ntmps58
  go_wp2
  go_loop [3] (fun i => ∃ k : Nat, k ≤ s.size ∧ i = .int .i64 k ∧ allB (s.data.toList.take k) = true ∧ (0 < k → letB ((s.data.toList.getD 0 0).toNat : Int) = true)) (fun i => s.size - (intOf i).toNat)
  case atStart => exact ⟨0, Nat.zero_le _, rfl, rfl, fun h => absurd h (by omega)⟩
  case round =>
    obtain ⟨k, hk, rfl, ha, hl⟩ := hrel
    have Ha := Lib.hid ha; clear ha
    have Hl := Lib.hid hl; clear hl
    by_cases hlt : k < s.size
    · have hts := Lib.hid (take_snoc s k hlt)
      by_cases hL : 97 ≤ (s[k].toNat : Int) ∧ (s[k].toNat : Int) ≤ 122
      · obtain ⟨c1, c2⟩ := hL
        have hb : letB (s[k].toNat : Int) = true := by simp [letB]; omega
        have hT : allB (s.data.toList.take (k + 1)) = true := by rw [hts.out, allB_snoc, Ha.out, nameB_of_let hb]; rfl
        have HT := Lib.hid hT; clear hT
        have hZ : letB ((s.data.toList.getD 0 0).toNat : Int) = true := by
          by_cases e : k = 0
          · subst e; rw [Hg.out]; exact hb
          · exact Hl.out (by omega)
        have HZ := Lib.hid hZ; clear hZ hb
        go_wp2
        go_round
        case rel => exact ⟨k + 1, by omega, by go_num, HT.out, fun _ => HZ.out⟩
        case measure => simp [intOf]; omega
      · have hb : letB (s[k].toNat : Int) = false := by simp [letB]; omega
        by_cases e : k = 0
        · subst e
          have hF : nmL s = false := by simp only [nmL, Hg.out, hb]; simp
          have HF := Lib.hid hF; clear hF hb
          by_cases c1 : 97 ≤ (s[0].toNat : Int)
          · have c2 : ¬ (s[0].toNat : Int) ≤ 122 := by omega
            clear hL
            go_wp2
            go_ret
            exact ⟨ret_bool HF.out.symm, rfl⟩
          · clear hL
            go_wp2
            go_ret
            exact ⟨ret_bool HF.out.symm, rfl⟩
        · have hz : ((k : Int) == 0) = false := by rw [beq_eq_false_iff_ne]; omega
          by_cases hD : 48 ≤ (s[k].toNat : Int) ∧ (s[k].toNat : Int) ≤ 57
          · obtain ⟨c1, c2⟩ := hD
            have c3 : ¬ 97 ≤ (s[k].toNat : Int) := by omega
            have hb : nameB (s[k].toNat : Int) = true := by simp [nameB, digB]; omega
            have hT : allB (s.data.toList.take (k + 1)) = true := by rw [hts.out, allB_snoc, Ha.out, hb]; rfl
            have HT := Lib.hid hT; clear hT hL hb
            go_wp2
            go_round
            case rel => exact ⟨k + 1, by omega, by go_num, HT.out, fun _ => Hl.out (by omega)⟩
            case measure => simp [intOf]; omega
          · by_cases hU : (s[k].toNat : Int) = 95
            · have c3 : ¬ 97 ≤ (s[k].toNat : Int) := by omega
              have c1 : 48 ≤ (s[k].toNat : Int) := by omega
              have c2 : ¬ (s[k].toNat : Int) ≤ 57 := by omega
              have hb : nameB (s[k].toNat : Int) = true := by simp [nameB]; omega
              have hT : allB (s.data.toList.take (k + 1)) = true := by rw [hts.out, allB_snoc, Ha.out, hb]; rfl
              have hu : ((s[k].toNat : Int) != 95) = false := by rw [hU]; rfl
              have HT := Lib.hid hT; clear hT hL hb hD hU
              go_wp2
              go_round
              case rel => exact ⟨k + 1, by omega, by go_num, HT.out, fun _ => Hl.out (by omega)⟩
              case measure => simp [intOf]; omega
            · have hb : nameB (s[k].toNat : Int) = false := by simp [nameB, letB, digB]; omega
              have hF : nmL s = false := by simp only [nmL, allB_false s k hlt hb]; simp
              have hu : ((s[k].toNat : Int) != 95) = true := by rw [bne_iff_ne]; exact hU
              have HF := Lib.hid hF; clear hF hb
              by_cases c1 : 97 ≤ (s[k].toNat : Int)
              · have c2 : ¬ (s[k].toNat : Int) ≤ 122 := by omega
                have c3 : 48 ≤ (s[k].toNat : Int) := by omega
                have c4 : ¬ (s[k].toNat : Int) ≤ 57 := by omega
                clear hL hD hU
                go_wp2
                go_ret
                exact ⟨ret_bool HF.out.symm, rfl⟩
              · by_cases c3 : 48 ≤ (s[k].toNat : Int)
                · have c4 : ¬ (s[k].toNat : Int) ≤ 57 := by omega
                  clear hL hD hU
                  go_wp2
                  go_ret
                  exact ⟨ret_bool HF.out.symm, rfl⟩
                · clear hL hD hU
                  go_wp2
                  go_ret
                  exact ⟨ret_bool HF.out.symm, rfl⟩
    · go_wp2
      go_ret
      refine ⟨ret_bool ?_, rfl⟩
      have e : s.data.toList.take k = s.data.toList := List.take_of_length_le (by simp; omega)
      have a1 := Ha.out
      rw [e] at a1
      have a2 := Hl.out (by omega)
      simp only [nmL, a1, a2]; simp; omega
end Go.Proofs.Ytlgafmgohinkbaa
/- Distinguished names: lists of pairs, and where they lie. -/
namespace Go.Proofs.Ytlgafmgohinkbaa
open Go.RowKit

abbrev RdnL := List (ByteArray × ByteArray)
/-- a value whose normalized form is not empty -/
def valB (s : ByteArray) : Bool := decide (1 ≤ s.size) && decide (s.size ≤ 40) && !(normS s).toList.isEmpty
def rdnB (r : ByteArray × ByteArray) : Bool := nmL r.1 && valB r.2
def dnB (d : RdnL) : Bool := decide (d.length ≤ 6) && d.all rdnB
/-- all its strings are strings of Go -/
def Fits (d : RdnL) : Prop := d.length ≤ 1048576 ∧ ∀ r ∈ d, r.1.size ≤ 1048576 ∧ r.2.size ≤ 1048576
/-- a name lies behind a slice -/
def DnAt (w : World) (ao : Option Addr) (d : RdnL) : Prop :=
  d = [] ∨ ∃ b off, ao = some ⟨b, off, none⟩ ∧ b < w.heap.size ∧ ∀ i (h : i < d.length), w.cell? ⟨b, off + i * 2, none⟩ = some (.string d[i].1) ∧ w.cell? ⟨b, off + i * 2 + 1, none⟩ = some (.string d[i].2)
theorem DnAt.below {w w' : World} {ao : Option Addr} {d : RdnL} (h : DnAt w ao d) (hb : Below w.heap.size w w') : DnAt w' ao d := by
  rcases h with h | ⟨b, off, h1, h2, h3⟩
  · exact .inl h
  · exact .inr ⟨b, off, h1, Nat.lt_of_lt_of_le h2 hb.size, fun i hi => ⟨(hb.cell (p := ⟨b, off + i * 2, none⟩) h2).trans (h3 i hi).1, (hb.cell (p := ⟨b, off + i * 2 + 1, none⟩) h2).trans (h3 i hi).2⟩⟩
theorem DnAt.at {w : World} {ao : Option Addr} {d : RdnL} (h : DnAt w ao d) {k : Nat} (hk : k < d.length) :
    ∃ b off, ao = some ⟨b, off, none⟩ ∧ b < w.heap.size ∧ w.cell? ⟨b, off + k * 2, none⟩ = some (.string d[k].1) ∧ w.cell? ⟨b, off + k * 2 + 1, none⟩ = some (.string d[k].2) := by
  rcases h with h | ⟨b, off, h1, h2, h3⟩
  · subst h; simp at hk
  · exact ⟨b, off, h1, h2, h3 k hk⟩
theorem Fits.at {d : RdnL} (h : Fits d) {k : Nat} (hk : k < d.length) : d[k].1.size ≤ maxLen ∧ d[k].2.size ≤ maxLen := by
  have := h.2 _ (List.getElem_mem hk); unfold maxLen; omega
theorem all_take {α : Type} (p : α → Bool) (l : List α) (k : Nat) (h : k < l.length) : (l.take (k + 1)).all p = ((l.take k).all p && p l[k]) := by
  rw [List.take_succ_eq_append_getElem h, List.all_append]; simp only [List.all_cons, List.all_nil, Bool.and_true]
theorem all_bad {α : Type} (p : α → Bool) (l : List α) (k : Nat) (h : k < l.length) (hp : p l[k] = false) : l.all p = false := by
  rw [List.all_eq_false]; exact ⟨_, List.getElem_mem h, by simp [hp]⟩
theorem plain_of_norm {s : ByteArray} (h : plainB s.data.toList = false) : (normS s).toList.isEmpty = true := by rw [normS_odd s h, Lib.toList_data]; rfl
end Go.Proofs.Ytlgafmgohinkbaa
