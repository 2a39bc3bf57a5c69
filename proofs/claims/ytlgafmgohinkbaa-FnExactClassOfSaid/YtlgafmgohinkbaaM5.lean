/- Merged texts: Ty, Br, ClBr, Sh2, JoinRF, Own7, CpClass. -/
import Derived.Test.YtlgafmgohinkbaaM4
import Derived.Test.YtlgafmgohinkbaaM1
import Derived.Test.YtlgafmgohinkbaaM3
import Derived.Laws.OwnMore
import Derived.Deep.AppendLies
import Derived.Test.YtlgafmgohinkbaaM2
/- The types of the laws: their shapes. -/
namespace Go.Proofs.Ytlgafmgohinkbaa
open Go.RowKit

theorem str_row {S : Bs} {w : World} {l : List ByteArray} {ao : Option Addr} {n cap k : Nat} (h : SlAt strE S w l (.slice ao n cap)) (hk : k < l.length) :
    ∃ (b off : Nat) (a0 : ByteArray), ao = some ⟨b, off, none⟩ ∧ S b ∧ b < w.heap.size ∧ l[k] = a0 ∧ w.cell? ⟨b, off + k, none⟩ = some (.string a0) := by
  obtain ⟨b, off, cs, e1, e2, e3, hc, ha⟩ := h.row hk
  have ha' : cs = [.string l[k]] := ha
  subst ha'
  have h0 := hc 0 (by simp)
  refine ⟨b, off, l[k], e1, e2, e3, rfl, ?_⟩
  have : off + k * strE.n + 0 = off + k := by show off + k * 1 + 0 = off + k; omega
  rw [this] at h0
  exact h0
theorem txt_own {S : Bs} {w : World} {x : ByteArray} {cs : List Value} (h : strE.Own S w x cs) : ∃ a0 : ByteArray, x = a0 ∧ cs = [.string a0] := ⟨x, rfl, h⟩
abbrev RdnT := ByteArray × ByteArray
abbrev rdnE : Enc (ByteArray × ByteArray) := pairE strE strE
theorem rdn_row {S : Bs} {w : World} {l : List RdnT} {ao : Option Addr} {n cap k : Nat} (h : SlAt rdnE S w l (.slice ao n cap)) (hk : k < l.length) :
    ∃ (b off : Nat) (a0 : ByteArray) (a1 : ByteArray) , ao = some ⟨b, off, none⟩ ∧ S b ∧ b < w.heap.size ∧ l[k] = (a0, a1) ∧ (w.cell? ⟨b, off + k * 2, none⟩ = some (.string a0) ∧ w.cell? ⟨b, off + k * 2 + 1, none⟩ = some (.string a1)) ∧ True := by
  obtain ⟨b, off, cs, e1, e2, e3, hc, ha⟩ := h.row hk
  rcases hx : l[k] with ⟨a0, a1⟩
  rw [hx] at ha
  obtain ⟨c1, d1, rfl, f1, r1⟩ := at_pair ha
  have g2 : _ = [Value.string a0] := f1
  subst g2
  have g3 : _ = [Value.string a1] := r1
  subst g3
  exact ⟨b, off, a0, a1, e1, e2, e3, rfl, ⟨hc 0 (by simp), hc 1 (by simp)⟩, trivial⟩
theorem rdn_atq {S : Bs} {w : World} {x : RdnT} {cs : List Value} (ha : rdnE.At S w x cs) : ∃ (a0 : ByteArray) (a1 : ByteArray) , x = (a0, a1) ∧ cs = [.string a0, .string a1] ∧ True := by
  rcases x with ⟨a0, a1⟩
  obtain ⟨c4, d4, rfl, f4, r4⟩ := at_pair ha
  have g5 : _ = [Value.string a0] := f4
  subst g5
  have g6 : _ = [Value.string a1] := r4
  subst g6
  exact ⟨a0, a1, rfl, by simp, trivial⟩
theorem rdn_own {S : Bs} {w : World} {x : RdnT} {cs : List Value} (h : rdnE.Own S w x cs) :
    ∃ (a0 : ByteArray) (a1 : ByteArray)  , x = (a0, a1) ∧ cs = [.string a0, .string a1] ∧ True := by
  rcases x with ⟨a0, a1⟩
  obtain ⟨c7, d7, A7, B7, rfl, f7, r7, i7, j7, x7⟩ := own_pair h
  have g8 : _ = [Value.string a0] := f7
  subst g8
  have g9 : _ = [Value.string a1] := r7
  subst g9
  exact ⟨a0, a1, rfl, by simp, trivial⟩
theorem rdn_pack {S : Bs} {w : World} (a0 : ByteArray) (a1 : ByteArray)   (h : True) :
    rdnE.Own S w (a0, a1) [.string a0, .string a1] := by
  obtain ⟨_⟩ := h
  exact (pair_own Nil Nil (own_str a0) (own_str a1) (fun _ z => z.elim) (fun _ z => z.elim) (fun _ z y => (by first | exact z.elim | exact y.elim)))
abbrev AttrT := ByteArray × (List ByteArray)
abbrev attrE : Enc (ByteArray × (List ByteArray)) := pairE strE (slE strE)
theorem attr_row {S : Bs} {w : World} {l : List AttrT} {ao : Option Addr} {n cap k : Nat} (h : SlAt attrE S w l (.slice ao n cap)) (hk : k < l.length) :
    ∃ (b off : Nat) (a0 : ByteArray) (a1 : (List ByteArray)) (v1 : Value), ao = some ⟨b, off, none⟩ ∧ S b ∧ b < w.heap.size ∧ l[k] = (a0, a1) ∧ (w.cell? ⟨b, off + k * 2, none⟩ = some (.string a0) ∧ w.cell? ⟨b, off + k * 2 + 1, none⟩ = some (v1)) ∧ SlAt strE S w a1 v1 ∧ True := by
  obtain ⟨b, off, cs, e1, e2, e3, hc, ha⟩ := h.row hk
  rcases hx : l[k] with ⟨a0, a1⟩
  rw [hx] at ha
  obtain ⟨c10, d10, rfl, f10, r10⟩ := at_pair ha
  have g11 : _ = [Value.string a0] := f10
  subst g11
  obtain ⟨v1, rfl, q1⟩ := r10
  exact ⟨b, off, a0, a1, v1, e1, e2, e3, rfl, ⟨hc 0 (by simp), hc 1 (by simp)⟩, q1, trivial⟩
theorem attr_atq {S : Bs} {w : World} {x : AttrT} {cs : List Value} (ha : attrE.At S w x cs) : ∃ (a0 : ByteArray) (a1 : (List ByteArray)) (v1 : Value), x = (a0, a1) ∧ cs = [.string a0, v1] ∧ SlAt strE S w a1 v1 ∧ True := by
  rcases x with ⟨a0, a1⟩
  obtain ⟨c12, d12, rfl, f12, r12⟩ := at_pair ha
  have g13 : _ = [Value.string a0] := f12
  subst g13
  obtain ⟨v1, rfl, q1⟩ := r12
  exact ⟨a0, a1, v1, rfl, by simp, q1, trivial⟩
theorem attr_atp {S : Bs} {w : World} {a0 : ByteArray} {a1 : (List ByteArray)} {v1 : Value} (h : attrE.At S w (a0, a1) [.string a0, v1]) : SlAt strE S w a1 v1 := by
  have h2 := h
  obtain ⟨l, hl⟩ : ∃ l : List Value, l = [.string a0, v1] := ⟨_, rfl⟩
  rw [← hl] at h2
  obtain ⟨c14, d14, rfl, f14, r14⟩ := at_pair h2
  have g15 : _ = [Value.string a0] := f14
  subst g15
  obtain ⟨y1, rfl, q1⟩ := r14
  simp only [List.cons_append, List.nil_append, List.cons.injEq] at hl
  obtain ⟨k0, k1, _⟩ := hl
  subst k1
  exact q1
theorem attr_own {S : Bs} {w : World} {x : AttrT} {cs : List Value} (h : attrE.Own S w x cs) :
    ∃ (a0 : ByteArray) (a1 : (List ByteArray)) (v1 : Value) (S1 : Bs), x = (a0, a1) ∧ cs = [.string a0, v1] ∧ SlOwn strE S1 w a1 v1 ∧ (∀ k, S1 k → S k) ∧ True := by
  rcases x with ⟨a0, a1⟩
  obtain ⟨c16, d16, A16, B16, rfl, f16, r16, i16, j16, x16⟩ := own_pair h
  have g17 : _ = [Value.string a0] := f16
  subst g17
  obtain ⟨v1, rfl, q1⟩ := r16
  obtain ⟨S1, hS1⟩ : ∃ X : Bs, X = B16 := ⟨_, rfl⟩
  rw [← hS1] at q1
  exact ⟨a0, a1, v1, S1, rfl, by simp, q1, fun k z => (j16 k (hS1 ▸ z)), trivial⟩
theorem attr_pack {S : Bs} {w : World} (a0 : ByteArray) (a1 : (List ByteArray)) (v1 : Value) (S1 : Bs) (h : SlOwn strE S1 w a1 v1 ∧ (∀ k, S1 k → S k) ∧ True) :
    attrE.Own S w (a0, a1) [.string a0, v1] := by
  obtain ⟨q1, u1, _⟩ := h
  exact (pair_own Nil S1 (own_str a0) (own_sl q1) (fun _ z => z.elim) (u1) (fun _ z y => (by first | exact z.elim | exact y.elim)))
theorem attr_sl {S : Bs} {w : World} {x : AttrT} {cs : List Value} (h : attrE.Own S w x cs) {a0 : ByteArray} {v1 : Value} (hc : cs = [.string a0, v1]) : (∃ p l j, v1 = .slice p l j) := by
  obtain ⟨y0, y1, z1, Z1, e1, e2, qs⟩ := attr_own h
  subst e2
  simp only [List.cons.injEq] at hc
  obtain ⟨k0, k1, _⟩ := hc
  subst k1
  exact (by obtain ⟨o, c, e⟩ := qs.1.at.sl; exact ⟨o, _, c, e⟩)
abbrev EntryT := (List RdnT) × (List AttrT)
abbrev entryE : Enc ((List RdnT) × (List AttrT)) := pairE (slE rdnE) (slE attrE)
theorem entry_row {S : Bs} {w : World} {l : List EntryT} {ao : Option Addr} {n cap k : Nat} (h : SlAt entryE S w l (.slice ao n cap)) (hk : k < l.length) :
    ∃ (b off : Nat) (a0 : (List RdnT)) (a1 : (List AttrT)) (v0 v1 : Value), ao = some ⟨b, off, none⟩ ∧ S b ∧ b < w.heap.size ∧ l[k] = (a0, a1) ∧ (w.cell? ⟨b, off + k * 2, none⟩ = some (v0) ∧ w.cell? ⟨b, off + k * 2 + 1, none⟩ = some (v1)) ∧ SlAt rdnE S w a0 v0 ∧ SlAt attrE S w a1 v1 ∧ True := by
  obtain ⟨b, off, cs, e1, e2, e3, hc, ha⟩ := h.row hk
  rcases hx : l[k] with ⟨a0, a1⟩
  rw [hx] at ha
  obtain ⟨c18, d18, rfl, f18, r18⟩ := at_pair ha
  obtain ⟨v0, rfl, q0⟩ := f18
  obtain ⟨v1, rfl, q1⟩ := r18
  exact ⟨b, off, a0, a1, v0, v1, e1, e2, e3, rfl, ⟨hc 0 (by simp), hc 1 (by simp)⟩, q0, q1, trivial⟩
theorem entry_atq {S : Bs} {w : World} {x : EntryT} {cs : List Value} (ha : entryE.At S w x cs) : ∃ (a0 : (List RdnT)) (a1 : (List AttrT)) (v0 v1 : Value), x = (a0, a1) ∧ cs = [v0, v1] ∧ SlAt rdnE S w a0 v0 ∧ SlAt attrE S w a1 v1 ∧ True := by
  rcases x with ⟨a0, a1⟩
  obtain ⟨c19, d19, rfl, f19, r19⟩ := at_pair ha
  obtain ⟨v0, rfl, q0⟩ := f19
  obtain ⟨v1, rfl, q1⟩ := r19
  exact ⟨a0, a1, v0, v1, rfl, by simp, q0, q1, trivial⟩
theorem entry_atp {S : Bs} {w : World} {a0 : (List RdnT)} {a1 : (List AttrT)} {v0 v1 : Value} (h : entryE.At S w (a0, a1) [v0, v1]) : SlAt rdnE S w a0 v0 ∧ SlAt attrE S w a1 v1 := by
  have h2 := h
  obtain ⟨l, hl⟩ : ∃ l : List Value, l = [v0, v1] := ⟨_, rfl⟩
  rw [← hl] at h2
  obtain ⟨c20, d20, rfl, f20, r20⟩ := at_pair h2
  obtain ⟨y0, rfl, q0⟩ := f20
  obtain ⟨y1, rfl, q1⟩ := r20
  simp only [List.cons_append, List.nil_append, List.cons.injEq] at hl
  obtain ⟨k0, k1, _⟩ := hl
  subst k0 k1
  exact ⟨q0, q1⟩
theorem entry_own {S : Bs} {w : World} {x : EntryT} {cs : List Value} (h : entryE.Own S w x cs) :
    ∃ (a0 : (List RdnT)) (a1 : (List AttrT)) (v0 v1 : Value) (S0 S1 : Bs), x = (a0, a1) ∧ cs = [v0, v1] ∧ SlOwn rdnE S0 w a0 v0 ∧ (∀ k, S0 k → S k) ∧ SlOwn attrE S1 w a1 v1 ∧ (∀ k, S1 k → S k) ∧ (∀ k, S0 k → ¬ S1 k) ∧ True := by
  rcases x with ⟨a0, a1⟩
  obtain ⟨c21, d21, A21, B21, rfl, f21, r21, i21, j21, x21⟩ := own_pair h
  obtain ⟨v0, rfl, q0⟩ := f21
  obtain ⟨S0, hS0⟩ : ∃ X : Bs, X = A21 := ⟨_, rfl⟩
  rw [← hS0] at q0
  obtain ⟨v1, rfl, q1⟩ := r21
  obtain ⟨S1, hS1⟩ : ∃ X : Bs, X = B21 := ⟨_, rfl⟩
  rw [← hS1] at q1
  exact ⟨a0, a1, v0, v1, S0, S1, rfl, by simp, q0, fun k z => (i21 k (hS0 ▸ z)), q1, fun k z => (j21 k (hS1 ▸ z)), fun k z1 z2 => x21 k (hS0 ▸ z1) (hS1 ▸ z2), trivial⟩
theorem entry_pack {S : Bs} {w : World} (a0 : (List RdnT)) (a1 : (List AttrT)) (v0 v1 : Value) (S0 S1 : Bs) (h : SlOwn rdnE S0 w a0 v0 ∧ (∀ k, S0 k → S k) ∧ SlOwn attrE S1 w a1 v1 ∧ (∀ k, S1 k → S k) ∧ (∀ k, S0 k → ¬ S1 k) ∧ True) :
    entryE.Own S w (a0, a1) [v0, v1] := by
  obtain ⟨q0, u0, q1, u1, d0_1, _⟩ := h
  exact (pair_own S0 S1 (own_sl q0) (own_sl q1) (u0) (u1) (fun k z y => by first | exact d0_1 k z y))
theorem entry_sl {S : Bs} {w : World} {x : EntryT} {cs : List Value} (h : entryE.Own S w x cs)  {v0 v1 : Value} (hc : cs = [v0, v1]) : (∃ p l j, v0 = .slice p l j) ∧ (∃ p l j, v1 = .slice p l j) := by
  obtain ⟨y0, y1, z0, z1, Z0, Z1, e1, e2, qs⟩ := entry_own h
  subst e2
  simp only [List.cons.injEq] at hc
  obtain ⟨k0, k1, _⟩ := hc
  subst k0 k1
  exact ⟨(by obtain ⟨o, c, e⟩ := qs.1.at.sl; exact ⟨o, _, c, e⟩), (by obtain ⟨o, c, e⟩ := qs.2.2.1.at.sl; exact ⟨o, _, c, e⟩)⟩
abbrev EntryOutT := EntryT × Int
abbrev entryOutE : Enc (EntryT × Int) := pairE entryE intE
theorem entryOut_row {S : Bs} {w : World} {l : List EntryOutT} {ao : Option Addr} {n cap k : Nat} (h : SlAt entryOutE S w l (.slice ao n cap)) (hk : k < l.length) :
    ∃ (b off : Nat) (a0 : (List RdnT)) (a1 : (List AttrT)) (a2 : Int) (v0 v1 : Value), ao = some ⟨b, off, none⟩ ∧ S b ∧ b < w.heap.size ∧ l[k] = ((a0, a1), a2) ∧ (w.cell? ⟨b, off + k * 3, none⟩ = some (v0) ∧ w.cell? ⟨b, off + k * 3 + 1, none⟩ = some (v1) ∧ w.cell? ⟨b, off + k * 3 + 2, none⟩ = some (.int .i64 a2)) ∧ SlAt rdnE S w a0 v0 ∧ SlAt attrE S w a1 v1 ∧ True := by
  obtain ⟨b, off, cs, e1, e2, e3, hc, ha⟩ := h.row hk
  rcases hx : l[k] with ⟨⟨a0, a1⟩, a2⟩
  rw [hx] at ha
  obtain ⟨c22, d22, rfl, f22, r22⟩ := at_pair ha
  obtain ⟨c23, d23, rfl, f23, r23⟩ := at_pair f22
  obtain ⟨v0, rfl, q0⟩ := f23
  obtain ⟨v1, rfl, q1⟩ := r23
  have g24 : _ = [Value.int .i64 a2] := r22
  subst g24
  exact ⟨b, off, a0, a1, a2, v0, v1, e1, e2, e3, rfl, ⟨hc 0 (by simp), hc 1 (by simp), hc 2 (by simp)⟩, q0, q1, trivial⟩
theorem entryOut_atq {S : Bs} {w : World} {x : EntryOutT} {cs : List Value} (ha : entryOutE.At S w x cs) : ∃ (a0 : (List RdnT)) (a1 : (List AttrT)) (a2 : Int) (v0 v1 : Value), x = ((a0, a1), a2) ∧ cs = [v0, v1, .int .i64 a2] ∧ SlAt rdnE S w a0 v0 ∧ SlAt attrE S w a1 v1 ∧ True := by
  rcases x with ⟨⟨a0, a1⟩, a2⟩
  obtain ⟨c25, d25, rfl, f25, r25⟩ := at_pair ha
  obtain ⟨c26, d26, rfl, f26, r26⟩ := at_pair f25
  obtain ⟨v0, rfl, q0⟩ := f26
  obtain ⟨v1, rfl, q1⟩ := r26
  have g27 : _ = [Value.int .i64 a2] := r25
  subst g27
  exact ⟨a0, a1, a2, v0, v1, rfl, by simp, q0, q1, trivial⟩
theorem entryOut_atp {S : Bs} {w : World} {a0 : (List RdnT)} {a1 : (List AttrT)} {a2 : Int} {v0 v1 : Value} (h : entryOutE.At S w ((a0, a1), a2) [v0, v1, .int .i64 a2]) : SlAt rdnE S w a0 v0 ∧ SlAt attrE S w a1 v1 := by
  have h2 := h
  obtain ⟨l, hl⟩ : ∃ l : List Value, l = [v0, v1, .int .i64 a2] := ⟨_, rfl⟩
  rw [← hl] at h2
  obtain ⟨c28, d28, rfl, f28, r28⟩ := at_pair h2
  obtain ⟨c29, d29, rfl, f29, r29⟩ := at_pair f28
  obtain ⟨y0, rfl, q0⟩ := f29
  obtain ⟨y1, rfl, q1⟩ := r29
  have g30 : _ = [Value.int .i64 a2] := r28
  subst g30
  simp only [List.cons_append, List.nil_append, List.cons.injEq] at hl
  obtain ⟨k0, k1, k2, _⟩ := hl
  subst k0 k1
  exact ⟨q0, q1⟩
theorem entryOut_own {S : Bs} {w : World} {x : EntryOutT} {cs : List Value} (h : entryOutE.Own S w x cs) :
    ∃ (a0 : (List RdnT)) (a1 : (List AttrT)) (a2 : Int) (v0 v1 : Value) (S0 S1 : Bs), x = ((a0, a1), a2) ∧ cs = [v0, v1, .int .i64 a2] ∧ SlOwn rdnE S0 w a0 v0 ∧ (∀ k, S0 k → S k) ∧ SlOwn attrE S1 w a1 v1 ∧ (∀ k, S1 k → S k) ∧ (∀ k, S0 k → ¬ S1 k) ∧ True := by
  rcases x with ⟨⟨a0, a1⟩, a2⟩
  obtain ⟨c31, d31, A31, B31, rfl, f31, r31, i31, j31, x31⟩ := own_pair h
  obtain ⟨c32, d32, A32, B32, rfl, f32, r32, i32, j32, x32⟩ := own_pair f31
  obtain ⟨v0, rfl, q0⟩ := f32
  obtain ⟨S0, hS0⟩ : ∃ X : Bs, X = A32 := ⟨_, rfl⟩
  rw [← hS0] at q0
  obtain ⟨v1, rfl, q1⟩ := r32
  obtain ⟨S1, hS1⟩ : ∃ X : Bs, X = B32 := ⟨_, rfl⟩
  rw [← hS1] at q1
  have g33 : _ = [Value.int .i64 a2] := r31
  subst g33
  exact ⟨a0, a1, a2, v0, v1, S0, S1, rfl, by simp, q0, fun k z => (i31 k (i32 k (hS0 ▸ z))), q1, fun k z => (i31 k (j32 k (hS1 ▸ z))), fun k z1 z2 => x32 k (hS0 ▸ z1) (hS1 ▸ z2), trivial⟩
theorem entryOut_pack {S : Bs} {w : World} (a0 : (List RdnT)) (a1 : (List AttrT)) (a2 : Int) (v0 v1 : Value) (S0 S1 : Bs) (h : SlOwn rdnE S0 w a0 v0 ∧ (∀ k, S0 k → S k) ∧ SlOwn attrE S1 w a1 v1 ∧ (∀ k, S1 k → S k) ∧ (∀ k, S0 k → ¬ S1 k) ∧ True) :
    entryOutE.Own S w ((a0, a1), a2) [v0, v1, .int .i64 a2] := by
  obtain ⟨q0, u0, q1, u1, d0_1, _⟩ := h
  exact (pair_own (fun k => S0 k ∨ S1 k) Nil ((pair_own S0 S1 (own_sl q0) (own_sl q1) (fun k z => by simp [z]) (fun k z => by simp [z]) (fun k z y => by first | exact d0_1 k z y))) (own_int a2) (fun k z => by rcases z with z | z <;> first | exact u0 k z | exact u1 k z) (fun _ z => z.elim) (fun _ z y => (by first | exact z.elim | exact y.elim)))
theorem entryOut_sl {S : Bs} {w : World} {x : EntryOutT} {cs : List Value} (h : entryOutE.Own S w x cs) {a2 : Int} {v0 v1 : Value} (hc : cs = [v0, v1, .int .i64 a2]) : (∃ p l j, v0 = .slice p l j) ∧ (∃ p l j, v1 = .slice p l j) := by
  obtain ⟨y0, y1, y2, z0, z1, Z0, Z1, e1, e2, qs⟩ := entryOut_own h
  subst e2
  simp only [List.cons.injEq] at hc
  obtain ⟨k0, k1, k2, _⟩ := hc
  subst k0 k1
  exact ⟨(by obtain ⟨o, c, e⟩ := qs.1.at.sl; exact ⟨o, _, c, e⟩), (by obtain ⟨o, c, e⟩ := qs.2.2.1.at.sl; exact ⟨o, _, c, e⟩)⟩
abbrev RuleT := ByteArray × (List RdnT) × (List ByteArray) × Int × Bool
abbrev ruleE3 : Enc (Int × Bool) := pairE intE boolE
abbrev ruleE2 : Enc ((List ByteArray) × Int × Bool) := pairE (slE strE) ruleE3
abbrev ruleE1 : Enc ((List RdnT) × (List ByteArray) × Int × Bool) := pairE (slE rdnE) ruleE2
abbrev ruleE : Enc (ByteArray × (List RdnT) × (List ByteArray) × Int × Bool) := pairE strE ruleE1
theorem rule_row {S : Bs} {w : World} {l : List RuleT} {ao : Option Addr} {n cap k : Nat} (h : SlAt ruleE S w l (.slice ao n cap)) (hk : k < l.length) :
    ∃ (b off : Nat) (a0 : ByteArray) (a1 : (List RdnT)) (a2 : (List ByteArray)) (a3 : Int) (a4 : Bool) (v1 v2 : Value), ao = some ⟨b, off, none⟩ ∧ S b ∧ b < w.heap.size ∧ l[k] = (a0, a1, a2, a3, a4) ∧ (w.cell? ⟨b, off + k * 5, none⟩ = some (.string a0) ∧ w.cell? ⟨b, off + k * 5 + 1, none⟩ = some (v1) ∧ w.cell? ⟨b, off + k * 5 + 2, none⟩ = some (v2) ∧ w.cell? ⟨b, off + k * 5 + 3, none⟩ = some (.int .i64 a3) ∧ w.cell? ⟨b, off + k * 5 + 4, none⟩ = some (.bool a4)) ∧ SlAt rdnE S w a1 v1 ∧ SlAt strE S w a2 v2 ∧ True := by
  obtain ⟨b, off, cs, e1, e2, e3, hc, ha⟩ := h.row hk
  rcases hx : l[k] with ⟨a0, a1, a2, a3, a4⟩
  rw [hx] at ha
  obtain ⟨c34, d34, rfl, f34, r34⟩ := at_pair ha
  have g35 : _ = [Value.string a0] := f34
  subst g35
  obtain ⟨c36, d36, rfl, f36, r36⟩ := at_pair r34
  obtain ⟨v1, rfl, q1⟩ := f36
  obtain ⟨c37, d37, rfl, f37, r37⟩ := at_pair r36
  obtain ⟨v2, rfl, q2⟩ := f37
  obtain ⟨c38, d38, rfl, f38, r38⟩ := at_pair r37
  have g39 : _ = [Value.int .i64 a3] := f38
  subst g39
  have g40 : _ = [Value.bool a4] := r38
  subst g40
  exact ⟨b, off, a0, a1, a2, a3, a4, v1, v2, e1, e2, e3, rfl, ⟨hc 0 (by simp), hc 1 (by simp), hc 2 (by simp), hc 3 (by simp), hc 4 (by simp)⟩, q1, q2, trivial⟩
theorem rule_atq {S : Bs} {w : World} {x : RuleT} {cs : List Value} (ha : ruleE.At S w x cs) : ∃ (a0 : ByteArray) (a1 : (List RdnT)) (a2 : (List ByteArray)) (a3 : Int) (a4 : Bool) (v1 v2 : Value), x = (a0, a1, a2, a3, a4) ∧ cs = [.string a0, v1, v2, .int .i64 a3, .bool a4] ∧ SlAt rdnE S w a1 v1 ∧ SlAt strE S w a2 v2 ∧ True := by
  rcases x with ⟨a0, a1, a2, a3, a4⟩
  obtain ⟨c41, d41, rfl, f41, r41⟩ := at_pair ha
  have g42 : _ = [Value.string a0] := f41
  subst g42
  obtain ⟨c43, d43, rfl, f43, r43⟩ := at_pair r41
  obtain ⟨v1, rfl, q1⟩ := f43
  obtain ⟨c44, d44, rfl, f44, r44⟩ := at_pair r43
  obtain ⟨v2, rfl, q2⟩ := f44
  obtain ⟨c45, d45, rfl, f45, r45⟩ := at_pair r44
  have g46 : _ = [Value.int .i64 a3] := f45
  subst g46
  have g47 : _ = [Value.bool a4] := r45
  subst g47
  exact ⟨a0, a1, a2, a3, a4, v1, v2, rfl, by simp, q1, q2, trivial⟩
theorem rule_atp {S : Bs} {w : World} {a0 : ByteArray} {a1 : (List RdnT)} {a2 : (List ByteArray)} {a3 : Int} {a4 : Bool} {v1 v2 : Value} (h : ruleE.At S w (a0, a1, a2, a3, a4) [.string a0, v1, v2, .int .i64 a3, .bool a4]) : SlAt rdnE S w a1 v1 ∧ SlAt strE S w a2 v2 := by
  have h2 := h
  obtain ⟨l, hl⟩ : ∃ l : List Value, l = [.string a0, v1, v2, .int .i64 a3, .bool a4] := ⟨_, rfl⟩
  rw [← hl] at h2
  obtain ⟨c48, d48, rfl, f48, r48⟩ := at_pair h2
  have g49 : _ = [Value.string a0] := f48
  subst g49
  obtain ⟨c50, d50, rfl, f50, r50⟩ := at_pair r48
  obtain ⟨y1, rfl, q1⟩ := f50
  obtain ⟨c51, d51, rfl, f51, r51⟩ := at_pair r50
  obtain ⟨y2, rfl, q2⟩ := f51
  obtain ⟨c52, d52, rfl, f52, r52⟩ := at_pair r51
  have g53 : _ = [Value.int .i64 a3] := f52
  subst g53
  have g54 : _ = [Value.bool a4] := r52
  subst g54
  simp only [List.cons_append, List.nil_append, List.cons.injEq] at hl
  obtain ⟨k0, k1, k2, k3, k4, _⟩ := hl
  subst k1 k2
  exact ⟨q1, q2⟩
theorem rule_own {S : Bs} {w : World} {x : RuleT} {cs : List Value} (h : ruleE.Own S w x cs) :
    ∃ (a0 : ByteArray) (a1 : (List RdnT)) (a2 : (List ByteArray)) (a3 : Int) (a4 : Bool) (v1 v2 : Value) (S1 S2 : Bs), x = (a0, a1, a2, a3, a4) ∧ cs = [.string a0, v1, v2, .int .i64 a3, .bool a4] ∧ SlOwn rdnE S1 w a1 v1 ∧ (∀ k, S1 k → S k) ∧ SlOwn strE S2 w a2 v2 ∧ (∀ k, S2 k → S k) ∧ (∀ k, S1 k → ¬ S2 k) ∧ True := by
  rcases x with ⟨a0, a1, a2, a3, a4⟩
  obtain ⟨c55, d55, A55, B55, rfl, f55, r55, i55, j55, x55⟩ := own_pair h
  have g56 : _ = [Value.string a0] := f55
  subst g56
  obtain ⟨c57, d57, A57, B57, rfl, f57, r57, i57, j57, x57⟩ := own_pair r55
  obtain ⟨v1, rfl, q1⟩ := f57
  obtain ⟨S1, hS1⟩ : ∃ X : Bs, X = A57 := ⟨_, rfl⟩
  rw [← hS1] at q1
  obtain ⟨c58, d58, A58, B58, rfl, f58, r58, i58, j58, x58⟩ := own_pair r57
  obtain ⟨v2, rfl, q2⟩ := f58
  obtain ⟨S2, hS2⟩ : ∃ X : Bs, X = A58 := ⟨_, rfl⟩
  rw [← hS2] at q2
  obtain ⟨c59, d59, A59, B59, rfl, f59, r59, i59, j59, x59⟩ := own_pair r58
  have g60 : _ = [Value.int .i64 a3] := f59
  subst g60
  have g61 : _ = [Value.bool a4] := r59
  subst g61
  exact ⟨a0, a1, a2, a3, a4, v1, v2, S1, S2, rfl, by simp, q1, fun k z => (j55 k (i57 k (hS1 ▸ z))), q2, fun k z => (j55 k (j57 k (i58 k (hS2 ▸ z)))), fun k z1 z2 => x57 k (hS1 ▸ z1) (i58 k (hS2 ▸ z2)), trivial⟩
theorem rule_pack {S : Bs} {w : World} (a0 : ByteArray) (a1 : (List RdnT)) (a2 : (List ByteArray)) (a3 : Int) (a4 : Bool) (v1 v2 : Value) (S1 S2 : Bs) (h : SlOwn rdnE S1 w a1 v1 ∧ (∀ k, S1 k → S k) ∧ SlOwn strE S2 w a2 v2 ∧ (∀ k, S2 k → S k) ∧ (∀ k, S1 k → ¬ S2 k) ∧ True) :
    ruleE.Own S w (a0, a1, a2, a3, a4) [.string a0, v1, v2, .int .i64 a3, .bool a4] := by
  obtain ⟨q1, u1, q2, u2, d1_2, _⟩ := h
  exact (pair_own Nil (fun k => S1 k ∨ S2 k) (own_str a0) ((pair_own S1 S2 (own_sl q1) ((pair_own S2 Nil (own_sl q2) ((pair_own Nil Nil (own_int a3) (own_bool a4) (fun _ z => z.elim) (fun _ z => z.elim) (fun _ z y => (by first | exact z.elim | exact y.elim)))) (fun _ z => z) (fun _ z => z.elim) (fun _ z y => (by first | exact z.elim | exact y.elim)))) (fun k z => by simp [z]) (fun k z => by simp [z]) (fun k z y => by first | exact d1_2 k z y))) (fun _ z => z.elim) (fun k z => by rcases z with z | z <;> first | exact u1 k z | exact u2 k z) (fun _ z y => (by first | exact z.elim | exact y.elim)))
theorem rule_sl {S : Bs} {w : World} {x : RuleT} {cs : List Value} (h : ruleE.Own S w x cs) {a0 : ByteArray} {a3 : Int} {a4 : Bool} {v1 v2 : Value} (hc : cs = [.string a0, v1, v2, .int .i64 a3, .bool a4]) : (∃ p l j, v1 = .slice p l j) ∧ (∃ p l j, v2 = .slice p l j) := by
  obtain ⟨y0, y1, y2, y3, y4, z1, z2, Z1, Z2, e1, e2, qs⟩ := rule_own h
  subst e2
  simp only [List.cons.injEq] at hc
  obtain ⟨k0, k1, k2, k3, k4, _⟩ := hc
  subst k1 k2
  exact ⟨(by obtain ⟨o, c, e⟩ := qs.1.at.sl; exact ⟨o, _, c, e⟩), (by obtain ⟨o, c, e⟩ := qs.2.2.1.at.sl; exact ⟨o, _, c, e⟩)⟩
abbrev NodeT := Int × ByteArray × ByteArray × Int
abbrev nodeE2 : Enc (ByteArray × Int) := pairE strE intE
abbrev nodeE1 : Enc (ByteArray × ByteArray × Int) := pairE strE nodeE2
abbrev nodeE : Enc (Int × ByteArray × ByteArray × Int) := pairE intE nodeE1
theorem node_row {S : Bs} {w : World} {l : List NodeT} {ao : Option Addr} {n cap k : Nat} (h : SlAt nodeE S w l (.slice ao n cap)) (hk : k < l.length) :
    ∃ (b off : Nat) (a0 : Int) (a1 : ByteArray) (a2 : ByteArray) (a3 : Int) , ao = some ⟨b, off, none⟩ ∧ S b ∧ b < w.heap.size ∧ l[k] = (a0, a1, a2, a3) ∧ (w.cell? ⟨b, off + k * 4, none⟩ = some (.int .i64 a0) ∧ w.cell? ⟨b, off + k * 4 + 1, none⟩ = some (.string a1) ∧ w.cell? ⟨b, off + k * 4 + 2, none⟩ = some (.string a2) ∧ w.cell? ⟨b, off + k * 4 + 3, none⟩ = some (.int .i64 a3)) ∧ True := by
  obtain ⟨b, off, cs, e1, e2, e3, hc, ha⟩ := h.row hk
  rcases hx : l[k] with ⟨a0, a1, a2, a3⟩
  rw [hx] at ha
  obtain ⟨c62, d62, rfl, f62, r62⟩ := at_pair ha
  have g63 : _ = [Value.int .i64 a0] := f62
  subst g63
  obtain ⟨c64, d64, rfl, f64, r64⟩ := at_pair r62
  have g65 : _ = [Value.string a1] := f64
  subst g65
  obtain ⟨c66, d66, rfl, f66, r66⟩ := at_pair r64
  have g67 : _ = [Value.string a2] := f66
  subst g67
  have g68 : _ = [Value.int .i64 a3] := r66
  subst g68
  exact ⟨b, off, a0, a1, a2, a3, e1, e2, e3, rfl, ⟨hc 0 (by simp), hc 1 (by simp), hc 2 (by simp), hc 3 (by simp)⟩, trivial⟩
theorem node_atq {S : Bs} {w : World} {x : NodeT} {cs : List Value} (ha : nodeE.At S w x cs) : ∃ (a0 : Int) (a1 : ByteArray) (a2 : ByteArray) (a3 : Int) , x = (a0, a1, a2, a3) ∧ cs = [.int .i64 a0, .string a1, .string a2, .int .i64 a3] ∧ True := by
  rcases x with ⟨a0, a1, a2, a3⟩
  obtain ⟨c69, d69, rfl, f69, r69⟩ := at_pair ha
  have g70 : _ = [Value.int .i64 a0] := f69
  subst g70
  obtain ⟨c71, d71, rfl, f71, r71⟩ := at_pair r69
  have g72 : _ = [Value.string a1] := f71
  subst g72
  obtain ⟨c73, d73, rfl, f73, r73⟩ := at_pair r71
  have g74 : _ = [Value.string a2] := f73
  subst g74
  have g75 : _ = [Value.int .i64 a3] := r73
  subst g75
  exact ⟨a0, a1, a2, a3, rfl, by simp, trivial⟩
theorem node_own {S : Bs} {w : World} {x : NodeT} {cs : List Value} (h : nodeE.Own S w x cs) :
    ∃ (a0 : Int) (a1 : ByteArray) (a2 : ByteArray) (a3 : Int)  , x = (a0, a1, a2, a3) ∧ cs = [.int .i64 a0, .string a1, .string a2, .int .i64 a3] ∧ True := by
  rcases x with ⟨a0, a1, a2, a3⟩
  obtain ⟨c76, d76, A76, B76, rfl, f76, r76, i76, j76, x76⟩ := own_pair h
  have g77 : _ = [Value.int .i64 a0] := f76
  subst g77
  obtain ⟨c78, d78, A78, B78, rfl, f78, r78, i78, j78, x78⟩ := own_pair r76
  have g79 : _ = [Value.string a1] := f78
  subst g79
  obtain ⟨c80, d80, A80, B80, rfl, f80, r80, i80, j80, x80⟩ := own_pair r78
  have g81 : _ = [Value.string a2] := f80
  subst g81
  have g82 : _ = [Value.int .i64 a3] := r80
  subst g82
  exact ⟨a0, a1, a2, a3, rfl, by simp, trivial⟩
theorem node_pack {S : Bs} {w : World} (a0 : Int) (a1 : ByteArray) (a2 : ByteArray) (a3 : Int)   (h : True) :
    nodeE.Own S w (a0, a1, a2, a3) [.int .i64 a0, .string a1, .string a2, .int .i64 a3] := by
  obtain ⟨_⟩ := h
  exact (pair_own Nil Nil (own_int a0) ((pair_own Nil Nil (own_str a1) ((pair_own Nil Nil (own_str a2) (own_int a3) (fun _ z => z.elim) (fun _ z => z.elim) (fun _ z y => (by first | exact z.elim | exact y.elim)))) (fun _ z => z.elim) (fun _ z => z.elim) (fun _ z y => (by first | exact z.elim | exact y.elim)))) (fun _ z => z.elim) (fun _ z => z.elim) (fun _ z y => (by first | exact z.elim | exact y.elim)))
abbrev ClassT := ByteArray × (List ByteArray) × (List ByteArray) × (List ByteArray)
abbrev classE2 : Enc ((List ByteArray) × (List ByteArray)) := pairE (slE strE) (slE strE)
abbrev classE1 : Enc ((List ByteArray) × (List ByteArray) × (List ByteArray)) := pairE (slE strE) classE2
abbrev classE : Enc (ByteArray × (List ByteArray) × (List ByteArray) × (List ByteArray)) := pairE strE classE1
theorem class_row {S : Bs} {w : World} {l : List ClassT} {ao : Option Addr} {n cap k : Nat} (h : SlAt classE S w l (.slice ao n cap)) (hk : k < l.length) :
    ∃ (b off : Nat) (a0 : ByteArray) (a1 : (List ByteArray)) (a2 : (List ByteArray)) (a3 : (List ByteArray)) (v1 v2 v3 : Value), ao = some ⟨b, off, none⟩ ∧ S b ∧ b < w.heap.size ∧ l[k] = (a0, a1, a2, a3) ∧ (w.cell? ⟨b, off + k * 4, none⟩ = some (.string a0) ∧ w.cell? ⟨b, off + k * 4 + 1, none⟩ = some (v1) ∧ w.cell? ⟨b, off + k * 4 + 2, none⟩ = some (v2) ∧ w.cell? ⟨b, off + k * 4 + 3, none⟩ = some (v3)) ∧ SlAt strE S w a1 v1 ∧ SlAt strE S w a2 v2 ∧ SlAt strE S w a3 v3 ∧ True := by
  obtain ⟨b, off, cs, e1, e2, e3, hc, ha⟩ := h.row hk
  rcases hx : l[k] with ⟨a0, a1, a2, a3⟩
  rw [hx] at ha
  obtain ⟨c83, d83, rfl, f83, r83⟩ := at_pair ha
  have g84 : _ = [Value.string a0] := f83
  subst g84
  obtain ⟨c85, d85, rfl, f85, r85⟩ := at_pair r83
  obtain ⟨v1, rfl, q1⟩ := f85
  obtain ⟨c86, d86, rfl, f86, r86⟩ := at_pair r85
  obtain ⟨v2, rfl, q2⟩ := f86
  obtain ⟨v3, rfl, q3⟩ := r86
  exact ⟨b, off, a0, a1, a2, a3, v1, v2, v3, e1, e2, e3, rfl, ⟨hc 0 (by simp), hc 1 (by simp), hc 2 (by simp), hc 3 (by simp)⟩, q1, q2, q3, trivial⟩
theorem class_atq {S : Bs} {w : World} {x : ClassT} {cs : List Value} (ha : classE.At S w x cs) : ∃ (a0 : ByteArray) (a1 : (List ByteArray)) (a2 : (List ByteArray)) (a3 : (List ByteArray)) (v1 v2 v3 : Value), x = (a0, a1, a2, a3) ∧ cs = [.string a0, v1, v2, v3] ∧ SlAt strE S w a1 v1 ∧ SlAt strE S w a2 v2 ∧ SlAt strE S w a3 v3 ∧ True := by
  rcases x with ⟨a0, a1, a2, a3⟩
  obtain ⟨c87, d87, rfl, f87, r87⟩ := at_pair ha
  have g88 : _ = [Value.string a0] := f87
  subst g88
  obtain ⟨c89, d89, rfl, f89, r89⟩ := at_pair r87
  obtain ⟨v1, rfl, q1⟩ := f89
  obtain ⟨c90, d90, rfl, f90, r90⟩ := at_pair r89
  obtain ⟨v2, rfl, q2⟩ := f90
  obtain ⟨v3, rfl, q3⟩ := r90
  exact ⟨a0, a1, a2, a3, v1, v2, v3, rfl, by simp, q1, q2, q3, trivial⟩
theorem class_atp {S : Bs} {w : World} {a0 : ByteArray} {a1 : (List ByteArray)} {a2 : (List ByteArray)} {a3 : (List ByteArray)} {v1 v2 v3 : Value} (h : classE.At S w (a0, a1, a2, a3) [.string a0, v1, v2, v3]) : SlAt strE S w a1 v1 ∧ SlAt strE S w a2 v2 ∧ SlAt strE S w a3 v3 := by
  have h2 := h
  obtain ⟨l, hl⟩ : ∃ l : List Value, l = [.string a0, v1, v2, v3] := ⟨_, rfl⟩
  rw [← hl] at h2
  obtain ⟨c91, d91, rfl, f91, r91⟩ := at_pair h2
  have g92 : _ = [Value.string a0] := f91
  subst g92
  obtain ⟨c93, d93, rfl, f93, r93⟩ := at_pair r91
  obtain ⟨y1, rfl, q1⟩ := f93
  obtain ⟨c94, d94, rfl, f94, r94⟩ := at_pair r93
  obtain ⟨y2, rfl, q2⟩ := f94
  obtain ⟨y3, rfl, q3⟩ := r94
  simp only [List.cons_append, List.nil_append, List.cons.injEq] at hl
  obtain ⟨k0, k1, k2, k3, _⟩ := hl
  subst k1 k2 k3
  exact ⟨q1, q2, q3⟩
theorem class_own {S : Bs} {w : World} {x : ClassT} {cs : List Value} (h : classE.Own S w x cs) :
    ∃ (a0 : ByteArray) (a1 : (List ByteArray)) (a2 : (List ByteArray)) (a3 : (List ByteArray)) (v1 v2 v3 : Value) (S1 S2 S3 : Bs), x = (a0, a1, a2, a3) ∧ cs = [.string a0, v1, v2, v3] ∧ SlOwn strE S1 w a1 v1 ∧ (∀ k, S1 k → S k) ∧ SlOwn strE S2 w a2 v2 ∧ (∀ k, S2 k → S k) ∧ SlOwn strE S3 w a3 v3 ∧ (∀ k, S3 k → S k) ∧ (∀ k, S1 k → ¬ S2 k) ∧ (∀ k, S1 k → ¬ S3 k) ∧ (∀ k, S2 k → ¬ S3 k) ∧ True := by
  rcases x with ⟨a0, a1, a2, a3⟩
  obtain ⟨c95, d95, A95, B95, rfl, f95, r95, i95, j95, x95⟩ := own_pair h
  have g96 : _ = [Value.string a0] := f95
  subst g96
  obtain ⟨c97, d97, A97, B97, rfl, f97, r97, i97, j97, x97⟩ := own_pair r95
  obtain ⟨v1, rfl, q1⟩ := f97
  obtain ⟨S1, hS1⟩ : ∃ X : Bs, X = A97 := ⟨_, rfl⟩
  rw [← hS1] at q1
  obtain ⟨c98, d98, A98, B98, rfl, f98, r98, i98, j98, x98⟩ := own_pair r97
  obtain ⟨v2, rfl, q2⟩ := f98
  obtain ⟨S2, hS2⟩ : ∃ X : Bs, X = A98 := ⟨_, rfl⟩
  rw [← hS2] at q2
  obtain ⟨v3, rfl, q3⟩ := r98
  obtain ⟨S3, hS3⟩ : ∃ X : Bs, X = B98 := ⟨_, rfl⟩
  rw [← hS3] at q3
  exact ⟨a0, a1, a2, a3, v1, v2, v3, S1, S2, S3, rfl, by simp, q1, fun k z => (j95 k (i97 k (hS1 ▸ z))), q2, fun k z => (j95 k (j97 k (i98 k (hS2 ▸ z)))), q3, fun k z => (j95 k (j97 k (j98 k (hS3 ▸ z)))), fun k z1 z2 => x97 k (hS1 ▸ z1) (i98 k (hS2 ▸ z2)), fun k z1 z2 => x97 k (hS1 ▸ z1) (j98 k (hS3 ▸ z2)), fun k z1 z2 => x98 k (hS2 ▸ z1) (hS3 ▸ z2), trivial⟩
theorem class_pack {S : Bs} {w : World} (a0 : ByteArray) (a1 : (List ByteArray)) (a2 : (List ByteArray)) (a3 : (List ByteArray)) (v1 v2 v3 : Value) (S1 S2 S3 : Bs) (h : SlOwn strE S1 w a1 v1 ∧ (∀ k, S1 k → S k) ∧ SlOwn strE S2 w a2 v2 ∧ (∀ k, S2 k → S k) ∧ SlOwn strE S3 w a3 v3 ∧ (∀ k, S3 k → S k) ∧ (∀ k, S1 k → ¬ S2 k) ∧ (∀ k, S1 k → ¬ S3 k) ∧ (∀ k, S2 k → ¬ S3 k) ∧ True) :
    classE.Own S w (a0, a1, a2, a3) [.string a0, v1, v2, v3] := by
  obtain ⟨q1, u1, q2, u2, q3, u3, d1_2, d1_3, d2_3, _⟩ := h
  exact (pair_own Nil (fun k => S1 k ∨ S2 k ∨ S3 k) (own_str a0) ((pair_own S1 (fun k => S2 k ∨ S3 k) (own_sl q1) ((pair_own S2 S3 (own_sl q2) (own_sl q3) (fun k z => by simp [z]) (fun k z => by simp [z]) (fun k z y => by first | exact d2_3 k z y))) (fun k z => by simp [z]) (fun k z => by rcases z with z | z <;> simp [z]) (fun k z y => by rcases y with y | y <;> first | exact d1_2 k z y | exact d1_3 k z y))) (fun _ z => z.elim) (fun k z => by rcases z with z | z | z <;> first | exact u1 k z | exact u2 k z | exact u3 k z) (fun _ z y => (by first | exact z.elim | exact y.elim)))
theorem class_sl {S : Bs} {w : World} {x : ClassT} {cs : List Value} (h : classE.Own S w x cs) {a0 : ByteArray} {v1 v2 v3 : Value} (hc : cs = [.string a0, v1, v2, v3]) : (∃ p l j, v1 = .slice p l j) ∧ (∃ p l j, v2 = .slice p l j) ∧ (∃ p l j, v3 = .slice p l j) := by
  obtain ⟨y0, y1, y2, y3, z1, z2, z3, Z1, Z2, Z3, e1, e2, qs⟩ := class_own h
  subst e2
  simp only [List.cons.injEq] at hc
  obtain ⟨k0, k1, k2, k3, _⟩ := hc
  subst k1 k2 k3
  exact ⟨(by obtain ⟨o, c, e⟩ := qs.1.at.sl; exact ⟨o, _, c, e⟩), (by obtain ⟨o, c, e⟩ := qs.2.2.1.at.sl; exact ⟨o, _, c, e⟩), (by obtain ⟨o, c, e⟩ := qs.2.2.2.2.1.at.sl; exact ⟨o, _, c, e⟩)⟩
abbrev ModT := Int × ByteArray × (List ByteArray)
abbrev modE1 : Enc (ByteArray × (List ByteArray)) := pairE strE (slE strE)
abbrev modE : Enc (Int × ByteArray × (List ByteArray)) := pairE intE modE1
theorem mod_row {S : Bs} {w : World} {l : List ModT} {ao : Option Addr} {n cap k : Nat} (h : SlAt modE S w l (.slice ao n cap)) (hk : k < l.length) :
    ∃ (b off : Nat) (a0 : Int) (a1 : ByteArray) (a2 : (List ByteArray)) (v2 : Value), ao = some ⟨b, off, none⟩ ∧ S b ∧ b < w.heap.size ∧ l[k] = (a0, a1, a2) ∧ (w.cell? ⟨b, off + k * 3, none⟩ = some (.int .i64 a0) ∧ w.cell? ⟨b, off + k * 3 + 1, none⟩ = some (.string a1) ∧ w.cell? ⟨b, off + k * 3 + 2, none⟩ = some (v2)) ∧ SlAt strE S w a2 v2 ∧ True := by
  obtain ⟨b, off, cs, e1, e2, e3, hc, ha⟩ := h.row hk
  rcases hx : l[k] with ⟨a0, a1, a2⟩
  rw [hx] at ha
  obtain ⟨c99, d99, rfl, f99, r99⟩ := at_pair ha
  have g100 : _ = [Value.int .i64 a0] := f99
  subst g100
  obtain ⟨c101, d101, rfl, f101, r101⟩ := at_pair r99
  have g102 : _ = [Value.string a1] := f101
  subst g102
  obtain ⟨v2, rfl, q2⟩ := r101
  exact ⟨b, off, a0, a1, a2, v2, e1, e2, e3, rfl, ⟨hc 0 (by simp), hc 1 (by simp), hc 2 (by simp)⟩, q2, trivial⟩
theorem mod_atq {S : Bs} {w : World} {x : ModT} {cs : List Value} (ha : modE.At S w x cs) : ∃ (a0 : Int) (a1 : ByteArray) (a2 : (List ByteArray)) (v2 : Value), x = (a0, a1, a2) ∧ cs = [.int .i64 a0, .string a1, v2] ∧ SlAt strE S w a2 v2 ∧ True := by
  rcases x with ⟨a0, a1, a2⟩
  obtain ⟨c103, d103, rfl, f103, r103⟩ := at_pair ha
  have g104 : _ = [Value.int .i64 a0] := f103
  subst g104
  obtain ⟨c105, d105, rfl, f105, r105⟩ := at_pair r103
  have g106 : _ = [Value.string a1] := f105
  subst g106
  obtain ⟨v2, rfl, q2⟩ := r105
  exact ⟨a0, a1, a2, v2, rfl, by simp, q2, trivial⟩
theorem mod_atp {S : Bs} {w : World} {a0 : Int} {a1 : ByteArray} {a2 : (List ByteArray)} {v2 : Value} (h : modE.At S w (a0, a1, a2) [.int .i64 a0, .string a1, v2]) : SlAt strE S w a2 v2 := by
  have h2 := h
  obtain ⟨l, hl⟩ : ∃ l : List Value, l = [.int .i64 a0, .string a1, v2] := ⟨_, rfl⟩
  rw [← hl] at h2
  obtain ⟨c107, d107, rfl, f107, r107⟩ := at_pair h2
  have g108 : _ = [Value.int .i64 a0] := f107
  subst g108
  obtain ⟨c109, d109, rfl, f109, r109⟩ := at_pair r107
  have g110 : _ = [Value.string a1] := f109
  subst g110
  obtain ⟨y2, rfl, q2⟩ := r109
  simp only [List.cons_append, List.nil_append, List.cons.injEq] at hl
  obtain ⟨k0, k1, k2, _⟩ := hl
  subst k2
  exact q2
theorem mod_own {S : Bs} {w : World} {x : ModT} {cs : List Value} (h : modE.Own S w x cs) :
    ∃ (a0 : Int) (a1 : ByteArray) (a2 : (List ByteArray)) (v2 : Value) (S2 : Bs), x = (a0, a1, a2) ∧ cs = [.int .i64 a0, .string a1, v2] ∧ SlOwn strE S2 w a2 v2 ∧ (∀ k, S2 k → S k) ∧ True := by
  rcases x with ⟨a0, a1, a2⟩
  obtain ⟨c111, d111, A111, B111, rfl, f111, r111, i111, j111, x111⟩ := own_pair h
  have g112 : _ = [Value.int .i64 a0] := f111
  subst g112
  obtain ⟨c113, d113, A113, B113, rfl, f113, r113, i113, j113, x113⟩ := own_pair r111
  have g114 : _ = [Value.string a1] := f113
  subst g114
  obtain ⟨v2, rfl, q2⟩ := r113
  obtain ⟨S2, hS2⟩ : ∃ X : Bs, X = B113 := ⟨_, rfl⟩
  rw [← hS2] at q2
  exact ⟨a0, a1, a2, v2, S2, rfl, by simp, q2, fun k z => (j111 k (j113 k (hS2 ▸ z))), trivial⟩
theorem mod_pack {S : Bs} {w : World} (a0 : Int) (a1 : ByteArray) (a2 : (List ByteArray)) (v2 : Value) (S2 : Bs) (h : SlOwn strE S2 w a2 v2 ∧ (∀ k, S2 k → S k) ∧ True) :
    modE.Own S w (a0, a1, a2) [.int .i64 a0, .string a1, v2] := by
  obtain ⟨q2, u2, _⟩ := h
  exact (pair_own Nil S2 (own_int a0) ((pair_own Nil S2 (own_str a1) (own_sl q2) (fun _ z => z.elim) (fun _ z => z) (fun _ z y => (by first | exact z.elim | exact y.elim)))) (fun _ z => z.elim) (u2) (fun _ z y => (by first | exact z.elim | exact y.elim)))
theorem mod_sl {S : Bs} {w : World} {x : ModT} {cs : List Value} (h : modE.Own S w x cs) {a0 : Int} {a1 : ByteArray} {v2 : Value} (hc : cs = [.int .i64 a0, .string a1, v2]) : (∃ p l j, v2 = .slice p l j) := by
  obtain ⟨y0, y1, y2, z2, Z2, e1, e2, qs⟩ := mod_own h
  subst e2
  simp only [List.cons.injEq] at hc
  obtain ⟨k0, k1, k2, _⟩ := hc
  subst k2
  exact (by obtain ⟨o, c, e⟩ := qs.1.at.sl; exact ⟨o, _, c, e⟩)
abbrev TreeT := (List ClassT) × (List EntryT)
abbrev treeE : Enc ((List ClassT) × (List EntryT)) := pairE (slE classE) (slE entryE)
theorem tree_row {S : Bs} {w : World} {l : List TreeT} {ao : Option Addr} {n cap k : Nat} (h : SlAt treeE S w l (.slice ao n cap)) (hk : k < l.length) :
    ∃ (b off : Nat) (a0 : (List ClassT)) (a1 : (List EntryT)) (v0 v1 : Value), ao = some ⟨b, off, none⟩ ∧ S b ∧ b < w.heap.size ∧ l[k] = (a0, a1) ∧ (w.cell? ⟨b, off + k * 2, none⟩ = some (v0) ∧ w.cell? ⟨b, off + k * 2 + 1, none⟩ = some (v1)) ∧ SlAt classE S w a0 v0 ∧ SlAt entryE S w a1 v1 ∧ True := by
  obtain ⟨b, off, cs, e1, e2, e3, hc, ha⟩ := h.row hk
  rcases hx : l[k] with ⟨a0, a1⟩
  rw [hx] at ha
  obtain ⟨c115, d115, rfl, f115, r115⟩ := at_pair ha
  obtain ⟨v0, rfl, q0⟩ := f115
  obtain ⟨v1, rfl, q1⟩ := r115
  exact ⟨b, off, a0, a1, v0, v1, e1, e2, e3, rfl, ⟨hc 0 (by simp), hc 1 (by simp)⟩, q0, q1, trivial⟩
theorem tree_atq {S : Bs} {w : World} {x : TreeT} {cs : List Value} (ha : treeE.At S w x cs) : ∃ (a0 : (List ClassT)) (a1 : (List EntryT)) (v0 v1 : Value), x = (a0, a1) ∧ cs = [v0, v1] ∧ SlAt classE S w a0 v0 ∧ SlAt entryE S w a1 v1 ∧ True := by
  rcases x with ⟨a0, a1⟩
  obtain ⟨c116, d116, rfl, f116, r116⟩ := at_pair ha
  obtain ⟨v0, rfl, q0⟩ := f116
  obtain ⟨v1, rfl, q1⟩ := r116
  exact ⟨a0, a1, v0, v1, rfl, by simp, q0, q1, trivial⟩
theorem tree_atp {S : Bs} {w : World} {a0 : (List ClassT)} {a1 : (List EntryT)} {v0 v1 : Value} (h : treeE.At S w (a0, a1) [v0, v1]) : SlAt classE S w a0 v0 ∧ SlAt entryE S w a1 v1 := by
  have h2 := h
  obtain ⟨l, hl⟩ : ∃ l : List Value, l = [v0, v1] := ⟨_, rfl⟩
  rw [← hl] at h2
  obtain ⟨c117, d117, rfl, f117, r117⟩ := at_pair h2
  obtain ⟨y0, rfl, q0⟩ := f117
  obtain ⟨y1, rfl, q1⟩ := r117
  simp only [List.cons_append, List.nil_append, List.cons.injEq] at hl
  obtain ⟨k0, k1, _⟩ := hl
  subst k0 k1
  exact ⟨q0, q1⟩
theorem tree_own {S : Bs} {w : World} {x : TreeT} {cs : List Value} (h : treeE.Own S w x cs) :
    ∃ (a0 : (List ClassT)) (a1 : (List EntryT)) (v0 v1 : Value) (S0 S1 : Bs), x = (a0, a1) ∧ cs = [v0, v1] ∧ SlOwn classE S0 w a0 v0 ∧ (∀ k, S0 k → S k) ∧ SlOwn entryE S1 w a1 v1 ∧ (∀ k, S1 k → S k) ∧ (∀ k, S0 k → ¬ S1 k) ∧ True := by
  rcases x with ⟨a0, a1⟩
  obtain ⟨c118, d118, A118, B118, rfl, f118, r118, i118, j118, x118⟩ := own_pair h
  obtain ⟨v0, rfl, q0⟩ := f118
  obtain ⟨S0, hS0⟩ : ∃ X : Bs, X = A118 := ⟨_, rfl⟩
  rw [← hS0] at q0
  obtain ⟨v1, rfl, q1⟩ := r118
  obtain ⟨S1, hS1⟩ : ∃ X : Bs, X = B118 := ⟨_, rfl⟩
  rw [← hS1] at q1
  exact ⟨a0, a1, v0, v1, S0, S1, rfl, by simp, q0, fun k z => (i118 k (hS0 ▸ z)), q1, fun k z => (j118 k (hS1 ▸ z)), fun k z1 z2 => x118 k (hS0 ▸ z1) (hS1 ▸ z2), trivial⟩
theorem tree_pack {S : Bs} {w : World} (a0 : (List ClassT)) (a1 : (List EntryT)) (v0 v1 : Value) (S0 S1 : Bs) (h : SlOwn classE S0 w a0 v0 ∧ (∀ k, S0 k → S k) ∧ SlOwn entryE S1 w a1 v1 ∧ (∀ k, S1 k → S k) ∧ (∀ k, S0 k → ¬ S1 k) ∧ True) :
    treeE.Own S w (a0, a1) [v0, v1] := by
  obtain ⟨q0, u0, q1, u1, d0_1, _⟩ := h
  exact (pair_own S0 S1 (own_sl q0) (own_sl q1) (u0) (u1) (fun k z y => by first | exact d0_1 k z y))
theorem tree_sl {S : Bs} {w : World} {x : TreeT} {cs : List Value} (h : treeE.Own S w x cs)  {v0 v1 : Value} (hc : cs = [v0, v1]) : (∃ p l j, v0 = .slice p l j) ∧ (∃ p l j, v1 = .slice p l j) := by
  obtain ⟨y0, y1, z0, z1, Z0, Z1, e1, e2, qs⟩ := tree_own h
  subst e2
  simp only [List.cons.injEq] at hc
  obtain ⟨k0, k1, _⟩ := hc
  subst k0 k1
  exact ⟨(by obtain ⟨o, c, e⟩ := qs.1.at.sl; exact ⟨o, _, c, e⟩), (by obtain ⟨o, c, e⟩ := qs.2.2.1.at.sl; exact ⟨o, _, c, e⟩)⟩
end Go.Proofs.Ytlgafmgohinkbaa
/- The shapes of the types, as the earlier texts say them. -/
namespace Go.Proofs.Ytlgafmgohinkbaa
open Go.RowKit

theorem strs_of {S : Bs} {w : World} {l : List ByteArray} {ao : Option Addr} {n cap : Nat} (h : SlAt strE S w l (.slice ao n cap)) : StrsAt w ao l := by
  by_cases h0 : l = []
  · exact .inl h0
  have hl : 0 < l.length := List.length_pos_iff.2 h0
  obtain ⟨b, off, a0, e, _, hb, _, _⟩ := str_row h hl
  subst e
  refine .inr ⟨b, off, rfl, hb, fun i hi => ?_⟩
  obtain ⟨b', off', a0, e, _, _, hx, hc⟩ := str_row h hi
  cases e
  rw [hx]; exact hc
theorem dn_of {S : Bs} {w : World} {l : RdnL} {ao : Option Addr} {n cap : Nat} (h : SlAt rdnE S w l (.slice ao n cap)) : DnAt w ao l := by
  by_cases h0 : l = []
  · exact .inl h0
  have hl : 0 < l.length := List.length_pos_iff.2 h0
  obtain ⟨b, off, a0, a1, e, _, hb, _, _⟩ := rdn_row h hl
  subst e
  refine .inr ⟨b, off, rfl, hb, fun i hi => ?_⟩
  obtain ⟨b', off', a0, a1, e, _, _, hx, hc, _⟩ := rdn_row h hi
  cases e
  rw [hx]; exact hc
theorem SlAt.cap {α : Type} {e : Enc α} {S : Bs} {w : World} {l : List α} {ao : Option Addr} {n cap : Nat} (h : SlAt e S w l (.slice ao n cap)) : n = l.length ∧ l.length ≤ cap ∧ (ao = none → cap = 0) := by
  obtain ⟨ao', cap', e1, h2, h3, _⟩ := h
  injection e1 with e1 e2 e3
  subst e1 e3
  exact ⟨e2, h2, h3⟩
theorem attrs_of {S : Bs} {w : World} {l : List AttrV} {ao : Option Addr} {n cap : Nat} (h : SlAt attrE S w l (.slice ao n cap)) : AttrsAt w ao l := by
  by_cases h0 : l = []
  · exact .inl h0
  have hl : 0 < l.length := List.length_pos_iff.2 h0
  obtain ⟨b, off, a0, a1, v1, e, _, hb, _, _⟩ := attr_row h hl
  subst e
  refine .inr ⟨b, off, rfl, hb, fun i hi => ?_⟩
  obtain ⟨b', off', a0, a1, v1, e, _, _, hx, hc, hs, _⟩ := attr_row h hi
  cases e
  rw [hx]
  obtain ⟨o, c, rfl⟩ := hs.sl
  obtain ⟨q1, q2, q3⟩ := hs.cap
  exact ⟨hc.1, o, c, hc.2, strs_of hs, q2, q3⟩
theorem szL_str (l : List ByteArray) : szL strE l = sizeV l := rfl
theorem fits_dn {l : RdnL} (h : l.length + szL rdnE l ≤ 1048576) : Fits l := ⟨by omega, fun r hr => by
  have h1 : rdnE.sz r ≤ szL rdnE l := szL_mem rdnE hr
  have h2 : rdnE.sz r = r.1.size + r.2.size := rfl
  omega⟩
theorem fits_str {l : List ByteArray} (h : l.length + szL strE l ≤ 1048576) : FitsV l := fitsV_of (by rw [szL_str] at h; exact h)
theorem fits_attrs {l : List AttrV} (h : l.length + szL attrE l ≤ 1048576) : FitsA l := ⟨by omega, fun r hr => by
  have h1 : attrE.sz r ≤ szL attrE l := szL_mem attrE hr
  have h2 : attrE.sz r = r.1.size + (r.2.length + szL strE r.2) := rfl
  exact ⟨by omega, fits_str (by omega)⟩⟩
end Go.Proofs.Ytlgafmgohinkbaa
/- Classes by their shape, as the earlier texts say them. -/
namespace Go.Proofs.Ytlgafmgohinkbaa
open Go.RowKit

def toCV (x : ClassT) : ClassV := ⟨x.1, x.2.1, x.2.2.1, x.2.2.2⟩
theorem slv_of {S : Bs} {w : World} {l : List ByteArray} {v : Value} (h : SlAt strE S w l v) : SlV w v l := by
  obtain ⟨o, c, rfl⟩ := h.sl
  obtain ⟨_, q2, q3⟩ := h.cap
  exact ⟨o, c, rfl, strs_of h, q2, q3⟩
theorem classes_of {S : Bs} {w : World} {l : List ClassT} {ao : Option Addr} {n cap : Nat} (h : SlAt classE S w l (.slice ao n cap)) : ClassesAt w ao (l.map toCV) := by
  by_cases h0 : l = []
  · left; subst h0; rfl
  have hl : 0 < l.length := List.length_pos_iff.2 h0
  obtain ⟨b, off, a0, a1, a2, a3, v1, v2, v3, e, _, hb, _, _⟩ := class_row h hl
  subst e
  refine .inr ⟨b, off, rfl, hb, fun i hi => ?_⟩
  have hi' : i < l.length := by simpa using hi
  obtain ⟨b', off', a0, a1, a2, a3, v1, v2, v3, e, _, _, hx, hc, s1, s2, s3, _⟩ := class_row h hi'
  cases e
  rw [List.getElem_map, hx]
  exact ⟨v1, v2, v3, hc.1, hc.2.1, hc.2.2.1, hc.2.2.2, slv_of s1, slv_of s2, slv_of s3⟩
theorem fits_classes {l : List ClassT} (h : l.length + szL classE l ≤ 1048576) : FitsC (l.map toCV) := ⟨by rw [List.length_map]; omega, fun c hc => by
  obtain ⟨x, hx, rfl⟩ := List.mem_map.1 hc
  have h1 : classE.sz x ≤ szL classE l := szL_mem classE hx
  have h2 : classE.sz x = x.1.size + ((x.2.1.length + szL strE x.2.1) + ((x.2.2.1.length + szL strE x.2.2.1) + (x.2.2.2.length + szL strE x.2.2.2))) := rfl
  exact ⟨by show x.1.size ≤ _; omega, fits_str (by show x.2.1.length + szL strE x.2.1 ≤ 1048576; omega), fits_str (by show x.2.2.1.length + szL strE x.2.2.1 ≤ 1048576; omega), fits_str (by show x.2.2.2.length + szL strE x.2.2.2 ≤ 1048576; omega)⟩⟩
end Go.Proofs.Ytlgafmgohinkbaa
/- Rows that a call makes by append: they come to be owned. -/
namespace Go.Proofs.Ytlgafmgohinkbaa
open Go.RowKit

section
variable {α : Type} {e : Enc α}
/-- rows in making, behind append: the cells of the slice, and each row's own blocks -/
structure Grow (e : Enc α) (T : TypeId) (B : Nat) (w : World) (v : Value) (l : List α) (xs : List Value) : Prop where
  row : w.ownsRow B T e.n v l.length xs
  ex : ∃ P : Nat → Bs, (∀ i, i < l.length → (∀ b, P i b → B ≤ b ∧ b < w.heap.size) ∧ ∀ g, v.ownBlock = some g → ¬ P i g) ∧ (∀ i j, i < l.length → j < l.length → i ≠ j → ∀ b, P i b → ¬ P j b) ∧
    ∀ i (h : i < l.length), ∃ cs, (∀ j (h : j < cs.length), xs[i * e.n + j]? = some cs[j]) ∧ e.Own (P i) w l[i] cs
theorem Grow.nil (e : Enc α) (T : TypeId) (B : Nat) (w : World) : Grow e T B w (.slice none 0 0) [] [] := ⟨⟨by simp, .inl ⟨rfl, rfl⟩⟩, fun _ _ => False, fun _ h => by simp at h, fun _ _ h => by simp at h, fun _ h => by simp at h⟩
theorem Grow.below {T : TypeId} {B : Nat} {w w' : World} {v : Value} {l : List α} {xs : List Value} (h : Grow e T B w v l xs) (hb : Below w.heap.size w w') : Grow e T B w' v l xs := by
  obtain ⟨hr, P, h1, h2, h3⟩ := h
  refine ⟨hr.kept (row := none) ⟨hb.os, hb.tape, hb.output, hb.size, fun k hk _ => hb.block k hk⟩ (by cases v.ownBlock <;> simp), P, fun i hi => ⟨fun b hx => ⟨((h1 i hi).1 b hx).1, Nat.lt_of_lt_of_le ((h1 i hi).1 b hx).2 hb.size⟩, (h1 i hi).2⟩, h2, fun i hi => ?_⟩
  obtain ⟨cs, q1, q2⟩ := h3 i hi
  exact ⟨cs, q1, e.ownFrame q2 (Same.of_below' hb)⟩
theorem Grow.step {T : TypeId} {B : Nat} {wr w2 w3 w' : World} {v v' : Value} {l : List α} {xs : List Value} {x : α} {cs : List Value} (h : Grow e T B wr v l xs) (hB : B ≤ wr.heap.size) (hb : Below wr.heap.size wr w2) (hx : e.Own (Fresh wr w2) w2 x cs)
    (h23 : Below w2.heap.size w2 w3) (h1 : w'.ownsRow B T e.n v' (l.length + 1) (xs ++ cs)) (h2 : w3.grownBy w' v.ownBlock) (h3 : ∀ g, v'.ownBlock = some g → v.ownBlock = some g ∨ w2.heap.size ≤ g) :
    Grow e T B w' v' (l ++ [x]) (xs ++ cs) := by
  have hr0 := h.row
  have hxl : xs.length = l.length * e.n := hr0.1
  have hn := e.ownLen hx
  have hG2 := h.below hb
  obtain ⟨_, P, p1, p2, p3⟩ := h
  obtain ⟨_, P2, _, _, _⟩ := hG2
  have hown : ∀ g, v.ownBlock = some g → g < wr.heap.size := fun g hg => (hr0.lt g hg).2
  have hs3 := h23.size
  have hs4 := h2.size
  have hsame : ∀ S : Bs, (∀ b, S b → b < w2.heap.size) → (∀ g, v.ownBlock = some g → ¬ S g) → Same S w2 w' := fun S hs hv k hk _ => by
    have e1 := h23.block k (hs k hk)
    have e2 := h2.block k (Nat.lt_of_lt_of_le (hs k hk) hs3) (fun e => hv k e.symm hk)
    exact e2.trans e1
  refine ⟨by rw [List.length_append]; exact h1, fun i => if i = l.length then Fresh wr w2 else P i, ?_, ?_, ?_⟩
  · intro i hi
    have hi' : i < l.length + 1 := by simpa using hi
    by_cases ei : i = l.length
    · subst ei
      simp only [if_true]
      refine ⟨fun b hx => ⟨by have := hx.1; omega, by have := hx.2; omega⟩, fun g hg hx => ?_⟩
      rcases h3 g hg with h | h
      · have := hown g h; have := hx.1; omega
      · have := hx.2; omega
    · simp only [if_neg ei]
      have hil : i < l.length := by omega
      have hbs := hb.size
      refine ⟨fun b hx => ⟨((p1 i hil).1 b hx).1, by have := ((p1 i hil).1 b hx).2; omega⟩, fun g hg hx => ?_⟩
      rcases h3 g hg with h | h
      · exact (p1 i hil).2 g h hx
      · have := ((p1 i hil).1 g hx).2; omega
  · intro i j hi hj hne b x1 x2
    have hi' : i < l.length + 1 := by simpa using hi
    have hj' : j < l.length + 1 := by simpa using hj
    by_cases ei : i = l.length
    · simp only [if_pos ei] at x1
      rw [if_neg (by omega)] at x2
      have := ((p1 j (by omega)).1 b x2).2
      have := x1.1
      omega
    · simp only [if_neg ei] at x1
      by_cases ej : j = l.length
      · simp only [if_pos ej] at x2
        have := ((p1 i (by omega)).1 b x1).2
        have := x2.1
        omega
      · simp only [if_neg ej] at x2
        exact p2 i j (by omega) (by omega) hne b x1 x2
  · intro i hi
    have hi' : i < l.length + 1 := by simpa using hi
    by_cases ei : i = l.length
    · subst ei
      refine ⟨cs, fun j hj => ?_, ?_⟩
      · rw [List.getElem?_append_right (by omega), hxl, Nat.add_sub_cancel_left, List.getElem?_eq_getElem hj]
      · have hxx : (l ++ [x])[l.length] = x := by rw [List.getElem_append_right (by omega)]; simp
        show e.Own (if l.length = l.length then _ else _) _ _ _
        rw [if_pos rfl, hxx]
        exact e.ownFrame hx (hsame _ (fun b h => h.2) (fun g hg hx => by have := hown g hg; have := hx.1; omega))
    · have hil : i < l.length := by omega
      obtain ⟨cs', q1, q2⟩ := p3 i hil
      have hn' := e.ownLen q2
      have hm : (i + 1) * e.n ≤ l.length * e.n := Nat.mul_le_mul_right _ (by omega)
      rw [Nat.add_mul] at hm
      refine ⟨cs', fun j hj => ?_, ?_⟩
      · rw [List.getElem?_append_left (by omega)]; exact q1 j hj
      · have hxx : (l ++ [x])[i] = l[i] := List.getElem_append_left (by omega)
        show e.Own (if i = l.length then _ else _) _ _ _
        rw [if_neg ei, hxx]
        have hbs := hb.size
        exact e.ownFrame (e.ownFrame q2 (Same.of_below' hb)) (hsame _ (fun b h => by have := ((p1 i hil).1 b h).2; omega) (p1 i hil).2)
theorem Grow.own {T : TypeId} {B : Nat} {w : World} {v : Value} {l : List α} {xs : List Value} (h : Grow e T B w v l xs) : SlOwn e (fun b => B ≤ b ∧ b < w.heap.size) w l v := by
  obtain ⟨hr, P, h1, h2, h3⟩ := h
  rcases hr.2 with ⟨rfl, h0⟩ | ⟨g, cap, cur, rfl, hB, hk, hc, _, hsz, ht⟩
  · have : l = [] := List.length_eq_zero_iff.1 h0
    subst this
    exact ⟨none, 0, rfl, Nat.le_refl _, fun _ => rfl, .inl rfl⟩
  · refine ⟨some ⟨g, 0, none⟩, cap, rfl, hc, (fun x => by cases x), .inr ⟨g, P, rfl, ⟨hB, (Array.getElem?_eq_some_iff.1 hk).1⟩, fun i hi => ⟨(h1 i hi).2 g rfl, (h1 i hi).1⟩, h2, fun i hi => ?_⟩⟩
    obtain ⟨cs, q1, q2⟩ := h3 i hi
    refine ⟨cs, ⟨cur, T, hk, fun j hj => ?_⟩, q2⟩
    have hn' := e.ownLen q2
    have hm : (i + 1) * e.n ≤ l.length * e.n := Nat.mul_le_mul_right _ (by omega)
    rw [Nat.add_mul] at hm
    have := q1 j hj
    rw [← ht, List.getElem?_take_of_lt (by omega), Array.getElem?_toList] at this
    exact this
/-- texts that a call has made -/
theorem own_texts {T : TypeId} {B : Nat} {w : World} {v : Value} {l : List ByteArray} (h : w.ownsRow B T 1 v l.length (l.map Value.string)) : SlOwn strE (fun b => B ≤ b ∧ b < w.heap.size) w l v :=
  Grow.own (T := T) (xs := l.map Value.string) ⟨h, fun _ => Nil, fun i _ => ⟨fun b x => x.elim, fun _ _ x => x⟩, fun _ _ _ _ _ _ x => x.elim, fun i hi => ⟨[.string l[i]], fun j hj => by
    have e : j = 0 := by simp at hj; exact hj
    subst e
    show (l.map Value.string)[i * 1 + 0]? = _
    rw [Nat.mul_one, Nat.add_zero, List.getElem?_map, List.getElem?_eq_getElem hi]; rfl, rfl⟩⟩
theorem own_slice3' {w : World} {B T z n : Nat} {v : Value} {xs : List Value} (h : w.ownsRow B T z v n xs) : ∃ p a c, v = .slice p a c := by
  rcases h.2 with ⟨rfl, _⟩ | ⟨g, cap, cur, rfl, _⟩
  · exact ⟨_, _, _, rfl⟩
  · exact ⟨_, _, _, rfl⟩
end
end Go.Proofs.Ytlgafmgohinkbaa
/- joinRdns: what the program's text returns. -/
namespace Go.Proofs.Ytlgafmgohinkbaa
open Go.RowKit
attribute [local go_sem ↓] Go.wp_at_zero Go.wp_at_succ

set_option maxRecDepth 100000 in
set_option maxHeartbeats 2000000 in
theorem joinRdns_any (pb po pc : Nat) (ps : List (Option Addr × Nat × RdnL)) (w : World) (hp : PartsAt w pb po ps) (hm : ps.length ≤ 10) :
    Calls Try.prog 123 #[.slice (some ⟨pb, po, none⟩) ps.length pc] w fun e w' => (∃ v, e = .returned v ∧ w'.ownsRow w.heap.size 157 2 v (flat ps).length (rs (flat ps))) ∧ Below w.heap.size w w' := by
  have HP := Lib.hid hp; clear hp
  go_enter Try.func123, Try.ntmps123
  go_wp2
  go_loopw [3, 9] (fun v i wr => ∃ k : Nat, k ≤ ps.length ∧ i = .int .i64 k ∧ wr.ownsRow w.heap.size 157 2 v (flat (ps.take k)).length (rs (flat (ps.take k))) ∧ Below w.heap.size w wr) (fun _ i _ => ps.length - (intOf i).toNat)
  case atStart => exact ⟨0, Nat.zero_le _, rfl, ⟨rfl, .inl ⟨rfl, rfl⟩⟩, Below.refl _ _⟩
  case round =>
    obtain ⟨k, hk, rfl, hown, hbel⟩ := hrel
    by_cases hlt : k < ps.length
    · obtain ⟨hc0, hd, hf⟩ := HP.out.2 k hlt
      have hc := (hbel.cell (p := ⟨pb, po + k, none⟩) HP.out.1).trans hc0
      have hl := hf.1
      have HF := Lib.hid (flat_succ ps k hlt)
      have hown0 : wr.ownsRow w.heap.size 157 2 u3 (flat (ps.take k) ++ ps[k].2.2.take 0).length (rs (flat (ps.take k) ++ ps[k].2.2.take 0)) := by rw [List.take_zero, List.append_nil]; exact hown
      have HO := Lib.hid hown0; have HD := Lib.hid hd; have HFi := Lib.hid hf; have HC0 := Lib.hid hc0
      clear hown hown0 hd hf hc0
      have hpl := HP.out.len hm k
      generalize flat (ps.take k) = pre at *
      generalize ps[k].1 = ao at *
      generalize ps[k].2.1 = cp at *
      generalize ps[k].2.2 = d at *
      go_wp2_with fail
      go_loopw [3, 17] (fun v i wr => ∃ j : Nat, j ≤ d.length ∧ i = .int .i64 j ∧ wr.ownsRow w.heap.size 157 2 v (pre ++ d.take j).length (rs (pre ++ d.take j)) ∧ Below w.heap.size w wr) (fun _ i _ => d.length - (intOf i).toNat)
      case atStart => exact ⟨0, Nat.zero_le _, rfl, HO.out, hbel⟩
      case round =>
        clear hc HO hbel
        obtain ⟨j, hj, rfl, hown, hbel⟩ := hrel
        have hc := (hbel.cell (p := ⟨pb, po + k, none⟩) HP.out.1).trans HC0.out
        by_cases hjlt : j < d.length
        · obtain ⟨b, off, rfl, hb0, hd1, hd2⟩ := HD.out.at hjlt
          have hc1 := (hbel.cell (p := ⟨b, off + j * 2, none⟩) hb0).trans hd1
          have hc2 := (hbel.cell (p := ⟨b, off + j * 2 + 1, none⟩) hb0).trans hd2
          have hz := HFi.out.small hjlt
          have HN : Hid (d.take (j + 1) = d.take j ++ [d[j]]) := Lib.hid (List.take_succ_eq_append_getElem hjlt)
          clear hd1 hd2
          have HR : Hid (u3.ownBlock ≠ some wr.heap.size) := Lib.hid (fun e => by have := (hown.lt _ e).2; omega)
          have HO := Lib.hid hown
          have hpl2 : Hid ((pre ++ d.take j).length ≤ 1000000000) := Lib.hid (by rw [List.length_append, List.length_take]; omega)
          have HD2 : Hid (d[j] = (d[j].1, d[j].2)) := Lib.hid rfl
          generalize d[j].1 = A at *
          generalize d[j].2 = V at *
          go_wp2_with fail
          refine wp_world (fun W => (W.cell? ⟨wr.heap.size, 0, none⟩ = some (.string A) ∧ W.cell? ⟨wr.heap.size, 1, none⟩ = some (.string V)) ∧ W.ownsRow w.heap.size 157 2 u3 (pre ++ d.take j).length (rs (pre ++ d.take j)) ∧ Below w.heap.size w W)
            ⟨⟨by simp, by simp⟩, HO.out.alloc _, more hbel _⟩ ?_
          rintro W0 ⟨hW1, hW2, hW3⟩
          have HO2 := Lib.hid hW2
          generalize wr.heap.size = R at *
          clear hown HO hW2 hc hc1 hc2 hbel
          have hW4 : Below W0.heap.size W0 W0.drew := (Below.refl _ _).drew
          obtain ⟨hz1, hz2⟩ := hz
          go_region_held3 (fun W => W.cell? ⟨R, 0, none⟩ = some (.string A) ∧ W.cell? ⟨R, 1, none⟩ = some (.string V))
            (first | go_keep | exact keep_far hg5 HR.out (by assumption) | exact keep_two hb2 (by assumption))
            (first
              | (go_at_call 76; refine (concat_at W0 _ A _ hz1 ?_ ?_ ?_).mono ?_; (focus (first | (simp; done) | (simp; omega) | (exact Nat.lt_of_lt_of_le (by first | (simp; done) | (simp; omega)) hb2.size))); (focus (first | (simp; done) | (rw [bc _ _ (by first | (simp; done) | (simp; omega))]; simp; done))); (focus (first | assumption | exact more (by assumption) _ | exact (more (Below.refl _ _) _).drew | exact (more (more (Below.refl _ _) _) _).drew)); rintro e w2 ⟨rfl, hq2, hb2⟩; obtain ⟨bc, bf⟩ := bcell hb2)
              | (go_at_call 76; refine (concat_at W0 _ V _ hz2 ?_ ?_ ?_).mono ?_; (focus (first | (simp; done) | (simp; omega) | (exact Nat.lt_of_lt_of_le (by first | (simp; done) | (simp; omega)) hb2.size))); (focus (first | (simp; done) | (rw [bc _ _ (by first | (simp; done) | (simp; omega))]; simp; done))); (focus (first | assumption | exact more (by assumption) _ | exact (more (Below.refl _ _) _).drew | exact (more (more (Below.refl _ _) _) _).drew)); rintro e w2 ⟨rfl, hq2, hb2⟩; obtain ⟨bc, bf⟩ := bcell hb2)
              | (refine step_rdn2 w.heap.size (by rfl) _ _ (by rfl) _ (pre ++ d.take j) (by rfl) (own_below HO2.out hq2) _ _ (by rfl) hpl2.out (Nat.le_trans hW3.size hq2.size) (hW3.trans (hq2.mono hW3.size)) ?_; intro g cp5 w5 hown5 hbel5 hg5)
              | (fail "none"))
          all_goals
            rw [show (pre ++ d.take j).length + 1 = pre.length + j + 1 by rw [List.length_append, List.length_take]; omega] at hown5
            have HO5 := Lib.hid hown5
            clear hown5 bc bf
            go_wp2
            go_roundw
            case rel => exact ⟨j + 1, by omega, by go_num, by rw [HN.out, HD2.out, ← List.append_assoc]; exact HO5.out, hbel5⟩
            case measure => simp [intOf]; omega
        · have e : d.take j = d := List.take_of_length_le (by omega)
          rw [e] at hown
          have HO := Lib.hid hown
          clear hown e
          go_wp2
          go_roundw
          case rel => exact ⟨k + 1, by omega, by go_num, by rw [HF.out]; exact HO.out, hbel⟩
          case measure => simp [intOf]; omega
    · have e : ps.take k = ps := List.take_of_length_le (by omega)
      rw [e] at hown
      have HO := Lib.hid hown
      clear hown e
      go_wp2
      go_ret
      exact ⟨⟨_, rfl, HO.out⟩, hbel⟩
end Go.Proofs.Ytlgafmgohinkbaa
/- Rows that the program makes, as owned ones; names joined. -/
namespace Go.Proofs.Ytlgafmgohinkbaa
open Go.RowKit

theorem own_rdns {T : TypeId} {B : Nat} {w : World} {v : Value} {l : RdnL} (h : w.ownsRow B T 2 v l.length (rs l)) : SlOwn rdnE (fun b => B ≤ b ∧ b < w.heap.size) w l v :=
  Grow.own (e := rdnE) (T := T) (xs := rs l) ⟨h, fun _ => Nil, fun i _ => ⟨fun b x => x.elim, fun _ _ x => x⟩, fun _ _ _ _ _ _ x => x.elim, fun i hi => ⟨[.string l[i].1, .string l[i].2], fun j hj => by
    obtain ⟨g0, g1⟩ := rs_get l i hi
    match j, hj with
    | 0, _ => exact g0
    | 1, _ => exact g1, rdn_pack (S := Nil) (w := w) l[i].1 l[i].2 trivial⟩⟩
theorem own_nilS {α : Type} (e : Enc α) (S : Bs) (w : World) : SlOwn e S w [] (.slice none 0 0) := ⟨none, 0, rfl, Nat.le_refl _, fun _ => rfl, .inl rfl⟩
/-- one name joined is a copy of it -/
theorem joinOne_any (o k : _) (dn : RdnL) (W : World) (T : TypeId) (hd : DnAt W o dn) (hf : Fits dn) : Calls Try.prog 123 #[.slice (some ⟨W.heap.size, 0, none⟩) 1 1] (W.alloc (.cells #[.slice o dn.length k] T)) fun e w' => ∃ u, e = .returned u ∧ SlOwn rdnE (Fresh W w') w' dn u ∧ Below W.heap.size W w' := by
  have := joinRdns_any W.heap.size 0 1 [(o, k, dn)] (W.alloc (.cells #[.slice o dn.length k] T)) ⟨by simp, fun i hi => by
    match i, hi with
    | 0, _ => exact ⟨by simp, hd.below (more' (Below.refl _ _) _), hf⟩⟩ (by simp)
  have e : flat [(o, k, dn)] = dn := by simp [flat]
  rw [e] at this
  exact this.mono fun e w' ⟨⟨v, he, ho⟩, hb⟩ => ⟨v, he, (own_rdns ho).wide (fun b h => ⟨by have h1 : (W.alloc (.cells #[.slice o dn.length k] T)).heap.size ≤ b := h.1; have h2 : (W.alloc (.cells #[.slice o dn.length k] T)).heap.size = W.heap.size + 1 := World.size_alloc W _; omega, h.2⟩), (more' (Below.refl _ _) _).trans (hb.mono (by simp))⟩
end Go.Proofs.Ytlgafmgohinkbaa
/- The program copies a Class. -/
namespace Go.Proofs.Ytlgafmgohinkbaa
open Go.RowKit
attribute [local go_sem ↓] Go.wp_at_zero Go.wp_at_succ

set_option maxRecDepth 100000 in
set_option maxHeartbeats 4000000 in
theorem cpyClass_any {S : Bs} (a0 : ByteArray) (a1 : (List ByteArray)) (a2 : (List ByteArray)) (a3 : (List ByteArray)) (v1 v2 v3 : Value) (w : World) (h1 : SlAt strE S w a1 v1) (h2 : SlAt strE S w a2 v2) (h3 : SlAt strE S w a3 v3) (hz : classE.sz (a0, a1, a2, a3) ≤ 1048576) :
    Calls Try.prog 107 #[.agg #[.string a0, v1, v2, v3]] w fun e w' => ∃ u1 u2 u3, e = .returned (.agg #[.string a0, u1, u2, u3]) ∧ classE.Own (Fresh w w') w' (a0, a1, a2, a3) [.string a0, u1, u2, u3] ∧ Below w.heap.size w w' := by
  have HE : classE.sz (a0, a1, a2, a3) = a0.size + ((a1.length + szL strE a1) + ((a2.length + szL strE a2) + ((a3.length + szL strE a3)))) := rfl
  rw [HE] at hz
  obtain ⟨o1, k1, rfl⟩ := h1.sl
  obtain ⟨o2, k2, rfl⟩ := h2.sl
  obtain ⟨o3, k3, rfl⟩ := h3.sl
  have z0 : a0.size ≤ 1048576 := by omega
  have CT1 : Hid (∀ W : World, Below w.heap.size w W → Calls Try.prog 129 #[.slice o1 a1.length k1] W fun e w' => ∃ u, e = .returned u ∧ SlOwn strE (Fresh W w') w' a1 u ∧ Below W.heap.size W w') := Lib.hid (fun W b => (copyTexts_any o1 a1 k1 W ((strs_of h1).below b) (fits_str (by omega))).mono fun e w' ⟨⟨v, he, ho⟩, hb⟩ => ⟨v, he, own_texts ho, hb⟩)
  have CT2 : Hid (∀ W : World, Below w.heap.size w W → Calls Try.prog 129 #[.slice o2 a2.length k2] W fun e w' => ∃ u, e = .returned u ∧ SlOwn strE (Fresh W w') w' a2 u ∧ Below W.heap.size W w') := Lib.hid (fun W b => (copyTexts_any o2 a2 k2 W ((strs_of h2).below b) (fits_str (by omega))).mono fun e w' ⟨⟨v, he, ho⟩, hb⟩ => ⟨v, he, own_texts ho, hb⟩)
  have CT3 : Hid (∀ W : World, Below w.heap.size w W → Calls Try.prog 129 #[.slice o3 a3.length k3] W fun e w' => ∃ u, e = .returned u ∧ SlOwn strE (Fresh W w') w' a3 u ∧ Below W.heap.size W w') := Lib.hid (fun W b => (copyTexts_any o3 a3 k3 W ((strs_of h3).below b) (fits_str (by omega))).mono fun e w' ⟨⟨v, he, ho⟩, hb⟩ => ⟨v, he, own_texts ho, hb⟩)
  clear h1 h2 h3 hz HE
  go_enter Try.func107, Try.ntmps107
  go_wp2
  refine wp_world (fun W => Below w.heap.size w W ∧ Blk W w.heap.size [.string a0, .slice o1 a1.length k1, .slice o2 a2.length k2, .slice o3 a3.length k3] ∧ Blk W (w.heap.size + 1) [.string ⟨#[]⟩, .slice none 0 0, .slice none 0 0, .slice none 0 0]) ⟨more' (more' (Below.refl _ _) _) _, (Blk.new _ _ _).alloc _, blk_at _ _ _ (by simp)⟩ ?_
  rintro W0 ⟨B, ta, tr⟩
  have TA := Lib.hid ta; have TR := Lib.hid tr
  have hn : w.heap.size + 1 < W0.heap.size := tr.lt
  clear ta tr
  have SK : Hid (∀ Z' : World, Below W0.heap.size W0 Z' → Z'.cell? ⟨w.heap.size, 0, none⟩ = some (.string a0) ∧ Z'.cell? ⟨w.heap.size, 1, none⟩ = some (.slice o1 a1.length k1) ∧ Z'.cell? ⟨w.heap.size, 2, none⟩ = some (.slice o2 a2.length k2) ∧ Z'.cell? ⟨w.heap.size, 3, none⟩ = some (.slice o3 a3.length k3)) := Lib.hid (fun Z' h => ⟨(TA.out.below h).cell 0 rfl, (TA.out.below h).cell 1 rfl, (TA.out.below h).cell 2 rfl, (TA.out.below h).cell 3 rfl⟩)
  have BD : Below W0.heap.size W0 W0.drew := (Below.refl _ _).drew
  refine wp_region_held_drew (S := (fun Z' => Z'.cell? ⟨w.heap.size, 0, none⟩ = some (.string a0) ∧ Z'.cell? ⟨w.heap.size, 1, none⟩ = some (.slice o1 a1.length k1) ∧ Z'.cell? ⟨w.heap.size, 2, none⟩ = some (.slice o2 a2.length k2) ∧ Z'.cell? ⟨w.heap.size, 3, none⟩ = some (.slice o3 a3.length k3))) (by kernel_rfl) ?_ (fun hHeld => ?_)
  · (try dsimp only)
    first | exact SK.out _ (by assumption) | exact SK.out _ BD | exact SK.out _ (more' (by assumption) _) | exact SK.out _ (more' BD _) | exact SX.out _ _ _ _
  refine wpAnyH_take (i := 0) (oi := { dst := some 3, op := Op.fieldAddr 63 (Operand.tmp 1) 0, type := 0, pos := "l05_schema.go:102", after := #[], guard := none }) (v := ?_) rfl (by kernel_rfl) (by kernel_rfl) (by kernel_rfl) (fun _ _ _ h => h) (Or.inl ⟨by rfl, ?_⟩) (by assumption) ?_
  rotate_left
  · intro w hSw; (try dsimp only at hSw); go_simp; (try with_reducible rfl)
  (try simp only [Act.put, List.setIfInBounds_toArray, List.set_cons_zero, List.set_cons_succ])
  refine wpAnyH_take (i := 1) (oi := { dst := some 4, op := Op.load 9 (Operand.tmp 3), type := 9, pos := "l05_schema.go:102", after := #[{ on := 0, ground := Ground.data }], guard := none }) (v := ?_) rfl (by kernel_rfl) (by kernel_rfl) (by kernel_rfl) (fun _ _ _ h => h) (Or.inl ⟨by rfl, ?_⟩) (by assumption) ?_
  rotate_left
  · intro w hSw; (try dsimp only at hSw); go_simp; (try with_reducible rfl)
  (try simp only [Act.put, List.setIfInBounds_toArray, List.set_cons_zero, List.set_cons_succ])
  refine wpAnyH_take (i := 4) (oi := { dst := some 7, op := Op.fieldAddr 63 (Operand.tmp 1) 1, type := 0, pos := "l05_schema.go:102", after := #[], guard := none }) (v := ?_) rfl (by kernel_rfl) (by kernel_rfl) (by kernel_rfl) (fun _ _ _ h => h) (Or.inl ⟨by rfl, ?_⟩) (by assumption) ?_
  rotate_left
  · intro w hSw; (try dsimp only at hSw); go_simp; (try with_reducible rfl)
  (try simp only [Act.put, List.setIfInBounds_toArray, List.set_cons_zero, List.set_cons_succ])
  refine wpAnyH_take (i := 5) (oi := { dst := some 8, op := Op.load 29 (Operand.tmp 7), type := 29, pos := "l05_schema.go:102", after := #[{ on := 4, ground := Ground.data }], guard := none }) (v := ?_) rfl (by kernel_rfl) (by kernel_rfl) (by kernel_rfl) (fun _ _ _ h => h) (Or.inl ⟨by rfl, ?_⟩) (by assumption) ?_
  rotate_left
  · intro w hSw; (try dsimp only at hSw); go_simp; (try with_reducible rfl)
  (try simp only [Act.put, List.setIfInBounds_toArray, List.set_cons_zero, List.set_cons_succ])
  refine wpAnyH_take (i := 7) (oi := { dst := some 10, op := Op.fieldAddr 63 (Operand.tmp 1) 2, type := 0, pos := "l05_schema.go:102", after := #[], guard := none }) (v := ?_) rfl (by kernel_rfl) (by kernel_rfl) (by kernel_rfl) (fun _ _ _ h => h) (Or.inl ⟨by rfl, ?_⟩) (by assumption) ?_
  rotate_left
  · intro w hSw; (try dsimp only at hSw); go_simp; (try with_reducible rfl)
  (try simp only [Act.put, List.setIfInBounds_toArray, List.set_cons_zero, List.set_cons_succ])
  refine wpAnyH_take (i := 8) (oi := { dst := some 11, op := Op.load 29 (Operand.tmp 10), type := 29, pos := "l05_schema.go:102", after := #[{ on := 7, ground := Ground.data }], guard := none }) (v := ?_) rfl (by kernel_rfl) (by kernel_rfl) (by kernel_rfl) (fun _ _ _ h => h) (Or.inl ⟨by rfl, ?_⟩) (by assumption) ?_
  rotate_left
  · intro w hSw; (try dsimp only at hSw); go_simp; (try with_reducible rfl)
  (try simp only [Act.put, List.setIfInBounds_toArray, List.set_cons_zero, List.set_cons_succ])
  refine wpAnyH_take (i := 10) (oi := { dst := some 13, op := Op.fieldAddr 63 (Operand.tmp 1) 3, type := 0, pos := "l05_schema.go:102", after := #[], guard := none }) (v := ?_) rfl (by kernel_rfl) (by kernel_rfl) (by kernel_rfl) (fun _ _ _ h => h) (Or.inl ⟨by rfl, ?_⟩) (by assumption) ?_
  rotate_left
  · intro w hSw; (try dsimp only at hSw); go_simp; (try with_reducible rfl)
  (try simp only [Act.put, List.setIfInBounds_toArray, List.set_cons_zero, List.set_cons_succ])
  refine wpAnyH_take (i := 11) (oi := { dst := some 14, op := Op.load 29 (Operand.tmp 13), type := 29, pos := "l05_schema.go:102", after := #[{ on := 10, ground := Ground.data }], guard := none }) (v := ?_) rfl (by kernel_rfl) (by kernel_rfl) (by kernel_rfl) (fun _ _ _ h => h) (Or.inl ⟨by rfl, ?_⟩) (by assumption) ?_
  rotate_left
  · intro w hSw; (try dsimp only at hSw); go_simp; (try with_reducible rfl)
  (try simp only [Act.put, List.setIfInBounds_toArray, List.set_cons_zero, List.set_cons_succ])
  refine wpAnyH_ready (rs := [2]) (by kernel_rfl) (by simp) ?_
  refine AllReadyH.cons (o := { dst := some 5, op := Op.buildSlice 29 1 #[(0, Operand.tmp 4)], type := 29, pos := "l05_schema.go:102", after := #[{ on := 1, ground := Ground.data }], guard := none }) rfl (fun K hK => ?_) (AllReadyH.nil)
  go_simp
  clear hHeld
  refine hK.out _ _ ?_ (fun hHeld => ?_)
  · (try dsimp only)
    first | exact SK.out _ (by assumption) | exact SK.out _ BD | exact SK.out _ (more' (by assumption) _) | exact SK.out _ (more' BD _) | exact SX.out _ _ _ _
  clear hK K
  (try simp only [Act.put, List.setIfInBounds_toArray, List.set_cons_zero, List.set_cons_succ])
  refine wpAnyH_ready (rs := [3]) (by kernel_rfl) (by simp) ?_
  refine AllReadyH.cons (o := { dst := some 6, op := Op.call { callee := Callee.value (Operand.func 76), args := #[Operand.tmp 5], argTypes := #[29] }, type := 9, pos := "l05_schema.go:102", after := #[{ on := 2, ground := Ground.data }], guard := none }) rfl (fun K hK => ?_) (AllReadyH.nil)
  go_simp
  refine (concat_copy a0 W0.drew (by omega)).mono ?_
  rintro e w1 ⟨rfl, hb⟩
  have D1 : Below W0.heap.size W0 w1 := BD.trans (hb.mono BD.size)
  have b1 : Below w.heap.size w w1 := B.trans (D1.mono B.size)
  have hs1 : W0.heap.size ≤ w1.heap.size := hb.size
  clear hb
  clear hHeld
  refine hK.out _ _ ?_ (fun hHeld => ?_)
  · (try dsimp only)
    first | exact SK.out _ (by assumption) | exact SK.out _ BD | exact SK.out _ (more' (by assumption) _) | exact SK.out _ (more' BD _) | exact SX.out _ _ _ _
  clear hK K
  (try simp only [Act.put, List.setIfInBounds_toArray, List.set_cons_zero, List.set_cons_succ])
  refine wpAnyH_ready (rs := [6]) (by kernel_rfl) (by simp) ?_
  refine AllReadyH.cons (o := { dst := some 9, op := Op.call { callee := Callee.value (Operand.func 129), args := #[Operand.tmp 8], argTypes := #[29] }, type := 29, pos := "l05_schema.go:102", after := #[{ on := 5, ground := Ground.data }, { on := 3, ground := Ground.chain }], guard := none }) rfl (fun K hK => ?_) (AllReadyH.nil)
  go_simp
  refine (CT1.out w1 b1).mono ?_
  rintro e w2 ⟨u1, rfl, q1, hb⟩
  have D2 : Below W0.heap.size W0 w2 := D1.trans (hb.mono D1.size)
  have b2 : Below w.heap.size w w2 := B.trans (D2.mono B.size)
  have hs2 : w1.heap.size ≤ w2.heap.size := hb.size
  have Q1 := Lib.hid q1; obtain ⟨p1, e1, rfl⟩ := q1.at.sl; clear q1
  clear hb
  clear hHeld
  refine hK.out _ _ ?_ (fun hHeld => ?_)
  · (try dsimp only)
    first | exact SK.out _ (by assumption) | exact SK.out _ BD | exact SK.out _ (more' (by assumption) _) | exact SK.out _ (more' BD _) | exact SX.out _ _ _ _
  clear hK K
  (try simp only [Act.put, List.setIfInBounds_toArray, List.set_cons_zero, List.set_cons_succ])
  refine wpAnyH_ready (rs := [9]) (by kernel_rfl) (by simp) ?_
  refine AllReadyH.cons (o := { dst := some 12, op := Op.call { callee := Callee.value (Operand.func 129), args := #[Operand.tmp 11], argTypes := #[29] }, type := 29, pos := "l05_schema.go:102", after := #[{ on := 8, ground := Ground.data }, { on := 6, ground := Ground.chain }], guard := none }) rfl (fun K hK => ?_) (AllReadyH.nil)
  go_simp
  refine (CT2.out w2 b2).mono ?_
  rintro e w3 ⟨u2, rfl, q2, hb⟩
  have D3 : Below W0.heap.size W0 w3 := D2.trans (hb.mono D2.size)
  have b3 : Below w.heap.size w w3 := B.trans (D3.mono B.size)
  have hs3 : w2.heap.size ≤ w3.heap.size := hb.size
  have P := Lib.hid (Q1.out.frame (Same.of_below' hb)); clear Q1; have Q1 := P; clear P
  have Q2 := Lib.hid q2; obtain ⟨p2, e2, rfl⟩ := q2.at.sl; clear q2
  clear hb
  clear hHeld
  refine hK.out _ _ ?_ (fun hHeld => ?_)
  · (try dsimp only)
    first | exact SK.out _ (by assumption) | exact SK.out _ BD | exact SK.out _ (more' (by assumption) _) | exact SK.out _ (more' BD _) | exact SX.out _ _ _ _
  clear hK K
  (try simp only [Act.put, List.setIfInBounds_toArray, List.set_cons_zero, List.set_cons_succ])
  refine wpAnyH_ready (rs := [12]) (by kernel_rfl) (by simp) ?_
  refine AllReadyH.cons (o := { dst := some 15, op := Op.call { callee := Callee.value (Operand.func 129), args := #[Operand.tmp 14], argTypes := #[29] }, type := 29, pos := "l05_schema.go:102", after := #[{ on := 11, ground := Ground.data }, { on := 9, ground := Ground.chain }], guard := none }) rfl (fun K hK => ?_) (AllReadyH.nil)
  go_simp
  refine (CT3.out w3 b3).mono ?_
  rintro e w4 ⟨u3, rfl, q3, hb⟩
  have D4 : Below W0.heap.size W0 w4 := D3.trans (hb.mono D3.size)
  have b4 : Below w.heap.size w w4 := B.trans (D4.mono B.size)
  have hs4 : w3.heap.size ≤ w4.heap.size := hb.size
  have P := Lib.hid (Q1.out.frame (Same.of_below' hb)); clear Q1; have Q1 := P; clear P
  have P := Lib.hid (Q2.out.frame (Same.of_below' hb)); clear Q2; have Q2 := P; clear P
  have Q3 := Lib.hid q3; obtain ⟨p3, e3, rfl⟩ := q3.at.sl; clear q3
  clear hb
  have TX := Lib.hid (TA.out.below D4); have RX := Lib.hid (TR.out.below D4)
  have x0 := RX.out.cell 0 rfl; have f0 := RX.out.soft 0
  have x1 := RX.out.cell 1 rfl; have f1 := RX.out.soft 1
  have x2 := RX.out.cell 2 rfl; have f2 := RX.out.soft 2
  have x3 := RX.out.cell 3 rfl; have f3 := RX.out.soft 3
  have SX : Hid (∀ y0 y1 y2 y3 : Value, ((((w4.setCell ⟨w.heap.size + 1, 0, none⟩ y0).setCell ⟨w.heap.size + 1, 1, none⟩ y1).setCell ⟨w.heap.size + 1, 2, none⟩ y2).setCell ⟨w.heap.size + 1, 3, none⟩ y3).cell? ⟨w.heap.size, 0, none⟩ = some (.string a0) ∧ ((((w4.setCell ⟨w.heap.size + 1, 0, none⟩ y0).setCell ⟨w.heap.size + 1, 1, none⟩ y1).setCell ⟨w.heap.size + 1, 2, none⟩ y2).setCell ⟨w.heap.size + 1, 3, none⟩ y3).cell? ⟨w.heap.size, 1, none⟩ = some (.slice o1 a1.length k1) ∧ ((((w4.setCell ⟨w.heap.size + 1, 0, none⟩ y0).setCell ⟨w.heap.size + 1, 1, none⟩ y1).setCell ⟨w.heap.size + 1, 2, none⟩ y2).setCell ⟨w.heap.size + 1, 3, none⟩ y3).cell? ⟨w.heap.size, 2, none⟩ = some (.slice o2 a2.length k2) ∧ ((((w4.setCell ⟨w.heap.size + 1, 0, none⟩ y0).setCell ⟨w.heap.size + 1, 1, none⟩ y1).setCell ⟨w.heap.size + 1, 2, none⟩ y2).setCell ⟨w.heap.size + 1, 3, none⟩ y3).cell? ⟨w.heap.size, 3, none⟩ = some (.slice o3 a3.length k3)) := Lib.hid (fun y0 y1 y2 y3 => ⟨((((TX.out.far (by omega) y0).far (by omega) y1).far (by omega) y2).far (by omega) y3).cell 0 rfl, ((((TX.out.far (by omega) y0).far (by omega) y1).far (by omega) y2).far (by omega) y3).cell 1 rfl, ((((TX.out.far (by omega) y0).far (by omega) y1).far (by omega) y2).far (by omega) y3).cell 2 rfl, ((((TX.out.far (by omega) y0).far (by omega) y1).far (by omega) y2).far (by omega) y3).cell 3 rfl⟩)
  clear hHeld
  refine hK.out _ _ ?_ (fun hHeld => ?_)
  · (try dsimp only)
    first | exact SK.out _ (by assumption) | exact SK.out _ BD | exact SK.out _ (more' (by assumption) _) | exact SK.out _ (more' BD _) | exact SX.out _ _ _ _
  clear hK K
  (try simp only [Act.put, List.setIfInBounds_toArray, List.set_cons_zero, List.set_cons_succ])
  refine wpAnyH_take (i := 13) (oi := { dst := some 16, op := Op.build 63 #[(0, Operand.tmp 6), (1, Operand.tmp 9), (2, Operand.tmp 12), (3, Operand.tmp 15)], type := 63, pos := "l05_schema.go:102", after := #[{ on := 3, ground := Ground.data }, { on := 6, ground := Ground.data }, { on := 9, ground := Ground.data }, { on := 12, ground := Ground.data }], guard := none }) (v := ?_) rfl (by kernel_rfl) (by kernel_rfl) (by kernel_rfl) (fun _ _ _ h => h) (Or.inl ⟨by rfl, ?_⟩) (by assumption) ?_
  rotate_left
  · intro w hSw; (try dsimp only at hSw); go_simp; (try with_reducible rfl)
  (try simp only [Act.put, List.setIfInBounds_toArray, List.set_cons_zero, List.set_cons_succ])
  refine wpAnyH_ready (rs := [14]) (by kernel_rfl) (by simp) ?_
  refine AllReadyH.cons (o := { dst := none, op := Op.store 63 (Operand.tmp 2) (Operand.tmp 16), type := 0, pos := "l05_schema.go:102", after := #[{ on := 13, ground := Ground.data }, { on := 12, ground := Ground.chain }, { on := 0, ground := Ground.phase }, { on := 1, ground := Ground.phase }, { on := 2, ground := Ground.phase }, { on := 3, ground := Ground.phase }, { on := 4, ground := Ground.phase }, { on := 5, ground := Ground.phase }, { on := 6, ground := Ground.phase }, { on := 7, ground := Ground.phase }, { on := 8, ground := Ground.phase }, { on := 9, ground := Ground.phase }, { on := 10, ground := Ground.phase }, { on := 11, ground := Ground.phase }, { on := 12, ground := Ground.phase }, { on := 13, ground := Ground.phase }], guard := none }) rfl (fun K hK => ?_) (AllReadyH.nil)
  go_simp
  clear hHeld
  refine hK.out _ _ ?_ (fun hHeld => ?_)
  · (try dsimp only)
    first | exact SK.out _ (by assumption) | exact SK.out _ BD | exact SK.out _ (more' (by assumption) _) | exact SK.out _ (more' BD _) | exact SX.out _ _ _ _
  clear hK K
  (try simp only [Act.put, List.setIfInBounds_toArray, List.set_cons_zero, List.set_cons_succ])
  refine wpAnyH_done (by kernel_rfl) ?_ _
  have TE := ((((RX.out.set 0 (.string a0)).set 1 (.slice p1 a1.length e1)).set 2 (.slice p2 a2.length e2)).set 3 (.slice p3 a3.length e3))
  have j0 := TE.cell 0 rfl
  have j1 := TE.cell 1 rfl
  have j2 := TE.cell 2 rfl
  have j3 := TE.cell 3 rfl
  clear TE
  go_wp2
  refine bodyPost_ret (v := .agg #[.string a0, .slice p1 a1.length e1, .slice p2 a2.length e2, .slice p3 a3.length e3]) (by simp [results, Try.results107, go_sem, j0, j1, j2, j3]) rfl ⟨_, _, _, rfl, ?_, ?_⟩
  · have hdr : W0.drew.heap.size = W0.heap.size := rfl
    have g1 := ((((Q1.out.frame (Same.set _ (g := w.heap.size + 1) 0 (.string a0) (by intro h; have := h.1; omega))).frame (Same.set _ (g := w.heap.size + 1) 1 (.slice p1 a1.length e1) (by intro h; have := h.1; omega))).frame (Same.set _ (g := w.heap.size + 1) 2 (.slice p2 a2.length e2) (by intro h; have := h.1; omega))).frame (Same.set _ (g := w.heap.size + 1) 3 (.slice p3 a3.length e3) (by intro h; have := h.1; omega)))
    have g2 := ((((Q2.out.frame (Same.set _ (g := w.heap.size + 1) 0 (.string a0) (by intro h; have := h.1; omega))).frame (Same.set _ (g := w.heap.size + 1) 1 (.slice p1 a1.length e1) (by intro h; have := h.1; omega))).frame (Same.set _ (g := w.heap.size + 1) 2 (.slice p2 a2.length e2) (by intro h; have := h.1; omega))).frame (Same.set _ (g := w.heap.size + 1) 3 (.slice p3 a3.length e3) (by intro h; have := h.1; omega)))
    have g3 := ((((Q3.out.frame (Same.set _ (g := w.heap.size + 1) 0 (.string a0) (by intro h; have := h.1; omega))).frame (Same.set _ (g := w.heap.size + 1) 1 (.slice p1 a1.length e1) (by intro h; have := h.1; omega))).frame (Same.set _ (g := w.heap.size + 1) 2 (.slice p2 a2.length e2) (by intro h; have := h.1; omega))).frame (Same.set _ (g := w.heap.size + 1) 3 (.slice p3 a3.length e3) (by intro h; have := h.1; omega)))
    exact class_pack a0 a1 a2 a3 _ _ _ (Fresh w1 w2) (Fresh w2 w3) (Fresh w3 w4) ⟨g1, fun k z => ⟨by have := z.1; omega, by have := z.2; show _ < (World.heap _).size; simp only [setCell_size]; omega⟩, g2, fun k z => ⟨by have := z.1; omega, by have := z.2; show _ < (World.heap _).size; simp only [setCell_size]; omega⟩, g3, fun k z => ⟨by have := z.1; omega, by have := z.2; show _ < (World.heap _).size; simp only [setCell_size]; omega⟩, fun k h1 h2 => by have := h1.2; have := h2.1; omega, fun k h1 h2 => by have := h1.2; have := h2.1; omega, fun k h1 h2 => by have := h1.2; have := h2.1; omega, trivial⟩
  · exact ((((b4.setCell (p := ⟨w.heap.size + 1, 0, none⟩) (by show w.heap.size ≤ w.heap.size + 1; omega) _).setCell (p := ⟨w.heap.size + 1, 1, none⟩) (by show w.heap.size ≤ w.heap.size + 1; omega) _).setCell (p := ⟨w.heap.size + 1, 2, none⟩) (by show w.heap.size ≤ w.heap.size + 1; omega) _).setCell (p := ⟨w.heap.size + 1, 3, none⟩) (by show w.heap.size ≤ w.heap.size + 1; omega) _)
end Go.Proofs.Ytlgafmgohinkbaa
