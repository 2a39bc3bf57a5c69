/- The law FnSeal: its walk. -/
import Derived.Test.YtifcplmgdndmhaaDraw
import Derived.Test.YtifcplmgdndmhaaSealMath
import Derived.OpenShut
namespace Go.Proofs.Ytifcplmgdndmhaa
open Go.RowKit

theorem grown_of_below {w w' : World} (h : Below w.heap.size w w') : w.grownBy w' none := ⟨h.os, h.tape, h.output, h.size, fun k hk _ => h.block k hk⟩
theorem below_of_grown {w w' : World} (h : w.grownBy w' none) : Below w.heap.size w w' := ⟨h.os, h.tape, h.output, h.size, fun k hk => h.block k hk (by simp)⟩
theorem Row.on {w w' : World} {ao : Option Addr} {len : Nat} (h : Row w w.heap.size ao len) (hg : w.grownBy w' none) : Row w' w'.heap.size ao len := by
  rcases h with h | ⟨b, off, h1, h2, h4⟩
  · exact .inl h
  · exact .inr ⟨b, off, h1, Nat.lt_of_lt_of_le h2 hg.size, fun j hj => by
      obtain ⟨v, hv, hv1⟩ := h4 j hj
      exact ⟨v, hg.cell hv (by simp), hv1⟩⟩
/-- []byte(s): a new block that begins with the bytes of s -/
theorem bytes_of (s : ByteArray) (w : World) :
    ∃ (W : World) (cp : Nat) (C : Array Value), (convert 9 22 (.string s)).run Try.prog w = .ok (.slice (some ⟨w.heap.size, 0, none⟩) s.size cp) W ∧ w.grownBy W none ∧ W.heap.size = w.heap.size + 1 ∧
      (∀ j (hj : j < s.size), W.cell? ⟨w.heap.size, j, none⟩ = some (.int .u8 (s[j].toNat : Int))) ∧ (∀ j, j < s.size → W.frozen? ⟨w.heap.size, j, none⟩ = false) := by
  refine ⟨_, _, bytesRow s (grownCap w s.size 0 5), run_bytes_of_string w 9 22 5 s Try.underlying9 Try.underlying22 Try.underlying5, ?_, ?_, ?_, ?_⟩
  · exact grown_trans (grown_drew (grown_refl w none)) (World.grownBy_alloc _ _ _)
  · exact Array.size_push ..
  · intro j hj
    have h := World.cell?_alloc_mark w.drew (bytesRow s (grownCap w s.size 0 5)) 5 ((bytesRow s (grownCap w s.size 0 5)).size, (bytesRow s (grownCap w s.size 0 5)).size + 1) j
    exact h.trans (bytesRow_at s _ j hj)
  · intro j hj
    have h := World.frozen?_alloc_mark w.drew (bytesRow s (grownCap w s.size 0 5)) 5 (bytesRow s (grownCap w s.size 0 5)).size ((bytesRow s (grownCap w s.size 0 5)).size + 1) j
    refine h.trans ?_
    have hz : s.size ≤ (bytesRow s (grownCap w s.size 0 5)).size := by unfold bytesRow; rw [Array.size_append, Array.size_map]; exact Nat.le_add_right _ _
    have : decide ((bytesRow s (grownCap w s.size 0 5)).size ≤ j) = false := decide_eq_false (by omega)
    rw [this]; rfl

/-- a byte turned is another byte -/
theorem turned (c : UInt8) (v : Int) (h0 : 0 ≤ v) (h1 : v < 255) : ∃ x : UInt8, x ≠ c ∧ bits .xor .u8 (c.toNat : Int) (IntKind.u8.wrap (IntKind.i64.wrap (1 + v))) = (x.toNat : Int) := by
  obtain ⟨n, rfl⟩ := Int.eq_ofNat_of_zero_le h0
  have hn : n < 255 := by omega
  refine ⟨c ^^^ UInt8.ofNat (1 + n), ?_, ?_⟩
  · intro h
    have h' : UInt8.ofNat (1 + n) = 0 := by
      have := congrArg (c ^^^ ·) h
      simpa [← UInt8.xor_assoc] using this
    have := congrArg UInt8.toNat h'
    simp at this
    omega
  · have e : IntKind.u8.wrap (IntKind.i64.wrap (1 + (n : Int))) = ((1 + n : Nat) : Int) := by rw [IntKind.wrap_i64, IntKind.wrap_u8]; omega
    have hx : c.toNat ^^^ (1 + n) < 2 ^ 8 := Nat.xor_lt_two_pow c.toNat_lt (by omega)
    rw [e]
    show IntKind.u8.wrap ((BitVec.ofInt 8 (c.toNat : Int) ^^^ BitVec.ofInt 8 ((1 + n : Nat) : Int)).toNat : Int) = _
    rw [BitVec.ofInt_natCast, BitVec.ofInt_natCast, BitVec.toNat_xor, BitVec.toNat_ofNat, BitVec.toNat_ofNat, Nat.mod_eq_of_lt c.toNat_lt, Nat.mod_eq_of_lt (show 1 + n < 2 ^ 8 by omega), IntKind.wrap_u8, UInt8.toNat_xor]
    have e2 : (UInt8.ofNat (1 + n)).toNat = 1 + n := by simp; omega
    rw [e2]
    omega

theorem lwAt_0 (ao : Option Addr) (len cap : Nat) (y : Int) (w : World) (hR : Row w w.heap.size ao len) (hl : len ≤ 1048576) (hy : 1 ≤ y) (hy2 : y ≤ 1000000) :
    Calls Try.prog 14 #[.slice ao len cap, .int .i64 0, .int .i64 y] w fun e w' => InRange y e ∧ w = w' := lwAt_any _ ao len cap 0 y w hR hl (by omega) hy hy2
theorem lwAt_1 (ao : Option Addr) (len cap : Nat) (w : World) (hR : Row w w.heap.size ao len) (hl : len ≤ 1048576) :
    Calls Try.prog 14 #[.slice ao len cap, .int .i64 1, .int .i64 255] w fun e w' => InRange 255 e ∧ w = w' := lwAt_any _ ao len cap 1 255 w hR hl (by omega) (by omega) (by omega)
theorem Row.drewN {w : World} {q : Nat} {ao : Option Addr} {len n : Nat} (h : Row w q ao len) : Row (w.drewN n) q ao len := h
theorem Row.drew {w : World} {q : Nat} {ao : Option Addr} {len : Nat} (h : Row w q ao len) : Row w.drew q ao len := h

theorem field27 (T : ByteArray) (w : World) : (Instr.field 27 (.agg #[.string T, .int .i64 0, .int .i64 5]) 2).run Try.prog w = .ok (.int .i64 5) w := by kernel_rfl
theorem calls_world {P : Program} {f : Nat} {args : Array Value} {w : World} {Q : Ending → World → Prop} (R : World → Prop) (h : R w) (k : ∀ W, R W → Calls P f args W Q) : Calls P f args w Q := k w h
theorem set_cells {W : World} {B : Nat} {s : ByteArray} (i : Nat) (x : UInt8) (hi : i < s.size) (h : ∀ j (hj : j < s.size), W.cell? ⟨B, j, none⟩ = some (.int .u8 (s[j].toNat : Int))) :
    ∀ j (hj : j < (s.data.toList.set i x).length), (W.setCell ⟨B, i, none⟩ (.int .u8 (x.toNat : Int))).drew.cell? ⟨B, j, none⟩ = some (.int .u8 ((s.data.toList.set i x)[j].toNat : Int)) := by
  intro j hj
  rw [List.length_set, size_len] at hj
  show (W.setCell ⟨B, i, none⟩ (.int .u8 (x.toNat : Int))).cell? ⟨B, j, none⟩ = _
  by_cases e : i = j
  · subst e
    rw [List.getElem_set_self]
    exact World.cell?_setCell_same' _ _ _ (by rw [h i hi]; rfl)
  · rw [List.getElem_set_ne e, World.cell?_setCell_other _ _ _ _ (fun g => e (by injection g)), h j hj]
    rfl

set_option maxRecDepth 100000 in
set_option maxHeartbeats 4000000 in
theorem FnSeal_walk (a0 a1 : Option Addr) (len0 cap0 len1 cap1 : Nat) (w : World) (hR0 : Row w w.heap.size a0 len0) (hR1 : Row w w.heap.size a1 len1) (hl0 : len0 ≤ 1048576) (hl1 : len1 ≤ 1048576) :
    Calls Try.prog 3 #[.slice a0 len0 cap0, .slice a1 len1 cap1] w fun e w' => e = .returned (.bool true) ∧ Below w.heap.size w w' := by
  have R0 := Lib.hid hR0; have R1 := Lib.hid hR1; clear hR0 hR1
  go_enter Try.func3, Try.ntmps3
  go_wp2_with fail
  refine (DrawSeal_any a0 len0 cap0 w R0.out hl0).mono ?_
  rintro e w1 ⟨⟨t, rfl, ht⟩, hg1⟩
  have G1 := Lib.hid hg1; clear hg1
  have htM : t.size ≤ maxLen := by unfold maxLen; omega
  go_wp2_with fail
  refine (Seal_any t w1 htM).mono ?_
  rintro e w2 ⟨rfl, hb2⟩
  have G2 := Lib.hid (grown_trans G1.out (grown_of_below hb2)); clear hb2
  go_wp2_with fail
  refine (SpecSeal_any t w2 htM).mono ?_
  rintro e w3 ⟨rfl, hb3⟩
  have G3 := Lib.hid (grown_trans G2.out (grown_of_below hb3)); clear hb3
  by_cases hlong : t.size ≤ 7996
  focus
    have hsz := sealed_size t hlong
    have hse : (sealV t).toList.isEmpty = false := by
      rw [Lib.toList_data, List.isEmpty_eq_false_iff]
      intro h
      have := congrArg List.length h
      rw [size_len, hsz] at this
      simp at this
    have HSZ := Lib.hid hsz; clear hsz
    obtain ⟨W, cp, C, hcv, hgW, hWs, hcell, hfr⟩ := bytes_of (sealV t) w3
    have GW := Lib.hid (grown_trans G3.out hgW); have HC := Lib.hid hcell; have HF := Lib.hid hfr; have HWs := Lib.hid hWs; clear hgW hcell hfr hWs
    go_wp2_with fail
    refine (lwAt_0 a1 len1 cap1 _ W (R1.out.on GW.out) hl1 (by have := HSZ.out; omega) (by have := HSZ.out; omega)).mono ?_
    rintro e w4 ⟨⟨v, rfl, hv0, hv1⟩, rfl⟩
    obtain ⟨i, rfl⟩ := Int.eq_ofNat_of_zero_le hv0
    have hi : i < (sealV t).size := by omega
    have hci := HC.out i hi
    have hfi := HF.out i hi
    have RW := Lib.hid (R1.out.on GW.out)
    go_wp2_with fail
    go_region_with (go_at_call 14; refine (lwAt_1 a1 len1 cap1 _ (by first | exact RW.out | exact RW.out.drew | exact RW.out.drewN) hl1).mono ?_; rintro e w5 ⟨⟨v2, rfl, hv2, hv3⟩, rfl⟩)
    all_goals
      obtain ⟨x, hx, hbx⟩ := turned (sealV t)[i] v2 hv2 hv3
      rw [hbx]
      have hset := set_cells (W := W) (B := w3.heap.size) (s := sealV t) i x hi HC.out
      have HSet := Lib.hid hset
      have hlen : i < (sealV t).data.toList.length := by rw [size_len]; exact hi
      have h5 := seal_spoilt t ⟨((sealV t).data.toList.set i x).toArray⟩ i x hlong hlen hx rfl
      have U1 := fun W => Unseal_any (sealV t) W (by have := HSZ.out; unfold maxLen; omega)
      rw [(seal_ok t hlong).1, (seal_ok t hlong).2] at U1
      have hXs : (⟨((sealV t).data.toList.set i x).toArray⟩ : ByteArray).size ≤ maxLen := by
        have := HSZ.out
        rw [← size_len, List.toList_toArray, List.length_set, size_len]; unfold maxLen; omega
      have U2 := fun W => Unseal_any ⟨((sealV t).data.toList.set i x).toArray⟩ W hXs
      rw [h5] at U2
      have HU1 := Lib.hid U1; have HU2 := Lib.hid U2; have GS := Lib.hid (grown_new (j := i) GW.out (by have := G3.out.size; omega) (.int .u8 (x.toNat : Int)))
      have HB5 : Hid (w3.heap.size < W.heap.size) := Lib.hid (by rw [HWs.out]; omega)
      have HL5 : Hid (((sealV t).data.toList.set i x).length = (sealV t).size) := Lib.hid (by rw [List.length_set, size_len])
      generalize (sealV t).data.toList.set i x = L at *
      generalize unsealT ⟨L.toArray⟩ = T5 at *
      clear hset h5 U1 U2 hbx hx hXs hlen hci hfi
      go_wp2_with fail
      refine calls_world (fun W5 => w.grownBy W5 none ∧ w3.heap.size < W5.heap.size ∧ ∀ j (hj : j < L.length), W5.cell? ⟨w3.heap.size, j, none⟩ = some (.int .u8 (L[j].toNat : Int))) ⟨grown_drew GS.out, by have := HB5.out; simpa [World.setCell] using this, HSet.out⟩ ?_
      rintro W5 ⟨g5, b5, c5⟩
      have GW5 := Lib.hid g5; have HC5 := Lib.hid c5; clear g5 c5
      refine (HU1.out W5).mono ?_
      rintro e w6 ⟨rfl, hb6⟩
      have G6 := Lib.hid (grown_trans GW5.out (grown_of_below hb6))
      have hcv2 := str22 w6 ⟨w3.heap.size, 0, none⟩ cp L (sealV t).size HL5.out (fun j hj => by rw [add_plain, hb6.cell (p := ⟨w3.heap.size, j, none⟩) b5]; exact HC5.out j hj)
      clear hb6
      go_wp2_with fail
      refine (HU2.out _).mono ?_
      rintro e w7 ⟨rfl, hb7⟩
      have G7 := Lib.hid (grown_trans G6.out (grown_of_below hb7)); clear hb7
      have hfld := field27 T5 w7
      go_wp2_with fail
      clear hfld hcv2
  rotate_left
  rotate_left
  focus
    have hse : (sealV t) = ByteArray.empty := sealV_out t hlong
    rw [hse]
    clear hse
    obtain ⟨w7, rfl⟩ : ∃ x, x = w3 := ⟨_, rfl⟩
    have G7 := G3
    go_wp2_with fail
  all_goals
    refine (DrawCrcMore_any a1 len1 cap1 w7 (R1.out.on G7.out) hl1).mono ?_
    rintro e w8 ⟨⟨c, u, rfl, hu⟩, hg8⟩
    have G8 := Lib.hid (grown_trans G7.out hg8); clear hg8
    have huM : u.size ≤ maxLen := by unfold maxLen; omega
    by_cases hbig : 8000 < t.size + u.size
    · have hbig' : (8000 : Int) < (t.size : Int) + (u.size : Int) := by omega
      go_wp2
      go_ret
      exact ⟨rfl, below_of_grown G8.out⟩
    · have hbig' : (t.size : Int) + (u.size : Int) ≤ 8000 := by omega
      have HM := Lib.hid (crc_more t u (by omega))
      have htu : (t ++ u).size ≤ maxLen := by unfold maxLen; simp; omega
      go_wp2_with fail
      refine (CrcMore_any c u w8 huM).mono ?_
      rintro e w9 ⟨rfl, rfl⟩
      go_wp2_with fail
      refine (SpecCrcMore_any c u w8 huM).mono ?_
      rintro e w9 ⟨rfl, rfl⟩
      go_wp2_with fail
      refine (Crc_any t w8 htM).mono ?_
      rintro e w9 ⟨rfl, rfl⟩
      go_wp2_with fail
      refine (CrcMore_any (crcV t) u w8 huM).mono ?_
      rintro e w9 ⟨rfl, rfl⟩
      go_wp2_with fail
      refine (Crc_any (t ++ u) w8 htu).mono ?_
      rintro e w9 ⟨rfl, rfl⟩
      rw [HM.out]
      go_wp2
      go_ret
      exact ⟨rfl, below_of_grown G8.out⟩
end Go.Proofs.Ytifcplmgdndmhaa
