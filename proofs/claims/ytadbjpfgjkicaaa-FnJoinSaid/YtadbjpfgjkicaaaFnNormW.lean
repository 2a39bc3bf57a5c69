/- The law FnNorm: its walk. -/
import Derived.Test.YtadbjpfgjkicaaaDraw2
import Derived.Test.YtadbjpfgjkicaaaNormMath2
import Derived.OpenShut
namespace Go.Proofs.Ytadbjpfgjkicaaa
open Go.RowKit

theorem normS_le (s : ByteArray) : (normS s).size ≤ s.size := by
  have := normL_le s.data.toList
  rw [size_len] at this
  exact this

theorem wpList_bare {P : Program} {ops : Array Oper} {Q : Exit → Act → World → Prop} {a : Act} {w : World} {rest : List Oper} {o : Oper} (hw : Region.wanted o (yielded ops a.tmps) = true) (h : wpList P ops Q ({ o with guard := none } :: rest) a w) : wpList P ops Q (o :: rest) a w := by
  have e : Region.wanted { o with guard := none } (yielded ops a.tmps) = true := rfl
  simp only [wpList, hw, if_true]
  simp only [wpList, e, if_true] at h
  exact h
theorem Norm_of (x n : ByteArray) (w : World) (hs : x.size ≤ maxLen) (h : normS x = n) : Calls Try.prog 17 #[.string x] w fun e w' => e = .returned (.string n) ∧ Below w.heap.size w w' := h ▸ Norm_any x w hs
theorem getB (n : ByteArray) (k : Nat) (h : k < n.size) : n.data.toList[k]'(by rw [size_len]; exact h) = n[k] := rfl
theorem fixB {n : ByteArray} {k : Nat} (hf : Fix n.data.toList) (hk : k < n.size) : low n[k] = n[k] := (nstep_fix (hf k (by rw [size_len]; exact hk))).1
theorem Stands.addB {L : List UInt8} {n : ByteArray} {k : Nat} (h : Stands L (n.data.toList.take k)) (hk : k < n.size) (hf : Fix n.data.toList) (c : UInt8) (hc : low c = n[k]) (hs : n[k] ≠ 32) (hr : 32 ≤ c.toNat ∧ c.toNat ≤ 126) : Stands (L ++ [c]) (n.data.toList.take (k + 1)) := by
  have hk' : k < n.data.toList.length := by rw [size_len]; exact hk
  refine ⟨?_, ?_⟩
  · rw [nfold_snoc, h.1, List.take_succ_eq_append_getElem hk', nstep_add (fun e => ?_), hc]; rfl
    exact hs (by rw [← hc]; exact (low_space c).2 e.1)
  · rw [plainB_snoc, h.2]; simp; omega
theorem Stands.twoB {L : List UInt8} {n : ByteArray} {k : Nat} (h : Stands L (n.data.toList.take k)) (hf : Fix n.data.toList) (hk : k < n.size) (hs : n[k] = 32) : Stands (L ++ [32] ++ [32]) (n.data.toList.take (k + 1)) :=
  h.two hf (by rw [size_len]; exact hk) hs

set_option maxRecDepth 100000 in
set_option maxHeartbeats 1000000 in
theorem FnNorm_walk (a0 : Option Addr) (len0 cap0 : Nat) (w : World) (hR0 : Row w w.heap.size a0 len0) (hl0 : len0 ≤ 1048576) :
    Calls Try.prog 3 #[.slice a0 len0 cap0] w fun e w' => e = .returned (.bool true) ∧ Below w.heap.size w w' := by
  have R0 := Lib.hid hR0; clear hR0
  go_enter Try.func3, Try.ntmps3
  go_wp2_with fail
  refine (DrawNorm_any a0 len0 cap0 w R0.out hl0).mono ?_
  rintro e w1 ⟨⟨t, rfl, ht⟩, hg1⟩
  have G1 := Lib.hid (below_of_grown hg1); clear hg1
  have htM : t.size ≤ maxLen := by unfold maxLen; omega
  go_wp2_with fail
  refine (Norm_any t w1 htM).mono ?_
  rintro e w2 ⟨rfl, hb2⟩
  have G2 := Lib.hid (G1.out.trans (hb2.mono G1.out.size)); clear hb2
  go_wp2_with fail
  refine (SpecNorm_any t w2 htM).mono ?_
  rintro e w3 ⟨rfl, hb3⟩
  have G3 := Lib.hid (G2.out.trans (hb3.mono G2.out.size)); clear hb3
  have hnM : (normS t).size ≤ 20 := Nat.le_trans (normS_le t) ht
  have hnM2 : (normS t).size ≤ maxLen := by unfold maxLen; omega
  go_wp2_with fail
  refine (Norm_any (normS t) w3 hnM2).mono ?_
  rintro e w4 ⟨rfl, hb4⟩
  have G4 := Lib.hid (G3.out.trans (hb4.mono G3.out.size)); clear hb4
  rw [normS_idem]
  have HF := Lib.hid (normL_fix t.data.toList).1
  have HLs := Lib.hid (normL_fix t.data.toList).2
  have HP := Lib.hid ((plainB_all _).1 (normL_plain t.data.toList))
  have hD : normL t.data.toList = (normS t).data.toList := rfl
  rw [hD] at HF HLs HP
  clear hD
  generalize normS t = n at *
  go_wp2_with fail
  go_loopw [5, 6] (fun v i wr => ∃ (k : Nat) (L : List UInt8), k ≤ n.size ∧ i = .int .i64 k ∧ L.length ≤ 1 + 2 * k ∧ Stands L (n.data.toList.take k) ∧ wr.ownsRow w.heap.size 5 1 v L.length (bs L) ∧ Below w.heap.size w wr) (fun _ i _ => n.size - (intOf i).toNat)
  case atStart => exact ⟨0, [32], Nat.zero_le _, rfl, by simp, stands_32, World.ownsRow_lit _ _ 1 G4.out.size (by unfold maxLen; omega) rfl, G4.out.alloc G4.out.size _⟩
  case round =>
    obtain ⟨k, L, hk, rfl, hL, hst, hown, hbel⟩ := hrel
    have HS := Lib.hid hst; clear hst
    obtain ⟨ao, cap, rfl⟩ := own_slice hown
    have hsz := hbel.size
    have HRow := Lib.hid (R0.out.on (grown_of_below hbel))
    by_cases hlt : k < n.size
    · have hc := HP.out n[k] (mem_get n k hlt)
      have HFk : Hid (low n[k] = n[k]) := Lib.hid (fixB HF.out hlt)
      have ADD := Lib.hid (HS.out.addB hlt HF.out)
      have TWO := Lib.hid (HS.out.twoB HF.out hlt)
      obtain ⟨hc1, hc2⟩ := hc
      by_cases hsp : n[k].toNat = 32
      · have E32 : n[k] = 32 := nat_of_u8 (n := 32) (by omega) (by omega)
        have HS2 := Lib.hid (TWO.out E32)
        have hb1 : ((n[k].toNat : Int) == 32) = true := by rw [hsp]; rfl
        have hb2 : ¬ 97 ≤ (n[k].toNat : Int) := by omega
        have HE := Lib.hid E32
        have hC : Hid ((n[k].toNat : Int) = ((32 : UInt8).toNat : Int)) := Lib.hid (by rw [E32])
        clear E32 hsp
        go_wp2_with (first | (at_builtin; refine append_byte w.heap.size rfl _ _ rfl _ L rfl hown 32 _ hC.out rfl (by omega) hsz hbel ?_; intro v' w6 hown' hbel' hsz') | (at_builtin; refine append_byte w.heap.size rfl _ _ rfl _ (L ++ [32]) rfl hown' 32 _ rfl rfl (by simp; omega) hsz' hbel' ?_; intro v'' w7 hown'' hbel'' hsz''))
        go_roundw
        case rel => exact ⟨k + 1, L ++ [32] ++ [32], by omega, by go_num, by simp; omega, HS2.out, hown'', hbel''⟩
        case measure => simp [intOf]; omega
      · have hne : n[k] ≠ 32 := fun e => hsp (by rw [e]; rfl)
        have hb1 : ((n[k].toNat : Int) == 32) = false := by rw [beq_eq_false_iff_ne]; omega
        have HS2 := Lib.hid (ADD.out n[k] HFk.out hne ⟨hc1, hc2⟩)
        by_cases l1 : 97 ≤ (n[k].toNat : Int)
        · by_cases l2 : (n[k].toNat : Int) ≤ 122
          · have hx : ((UInt8.ofNat (n[k].toNat - 32)).toNat : Int) = (n[k].toNat : Int) - 32 := by simp; omega
            have hlow : low (UInt8.ofNat (n[k].toNat - 32)) = n[k] := by
              have h := low_in (UInt8.ofNat (n[k].toNat - 32)) (by omega)
              apply UInt8.toNat_inj.1
              omega
            have HS3 := Lib.hid (ADD.out _ hlow hne (by omega))
            have HX := Lib.hid hx.symm
            have hb3 : (((n[k].toNat : Int) - 32) == 32) = false := by rw [beq_eq_false_iff_ne]; omega
            have hw3 : IntKind.u8.wrap ((n[k].toNat : Int) - 32) = (n[k].toNat : Int) - 32 := by rw [IntKind.wrap_u8]; omega
            generalize UInt8.ofNat (n[k].toNat - 32) = x at *
            clear hx hlow hne hsp
            go_wp2_with fail
            refine (lwAt_any _ a0 len0 cap0 k 2 _ HRow.out hl0 (by omega) (by omega) (by omega)).mono ?_
            rintro e w5 ⟨⟨v, rfl, hv0, hv1⟩, rfl⟩
            have hv : v = 0 ∨ v = 1 := by omega
            clear hv0 hv1
            rcases hv with rfl | rfl
            · go_wp2_with (first | (at_builtin; refine append_byte w.heap.size rfl _ _ rfl _ L rfl hown n[k] _ rfl rfl (by omega) hsz hbel ?_; intro v' w6 hown' hbel' hsz'))
              go_roundw
              case rel => exact ⟨k + 1, L ++ [n[k]], by omega, by go_num, by simp; omega, HS2.out, hown', hbel'⟩
              case measure => simp [intOf]; omega
            · go_wp2_with (first | (at_builtin; refine append_byte w.heap.size rfl _ _ rfl _ L rfl hown x _ HX.out rfl (by omega) hsz hbel ?_; intro v' w6 hown' hbel' hsz'))
              go_roundw
              case rel => exact ⟨k + 1, L ++ [x], by omega, by go_num, by simp; omega, HS3.out, hown', hbel'⟩
              case measure => simp [intOf]; omega
          · clear hne hsp
            go_wp2_with (first | (at_builtin; refine append_byte w.heap.size rfl _ _ rfl _ L rfl hown n[k] _ rfl rfl (by omega) hsz hbel ?_; intro v' w6 hown' hbel' hsz'))
            go_roundw
            case rel => exact ⟨k + 1, L ++ [n[k]], by omega, by go_num, by simp; omega, HS2.out, hown', hbel'⟩
            case measure => simp [intOf]; omega
        · clear hne hsp
          go_wp2_with (first | (at_builtin; refine append_byte w.heap.size rfl _ _ rfl _ L rfl hown n[k] _ rfl rfl (by omega) hsz hbel ?_; intro v' w6 hown' hbel' hsz'))
          go_roundw
          case rel => exact ⟨k + 1, L ++ [n[k]], by omega, by go_num, by simp; omega, HS2.out, hown', hbel'⟩
          case measure => simp [intOf]; omega
    · have e : n.data.toList.take k = n.data.toList := List.take_of_length_le (by simp; omega)
      rw [e] at HS
      have HN : Hid (normS ⟨(L ++ [32]).toArray⟩ = n) := Lib.hid (by
        show (⟨(normL (L ++ [32])).toArray⟩ : ByteArray) = n
        rw [HS.out.done HLs.out (by omega)])
      have HM : Hid ((⟨(L ++ [32]).toArray⟩ : ByteArray).size ≤ maxLen) := Lib.hid (by
        rw [← size_len, List.toList_toArray, List.length_append]
        unfold maxLen; simp; omega)
      have hg : (L.length : Int) ≤ 90 := by omega
      clear e
      go_wp2_with (first | (at_builtin; go_must (refine wpList_bare (by first | rfl | (simp [Region.wanted, yielded]; omega)) ?_; refine append_byte w.heap.size rfl _ _ rfl _ L rfl hown 32 _ rfl rfl (by omega) hsz hbel ?_); intro v' w6 hown' hbel' hsz'; have hcv := str_own _ _ _ _ hown') | (fail "none"))
      refine (Norm_of _ n w6 HM.out HN.out).mono ?_
      rintro e w7 ⟨rfl, hb7⟩
      have G7 := Lib.hid (hbel'.trans (hb7.mono hsz')); clear hb7
      go_wp2
      go_ret
      exact ⟨rfl, G7.out⟩

/-- what a law is told of a slice of bytes: nil, or a row of cells -/
def IsRow (k : IntKind) (w : World) (a : Option Addr) (len cap : Nat) (zs : List Int) : Prop :=
  (a = none ∧ len = 0 ∧ cap = 0 ∧ zs = []) ∨
  ∃ x, a = some x ∧ len ≤ cap ∧ cap ≤ maxLen ∧ zs.length = cap ∧ (∀ i, i < zs.length → w.cell? (x.add i) = some (.int k (zs.getD i 0))) ∧ ∀ n ∈ zs, (Lit.int k n).wf = true
theorem IsRow.row {w : World} {a : Option Addr} {len cap : Nat} {zs : List Int} (h : IsRow .u8 w a len cap zs) : Row w w.heap.size a len := by
  rcases h with ⟨_, h, _, _⟩ | ⟨x, rfl, hl, hm, hz, hc, hw⟩
  · exact .inl h
  · by_cases h0 : len = 0
    · exact .inl h0
    · obtain ⟨b, off, rfl, hcell⟩ := ints_at hc (by omega)
      refine .inr ⟨b, off, rfl, ?_, fun j hj => ⟨_, hcell j (by omega), ?_⟩⟩
      · have h1 := hcell 0 (by omega)
        rcases Nat.lt_or_ge b w.heap.size with h | h
        · exact h
        · simp [World.cell?, Array.getElem?_eq_none h] at h1
      · have := bounds_u8 (hw (zs.getD j 0) (by
          rw [List.getD_eq_getElem?_getD, List.getElem?_eq_getElem (by omega)]
          exact List.getElem_mem _))
        exact this
theorem IsRow.bound {w : World} {a : Option Addr} {len cap : Nat} {zs : List Int} (h : IsRow .u8 w a len cap zs) : len ≤ 9223372036854775807 := by
  rcases h with ⟨_, h, _, _⟩ | ⟨x, _, hl, hm, _⟩
  · omega
  · unfold maxLen at hm; omega
end Go.Proofs.Ytadbjpfgjkicaaa
