/- The draws of names: two names, the second now and then a copy of the first, its first value now and then longer by a space. -/
import Derived.Test.YtjajpdghamecoaaDraw6
namespace Go.Proofs.Ytjajpdghamecoaa
open Go.RowKit

/-- two names that fit, each in a row of its own -/
def TwoFit (w : World) (e : Ending) (w' : World) : Prop := ∃ (u v : Value) (a b : RdnL), e = .returned (.tuple #[u, v]) ∧ a.length ≤ 7 ∧ b.length ≤ 7 ∧ Fits a ∧ Fits b ∧ w'.ownsRow w.heap.size 61 2 u a.length (rs a) ∧ w'.ownsRow w.heap.size 61 2 v b.length (rs b)
theorem Short.fit {d : RdnL} (h : Short d) (hl : d.length ≤ 7) : Fits d := ⟨by omega, fun r hr => ⟨by have := (h r hr).1; omega, by have := (h r hr).2; omega⟩⟩
theorem own_nil0 {w : World} {B e z n m cap : Nat} {xs : List Value} (h : w.ownsRow B e z (.slice none m cap) n xs) : cap = 0 := by
  rcases h.2 with ⟨h, _⟩ | ⟨_, _, _, h, _⟩
  · injection h
  · injection h with h; cases h
theorem own_first {w : World} {B g m cap : Nat} {A V V' : ByteArray} {d : RdnL} (h : w.ownsRow B 61 2 (.slice (some ⟨g, 0, none⟩) m cap) ((A, V) :: d).length (rs ((A, V) :: d))) :
    (w.setCell ⟨g, 1, none⟩ (.string V')).ownsRow B 61 2 (.slice (some ⟨g, 0, none⟩) m cap) ((A, V') :: d).length (rs ((A, V') :: d)) := by
  refine ⟨by rw [rs_length], ?_⟩
  rcases h.2 with ⟨h1, _⟩ | ⟨g', cp, cur, h1, h2, h3, h4, h5, h6, h7⟩
  · injection h1 with h1; cases h1
  · injection h1 with h1 e2 e3
    cases h1; subst e2 e3
    refine .inr ⟨g, cap, cur.setIfInBounds 1 (.string V'), rfl, h2, heap_set _ h3, h4, h5, by simp [h6], ?_⟩
    rw [Array.toList_setIfInBounds, List.take_set]
    have e : ((A, V') :: d).length = ((A, V) :: d).length := rfl
    rw [e, h7]
    rfl
theorem own_head {w : World} {B m cap : Nat} {vo : Option Addr} {r : ByteArray × ByteArray} {d : RdnL} (h : w.ownsRow B 61 2 (.slice vo m cap) (r :: d).length (rs (r :: d))) :
    ∃ g, vo = some ⟨g, 0, none⟩ ∧ B ≤ g ∧ w.cell? ⟨g, 1, none⟩ = some (.string r.2) ∧ w.frozen? ⟨g, 1, none⟩ = false ∧ (r :: d).length ≤ cap := by
  rcases h.2 with ⟨h1, h2⟩ | ⟨g, cp, cur, h1, h2, h3, h4, h5, h6, h7⟩
  · simp at h2
  · injection h1 with h1 e2 e3
    subst h1 e3
    have hc : cur.toList[1]? = some (.string r.2) := by
      have : (cur.toList.take ((r :: d).length * 2))[1]? = some (.string r.2) := by rw [h7]; rfl
      rw [List.getElem?_take] at this
      split at this
      · exact this
      · cases this
    refine ⟨g, rfl, h2, ?_, by simp [World.frozen?, h3], h4⟩
    rw [cell_of_row w g _ cur 61 (0, 0) h3]
    simpa using hc
set_option maxRecDepth 100000 in
set_option maxHeartbeats 1000000 in
theorem DrawDnSame_any (ao : Option Addr) (len cap : Nat) (w : World) (hR : Row w w.heap.size ao len) (hl : len ≤ 1048576) :
    Calls Try.prog 20 #[.slice ao len cap] w fun e w' => TwoFit w e w' ∧ w.grownBy w' none := by
  have HR := Lib.hid hR; clear hR
  go_enter Try.func20, Try.ntmps20
  go_wp2_with fail
  refine (l01Source_any ao len cap w HR.out hl).mono ?_
  rintro e w1 ⟨rfl, hg1, hw1⟩
  have HG1 := Lib.hid hg1; have HW1 := Lib.hid hw1; clear hg1 hw1
  have hq : w.heap.size < w1.heap.size := HG1.out.lt
  go_wp2_with fail
  refine (drawDn_any _ w1 HG1.out).mono ?_
  rintro e w2 ⟨⟨u, a, rfl, ha, hsa, hoa⟩, hs2⟩
  have HS2 := Lib.hid hs2; have HA2 := Lib.hid hoa; have SA := Lib.hid (hsa.fit ha); have SS := Lib.hid hsa; clear hs2 hoa hsa
  go_wp2_with fail
  refine (drawDn_any _ w2 HS2.out.1).mono ?_
  rintro e w3 ⟨⟨v, b, rfl, hb, hsb, hob⟩, hs3⟩
  have HS3 := Lib.hid (HS2.out.trans hs3)
  have HA3 := Lib.hid (HA2.out.kept hs3.2 (own_not HA2.out hq)); have HB3 := Lib.hid (own_mono hob HS2.out.2.size); have SB := Lib.hid (hsb.fit hb)
  clear hs3 hob hsb HA2
  obtain ⟨uo, uc, rfl⟩ := own_slice HA3.out
  go_wp2_with fail
  refine (one_any _ 2 w3 HS3.out.1 (by decide) (by decide)).mono ?_
  rintro e w4 ⟨⟨t, rfl⟩, hs4⟩
  have HS4 := Lib.hid (HS3.out.trans hs4)
  have HA4 := Lib.hid (HA3.out.kept hs4.2 (own_not HA3.out hq)); have HB4 := Lib.hid (HB3.out.kept hs4.2 (own_not HB3.out hq))
  clear hs4 HA3 HB3
  have fin : w.grownBy w4 none := grown_fresh HW1.out HS4.out.2 (Nat.le_refl _)
  have FIN := Lib.hid fin; clear fin
  cases t
  · go_wp2
    go_ret2
    exact ⟨⟨_, _, a, b, rfl, ha, hb, SA.out, SB.out, own_mono HA4.out HW1.out.size, own_mono HB4.out HW1.out.size⟩, FIN.out⟩
  · have hB4 : w1.heap.size ≤ w4.heap.size := HS4.out.2.size
    have HE : Hid ((w4.alloc (.cells #[] 61)).ownsRow w4.heap.size 61 2 (.slice (some ⟨w4.heap.size, 0, none⟩) 0 0) 0 (rs [])) := Lib.hid (World.ownsRow_lit w4 #[] 0 (Nat.le_refl _) (by unfold maxLen; omega) rfl)
    have HAA := Lib.hid (HA4.out.alloc (.cells #[] 61))
    have HSA := Lib.hid (HS4.out.alloc hq #[] 61)
    have hltA := own_lt HA4.out
    have hz : uo = none → uc = 0 := by rintro rfl; exact own_nil0 HA4.out
    have HZ := Lib.hid hz; clear hz
    have hqB : w.heap.size < w4.heap.size := by omega
    rcases a with _ | ⟨r, d⟩
    · go_wp2_with (first | (at_builtin; refine append_dn (w0 := w4.alloc (.cells #[] 61)) w4.heap.size rfl _ _ rfl _ [] rfl HE.out uo [] uc _ rfl rfl (own_dn HAA.out) HZ.out (by simp) (by simp) (Below.refl _ _) ?_; intro v' w5 hown' hbel'; rw [List.nil_append] at hown'; obtain ⟨vo, vc, rfl⟩ := own_slice hown'; have HO5 := Lib.hid hown'; have HB5 := Lib.hid hbel'; clear hown' hbel') | (fail "none"))
      go_ret2
      have HA5 := own_under HAA.out HB5.out hltA
      have g5 := below_of_grown FIN.out
      exact ⟨⟨_, _, [], [], rfl, by simp, by simp, SA.out, SA.out, own_mono HA5 HW1.out.size, own_mono HO5.out (by omega)⟩, grown_of_below (g5.trans ((((Below.refl _ w4).alloc (Nat.le_refl _) _).trans HB5.out).mono (by omega)))⟩
    · obtain ⟨A, V⟩ := r
      have hlen : 0 < ((A, V) :: d).length := by simp
      have HV : Hid (A.size ≤ 41 ∧ V.size ≤ 41) := Lib.hid (SS.out (A, V) (by simp))
      go_wp2_with (first | (at_builtin; refine append_dn (w0 := w4.alloc (.cells #[] 61)) w4.heap.size rfl _ _ rfl _ [] rfl HE.out uo ((A, V) :: d) uc _ rfl rfl (own_dn HAA.out) HZ.out (by simp; simp at ha; omega) (by simp) (Below.refl _ _) ?_; intro v' w5 hown' hbel'; rw [List.nil_append] at hown'; obtain ⟨vo, vc, rfl⟩ := own_slice hown'; have HO5 := Lib.hid hown'; have HB5 := Lib.hid hbel'; clear hown' hbel') | (fail "none"))
      have HA5 := Lib.hid (own_under HAA.out HB5.out hltA)
      have HS5 := Lib.hid (HS4.out.later (g := none) (w' := w5) (grown_of_below (((Below.refl _ w4).alloc (Nat.le_refl _) _).trans HB5.out)) hq (fun k e => by cases e))
      refine (one_any _ 2 w5 HS5.out.1 (by decide) (by decide)).mono ?_
      rintro e w6 ⟨⟨t, rfl⟩, hs6⟩
      have HS6 := Lib.hid (HS5.out.trans hs6)
      have HA6 := Lib.hid (HA5.out.kept hs6.2 (own_not HA5.out hq)); have HO6 := Lib.hid (HO5.out.kept hs6.2 (own_not HO5.out hqB))
      have FIN6 := Lib.hid (grown_fresh HW1.out HS6.out.2 (Nat.le_refl _))
      clear hs6
      cases t
      · go_wp2
        go_ret2
        exact ⟨⟨_, _, (A, V) :: d, (A, V) :: d, rfl, ha, ha, SA.out, SA.out, own_mono HA6.out HW1.out.size, own_mono HO6.out (by omega)⟩, FIN6.out⟩
      · obtain ⟨g, rfl, hBg, hc, hf, hcp⟩ := own_head HO6.out
        have hcat := cat V ⟨#[32]⟩ (by have := HV.out; have e : (⟨#[32]⟩ : ByteArray).size = 1 := rfl; omega)
        go_wp2
        go_ret2
        refine ⟨⟨_, _, (A, V) :: d, (A, V ++ ⟨#[32]⟩) :: d, rfl, ha, ha, SA.out, ?_, ?_, own_mono (own_first HO6.out) (by omega)⟩, ?_⟩
        · refine ⟨SA.out.1, fun r hr => ?_⟩
          rcases List.mem_cons.1 hr with rfl | hr
          · refine ⟨(SA.out.2 (A, V) (by simp)).1, ?_⟩
            have := HV.out
            show (V ++ ⟨#[32]⟩ : ByteArray).size ≤ _
            rw [ByteArray.size_append]
            have e : (⟨#[32]⟩ : ByteArray).size = 1 := rfl
            omega
          · exact SA.out.2 r (by simp [hr])
        · refine own_mono (HA6.out.kept (grown_set w6 g 1 _) ?_) HW1.out.size
          cases e : (Value.slice uo ((A, V) :: d).length uc).ownBlock with
          | none => exact .inl rfl
          | some k => exact .inr (fun hh => by have := hltA k e; have := Option.some.inj hh; omega)
        · exact grown_new FIN6.out (by omega) _
end Go.Proofs.Ytjajpdghamecoaa
