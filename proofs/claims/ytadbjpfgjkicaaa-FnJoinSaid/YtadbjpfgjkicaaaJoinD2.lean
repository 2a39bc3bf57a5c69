/- DnJoin: what the specification's text returns. -/
import Derived.Test.YtadbjpfgjkicaaaJoinD
namespace Go.Proofs.Ytadbjpfgjkicaaa
open Go.RowKit

theorem dnB_one (r : ByteArray × ByteArray) : dnB [r] = rdnB r := by unfold dnB; simp
theorem one_at (w : World) (A V : ByteArray) : DnAt (w.alloc (.cells #[.string A, .string V] 39)) (some ⟨w.heap.size, 0, none⟩) [(A, V)] :=
  .inr ⟨w.heap.size, 0, rfl, by simp, fun i hi => by
    match i, hi with
    | 0, _ => exact ⟨by simp, by simp⟩⟩
theorem own_one (w : World) (A V : ByteArray) (B : Nat) (hB : B ≤ w.heap.size) : (w.alloc (.cells #[.string A, .string V] 39)).ownsRow B 39 2 (.slice (some ⟨w.heap.size, 0, none⟩) 1 1) [(A, V)].length (rs [(A, V)]) :=
  ⟨rfl, .inr ⟨w.heap.size, 1, #[.string A, .string V], rfl, hB, heap_alloc_new w _, by simp, by unfold maxLen; simp, rfl, rfl⟩⟩
set_option maxRecDepth 100000 in
set_option maxHeartbeats 1000000 in
theorem SpecDnJoin_any (A V : ByteArray) (ao : Option Addr) (p : RdnL) (cap : Nat) (w : World) (hA : A.size ≤ 1048576) (hV : V.size ≤ 1048576) (hs : ao = none → cap = 0) (hd : DnAt w ao p) (hf : Fits p) :
    Calls Try.prog 40 #[.agg #[.string A, .string V], .slice ao p.length cap] w fun e w' => GivesOut w (joinD (A, V) p) (joinC (A, V) p) e w' := by
  have hl := hf.1
  have hf1 : Fits [(A, V)] := ⟨by simp, fun r hr => by simp at hr; subst hr; exact ⟨hA, hV⟩⟩
  have hd0 := hd.below (more (more (Below.refl _ _) (.cells #[.string A, .string V] 39)) (.cells #[.slice none 0 0, .int .i64 0] 33))
  have HD0 := Lib.hid hd0; clear hd0
  have HS := Lib.hid hs; clear hs
  have F0 := Lib.hid (four_new w (.string A) (.string V) (.slice none 0 0) (.int .i64 0) 39 33)
  have B0 := Lib.hid (more (more (Below.refl w.heap.size w) (.cells #[.string A, .string V] 39)) (.cells #[.slice none 0 0, .int .i64 0] 33))
  rcases join_cases (A, V) p with ⟨h4, hC, hD⟩ | ⟨h4, h1, hC, hD⟩ | ⟨h4, h1, h2, hC, hD⟩ | ⟨h1, h2, h6, hC, hD⟩ | ⟨h1, h2, h6, hC, hD⟩
  all_goals rw [hC, hD]
  all_goals clear hC hD
  · clear hd hf
    go_enter Try.func40, Try.ntmps40
    go_wp2
    refine bodyPost_ret (v := .agg #[.slice none 0 0, .int .i64 2]) (by simp [results, Try.results40, go_sem]) rfl ⟨⟨_, rfl, own_nil _ _⟩, ?_⟩
    exact ((Below.refl _ _).alloc (Nat.le_refl _) _).alloc (by simp) _
  · go_enter Try.func40, Try.ntmps40
    go_wp2_with fail
    refine (SpecDnRight_any _ _ _ _ HD0.out hf).mono ?_
    rintro e w1 ⟨rfl, hb1⟩
    rw [h1]
    have B1 := Lib.hid (B0.out.trans (hb1.mono B0.out.size))
    obtain ⟨⟨⟨c0, c1, c2, c3⟩, ⟨f0, f1, f2, f3⟩⟩, hz⟩ := F0.out.keep hb1
    clear hb1
    go_wp2
    refine bodyPost_ret (v := .agg #[.slice none 0 0, .int .i64 1]) (by simp [results, Try.results40, go_sem, c2, c3]) rfl ⟨⟨_, rfl, own_nil _ _⟩, ?_⟩
    exact (B1.out.setCell (by simp) _).setCell (by simp) _
  · have h2' : dnB [(A, V)] = false := by rw [dnB_one]; exact h2
    clear h2
    go_enter Try.func40, Try.ntmps40
    go_wp2_with fail
    refine (SpecDnRight_any _ _ _ _ HD0.out hf).mono ?_
    rintro e w1 ⟨rfl, hb1⟩
    rw [h1]
    have B1 := Lib.hid (B0.out.trans (hb1.mono B0.out.size))
    have F1 := Lib.hid (F0.out.keep hb1)
    obtain ⟨⟨⟨c0, c1, c2, c3⟩, ⟨f0, f1, f2, f3⟩⟩, hz⟩ := F0.out.keep hb1
    clear hb1
    go_wp2_with fail
    refine (SpecDnRight_any _ [(A, V)] _ _ (one_at w1 A V) hf1).mono ?_
    rintro e w2 ⟨rfl, hb2⟩
    rw [h2']
    have B2 := Lib.hid ((more B1.out _).trans (hb2.mono (more B1.out _).size))
    clear c0 c1 c2 c3 f0 f1 f2 f3 hz
    obtain ⟨⟨⟨c0, c1, c2, c3⟩, ⟨f0, f1, f2, f3⟩⟩, hz⟩ := (F1.out.keep (more (Below.refl _ _) _)).keep hb2
    clear hb2
    go_wp2
    refine bodyPost_ret (v := .agg #[.slice none 0 0, .int .i64 1]) (by simp [results, Try.results40, go_sem, c2, c3]) rfl ⟨⟨_, rfl, own_nil _ _⟩, ?_⟩
    exact (B2.out.setCell (by simp) _).setCell (by simp) _
  · have h2' : dnB [(A, V)] = true := by rw [dnB_one]; exact h2
    clear h2
    have h6' : 6 ≤ p.length := by omega
    have h4 : ¬ 400 < p.length := by omega
    clear h6
    go_enter Try.func40, Try.ntmps40
    go_wp2_with fail
    refine (SpecDnRight_any _ _ _ _ HD0.out hf).mono ?_
    rintro e w1 ⟨rfl, hb1⟩
    rw [h1]
    have B1 := Lib.hid (B0.out.trans (hb1.mono B0.out.size))
    have F1 := Lib.hid (F0.out.keep hb1)
    obtain ⟨⟨⟨c0, c1, c2, c3⟩, ⟨f0, f1, f2, f3⟩⟩, hz⟩ := F0.out.keep hb1
    clear hb1
    go_wp2_with fail
    refine (SpecDnRight_any _ [(A, V)] _ _ (one_at w1 A V) hf1).mono ?_
    rintro e w2 ⟨rfl, hb2⟩
    rw [h2']
    have B2 := Lib.hid ((more B1.out _).trans (hb2.mono (more B1.out _).size))
    clear c0 c1 c2 c3 f0 f1 f2 f3 hz
    obtain ⟨⟨⟨c0, c1, c2, c3⟩, ⟨f0, f1, f2, f3⟩⟩, hz⟩ := (F1.out.keep (more (Below.refl _ _) _)).keep hb2
    clear hb2
    go_wp2
    refine bodyPost_ret (v := .agg #[.slice none 0 0, .int .i64 9]) (by simp [results, Try.results40, go_sem, c2, c3]) rfl ⟨⟨_, rfl, own_nil _ _⟩, ?_⟩
    exact (B2.out.setCell (by simp) _).setCell (by simp) _
  · have h2' : dnB [(A, V)] = true := by rw [dnB_one]; exact h2
    clear h2
    have h4 : ¬ 400 < p.length := by omega
    go_enter Try.func40, Try.ntmps40
    go_wp2_with fail
    refine (SpecDnRight_any _ _ _ _ HD0.out hf).mono ?_
    rintro e w1 ⟨rfl, hb1⟩
    rw [h1]
    have B1 := Lib.hid (B0.out.trans (hb1.mono B0.out.size))
    have F1 := Lib.hid (F0.out.keep hb1)
    obtain ⟨⟨⟨c0, c1, c2, c3⟩, ⟨f0, f1, f2, f3⟩⟩, hz⟩ := F0.out.keep hb1
    clear hb1
    go_wp2_with fail
    refine (SpecDnRight_any _ [(A, V)] _ _ (one_at w1 A V) hf1).mono ?_
    rintro e w2 ⟨rfl, hb2⟩
    rw [h2']
    have B2 := Lib.hid ((more B1.out _).trans (hb2.mono (more B1.out _).size))
    have F2 := Lib.hid ((F1.out.keep (more (Below.refl _ _) _)).keep hb2)
    clear c0 c1 c2 c3 f0 f1 f2 f3 hz
    obtain ⟨⟨⟨c0, c1, c2, c3⟩, ⟨f0, f1, f2, f3⟩⟩, hz⟩ := F2.out
    clear hb2
    have HD2 := Lib.hid ((hd.below B2.out).below (more (Below.refl _ _) (.cells #[.string A, .string V] 39)))
    go_wp2_with (first | (at_builtin; refine append_dn w2.heap.size rfl _ _ rfl _ [(A, V)] rfl (own_one w2 A V _ (Nat.le_refl _)) ao p cap _ rfl rfl HD2.out HS.out (by simp; omega) (by simp) (more (Below.refl _ _) _) ?_; intro v' w3 hown3 hbel3; have HO := Lib.hid hown3; have B3 := Lib.hid hbel3; obtain ⟨⟨⟨d0, d1, d2, d3⟩, ⟨k0, k1, k2, k3⟩⟩, hz3⟩ := F2.out.keep B3.out; obtain ⟨aw, cw, rfl⟩ := own_slice HO.out; clear hown3 hbel3 c0 c1 c2 c3 f0 f1 f2 f3) | (fail "none"))
    refine bodyPost_ret (v := .agg #[.slice aw ([(A, V)] ++ p).length cw, .int .i64 0]) (by simp [results, Try.results40, go_sem, d2, d3]) rfl ⟨⟨_, rfl, ?_⟩, ?_⟩
    · exact own_mono (own_set (own_set HO.out hz) hz) (by omega)
    · exact ((B2.out.trans (B3.out.mono B2.out.size)).setCell (by simp) _).setCell (by simp) _
end Go.Proofs.Ytadbjpfgjkicaaa
