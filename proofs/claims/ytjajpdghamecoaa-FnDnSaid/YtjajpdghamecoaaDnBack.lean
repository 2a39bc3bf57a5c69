/- A valid name is read back from its text; what is read of a text is told by just this text. -/
import Derived.Test.YtjajpdghamecoaaRead3
namespace Go.Proofs.Ytjajpdghamecoaa
open Go.RowKit

theorem rdn_short {r : ByteArray × ByteArray} (h : rdnB r = true) : (rdnS r).data.toList.length ≤ 101 := by
  have := escS_size r.2
  unfold rdnB nmL valB at h
  simp only [Bool.and_eq_true, decide_eq_true_eq] at h
  rw [size_len]
  unfold rdnS
  rw [ByteArray.size_append, ByteArray.size_append, sz1]
  omega
theorem text_short {d : RdnL} (h : dnB d = true) : (textS d).size ≤ 612 := by
  have h6 := dnB_six h
  have := join_len (d.map (fun r => (rdnS r).data.toList)) 101 (fun x hx => by
    obtain ⟨r, hr, rfl⟩ := List.mem_map.1 hx
    exact rdn_short (List.all_eq_true.1 (dnB_all_of h) r hr))
  rw [List.length_map] at this
  have e : (textS d).size = (textL d).length := by simp [textS, ByteArray.size]
  rw [e]
  unfold textL
  omega
theorem dnText_short (d : RdnL) : (dnTextS d).size ≤ 612 := by
  cases h : dnB d
  · rw [dnText_no h]; decide
  · rw [dnText_yes h]; exact text_short h
theorem back {d : RdnL} (h : dnB d = true) : readC (dnTextS d) = 0 ∧ readD (dnTextS d) = d := by
  have hs := text_short h
  rw [dnText_yes h]
  have e : scanL (textS d).data.toList = d := by
    have := scan_text d (dnB_all_of h)
    simpa [textS] using this
  have hg : goodB (textS d) = true := by
    unfold goodB
    rw [e, h]; simp
  obtain ⟨h1, h2⟩ := read_good (s := textS d) (by omega) hg
  exact ⟨h1, by rw [h2, e]⟩
theorem told {s : ByteArray} (h : readC s = 0) : dnTextS (readD s) = s := by
  by_cases hl : 8000 < s.size
  · rw [(read_long hl).1] at h; cases h
  · cases hg : goodB s
    · rw [(read_bad hl hg).1] at h; cases h
    · rw [(read_good hl hg).2]
      unfold goodB at hg
      rw [Bool.and_eq_true] at hg
      rw [dnText_yes hg.1]
      have := text_eq hg.2
      unfold textS
      rw [this]
theorem read_fits (s : ByteArray) : (readD s).length ≤ 6 ∧ Fits (readD s) := by
  by_cases hl : 8000 < s.size
  · rw [(read_long hl).2]; exact ⟨by simp, by simp, by simp⟩
  · cases hg : goodB s
    · rw [(read_bad hl hg).2]; exact ⟨by simp, by simp, by simp⟩
    · rw [(read_good hl hg).2]
      unfold goodB at hg
      rw [Bool.and_eq_true] at hg
      have h6 := dnB_six hg.1
      have ha := dnB_all_of hg.1
      refine ⟨h6, by omega, fun r hr => ?_⟩
      have := List.all_eq_true.1 ha r hr
      unfold rdnB nmL valB at this
      simp only [Bool.and_eq_true, decide_eq_true_eq] at this
      omega
end Go.Proofs.Ytjajpdghamecoaa
