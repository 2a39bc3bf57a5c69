/- Merged texts: Opn. -/
import Derived.Test.YtglgkocjdockdaaM12
import Derived.Test.YtglgkocjdockdaaM1
import Derived.Test.YtglgkocjdockdaaM3
import Derived.Test.YtglgkocjdockdaaRows
/- Arguments of the laws: where they lie. -/
namespace Go.Proofs.Ytglgkocjdockdaa
open Go.RowKit

open Go.ChangeShapes Go.WideShapes Go.Joins Go.Deep
theorem opn_str : Opens Try.prog 9 strE := opens_str Try.underlying9
theorem Try.cellStr : Try.prog.cellsOf 9 = strE.n := by kernel_rfl
theorem opn_int : Opens Try.prog 2 intE := opens_int Try.underlying2
theorem opn_bool : Opens Try.prog 4 boolE := opens_bool Try.underlying4
theorem opn_strS : Opens Try.prog 61 (slE strE) := opens_sl Try.underlying61 Try.cellStr (by decide) opn_str
theorem Try.cellRdn : Try.prog.cellsOf 102 = rdnE.n := by kernel_rfl
set_option maxRecDepth 100000 in
theorem opn_rdn : Opens Try.prog 102 rdnE := opens_struct Try.underlying102 Try.cellRdn (ff_cons _ (by rfl) (by rfl) (by kernel_rfl) opn_str (ff_last _ (by rfl) (by rfl) (by kernel_rfl) (by rfl) opn_str))
theorem Try.cellAttr : Try.prog.cellsOf 154 = attrE.n := by kernel_rfl
set_option maxRecDepth 100000 in
theorem opn_attr : Opens Try.prog 154 attrE := opens_struct Try.underlying154 Try.cellAttr (ff_cons _ (by rfl) (by rfl) (by kernel_rfl) opn_str (ff_last _ (by rfl) (by rfl) (by kernel_rfl) (by rfl) opn_strS))
theorem opn_rdnS : Opens Try.prog 29 (slE rdnE) := opens_sl Try.underlying29 Try.cellRdn (by decide) opn_rdn
theorem opn_attrS : Opens Try.prog 36 (slE attrE) := opens_sl Try.underlying36 Try.cellAttr (by decide) opn_attr
theorem Try.cellEntry : Try.prog.cellsOf 38 = entryE.n := by kernel_rfl
set_option maxRecDepth 100000 in
theorem opn_entry : Opens Try.prog 38 entryE := opens_struct Try.underlying38 Try.cellEntry (ff_cons _ (by rfl) (by rfl) (by kernel_rfl) opn_rdnS (ff_last _ (by rfl) (by rfl) (by kernel_rfl) (by rfl) opn_attrS))
theorem Try.cellRule : Try.prog.cellsOf 96 = ruleE.n := by kernel_rfl
set_option maxRecDepth 100000 in
theorem opn_rule : Opens Try.prog 96 ruleE := opens_struct Try.underlying96 Try.cellRule (ff_cons _ (by rfl) (by rfl) (by kernel_rfl) opn_str (ff_cons _ (by rfl) (by rfl) (by kernel_rfl) opn_rdnS (ff_cons _ (by rfl) (by rfl) (by kernel_rfl) opn_strS (ff_cons _ (by rfl) (by rfl) (by kernel_rfl) opn_int (ff_last _ (by rfl) (by rfl) (by kernel_rfl) (by rfl) opn_bool)))))
theorem opn_entryS : Opens Try.prog 53 (slE entryE) := opens_sl Try.underlying53 Try.cellEntry (by decide) opn_entry
theorem opn_ruleS : Opens Try.prog 22 (slE ruleE) := opens_sl Try.underlying22 Try.cellRule (by decide) opn_rule
set_option maxRecDepth 100000 in
theorem opv_rdn {H : Type} {enc : TypeId × Value → H} {w : World} {base : Nat} {spare : Nat → Bool} {held : Bool} {r : Reach} {b0 : Nat} {v : Value} {d : DataW H} {p : List MemPlace} (hv : Value.okWide Try.prog w r b0 102 v) (h : DataW.Trod enc Try.prog w base spare held 102 v d p) :
    ∃ (a0 : ByteArray) (a1 : ByteArray) , v = .agg #[.string a0, .string a1] ∧ (True) ∧ rdnE.long (a0, a1) := by
  obtain ⟨cs, a, rfl, h1, h2⟩ := opv_struct Try.underlying102 opn_rdn hv h
  obtain ⟨a0, a1, rfl, e1, hq⟩ := rdn_atq h1
  refine ⟨a0, a1, agg_eq e1, ?_, h2⟩
  exact hq
set_option maxRecDepth 100000 in
theorem opv_attr {H : Type} {enc : TypeId × Value → H} {w : World} {base : Nat} {spare : Nat → Bool} {held : Bool} {r : Reach} {b0 : Nat} {v : Value} {d : DataW H} {p : List MemPlace} (hv : Value.okWide Try.prog w r b0 154 v) (h : DataW.Trod enc Try.prog w base spare held 154 v d p) :
    ∃ (a0 : ByteArray) (a1 : (List ByteArray)) (v1 : Value), v = .agg #[.string a0, v1] ∧ (SlAt strE (All w) w a1 v1) ∧ attrE.long (a0, a1) := by
  obtain ⟨cs, a, rfl, h1, h2⟩ := opv_struct Try.underlying154 opn_attr hv h
  obtain ⟨a0, a1, v1, rfl, e1, hq⟩ := attr_atq h1
  refine ⟨a0, a1, v1, agg_eq e1, ?_, h2⟩
  exact hq.1
set_option maxRecDepth 100000 in
theorem opv_entry {H : Type} {enc : TypeId × Value → H} {w : World} {base : Nat} {spare : Nat → Bool} {held : Bool} {r : Reach} {b0 : Nat} {v : Value} {d : DataW H} {p : List MemPlace} (hv : Value.okWide Try.prog w r b0 38 v) (h : DataW.Trod enc Try.prog w base spare held 38 v d p) :
    ∃ (a0 : (List RdnT)) (a1 : (List AttrT)) (v0 v1 : Value), v = .agg #[v0, v1] ∧ (SlAt rdnE (All w) w a0 v0 ∧ SlAt attrE (All w) w a1 v1) ∧ entryE.long (a0, a1) := by
  obtain ⟨cs, a, rfl, h1, h2⟩ := opv_struct Try.underlying38 opn_entry hv h
  obtain ⟨a0, a1, v0, v1, rfl, e1, hq⟩ := entry_atq h1
  refine ⟨a0, a1, v0, v1, agg_eq e1, ?_, h2⟩
  exact ⟨hq.1, hq.2.1⟩
set_option maxRecDepth 100000 in
theorem opv_rule {H : Type} {enc : TypeId × Value → H} {w : World} {base : Nat} {spare : Nat → Bool} {held : Bool} {r : Reach} {b0 : Nat} {v : Value} {d : DataW H} {p : List MemPlace} (hv : Value.okWide Try.prog w r b0 96 v) (h : DataW.Trod enc Try.prog w base spare held 96 v d p) :
    ∃ (a0 : ByteArray) (a1 : (List RdnT)) (a2 : (List ByteArray)) (a3 : Int) (a4 : Bool) (v1 v2 : Value), v = .agg #[.string a0, v1, v2, .int .i64 a3, .bool a4] ∧ (SlAt rdnE (All w) w a1 v1 ∧ SlAt strE (All w) w a2 v2) ∧ ruleE.long (a0, a1, a2, a3, a4) := by
  obtain ⟨cs, a, rfl, h1, h2⟩ := opv_struct Try.underlying96 opn_rule hv h
  obtain ⟨a0, a1, a2, a3, a4, v1, v2, rfl, e1, hq⟩ := rule_atq h1
  refine ⟨a0, a1, a2, a3, a4, v1, v2, agg_eq e1, ?_, h2⟩
  exact ⟨hq.1, hq.2.1⟩
end Go.Proofs.Ytglgkocjdockdaa
