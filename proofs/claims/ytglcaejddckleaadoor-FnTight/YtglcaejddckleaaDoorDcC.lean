/-
  Dicts: the model's rules 1 and 2.
-/
import Derived.Test.YtglcaejddckleaaDoorDcB
import Derived.Deep.QuietTactic
import Derived.BigQuiet
namespace Go.Proofs.YtglcaejddckleaaDoor
open Go.RowKit
set_option linter.unusedVariables false
attribute [local go_sem] run_store_float run_equalIn_float

abbrev Pc (c o : Nat) : Value := .pointer (some ⟨c, o, none⟩)

/-- What KeyOf gives, told by keyB. -/
theorem keyV_cases (v : Vl) : (keyB v = true ∧ keyV v.kind v.num v.flt v.str v.ref = KV 0 v.kind v.num v.flt v.str v.ref) ∨ (keyB v = false ∧ ∃ c k n f t r, keyV v.kind v.num v.flt v.str v.ref = KV c k n f t r ∧ (c ≠ 0 ∨ (v.kind = 3 ∧ k = 2))) := by
  unfold keyV keyB Vl.ok
  by_cases hv : validB v.kind v.num v.flt v.str v.ref = true
  · rw [if_pos hv, hv]
    by_cases h0 : v.kind = 0
    · rw [if_pos h0]; right; exact ⟨by simp [h0], 1, 0, 0, 0, ⟨#[]⟩, 0, rfl, .inl (by decide)⟩
    · rw [if_neg h0]
      by_cases h3 : v.kind = 3
      · rw [if_pos h3]
        by_cases hn : fnan v.flt = true
        · rw [if_pos hn]; right; exact ⟨by simp [h3, hn], 1, 0, 0, 0, ⟨#[]⟩, 0, rfl, .inl (by decide)⟩
        · rw [if_neg hn]
          by_cases hw : wholeB v.flt = true
          · rw [if_pos hw]; right; exact ⟨by simp [h3, hw], 0, 2, fint v.flt, 0, ⟨#[]⟩, 0, rfl, .inr ⟨h3, rfl⟩⟩
          · rw [if_neg hw]; left; exact ⟨by simp [h3, hn, hw], rfl⟩
      · rw [if_neg h3]; left; exact ⟨by simp [h0, h3], rfl⟩
  · rw [if_neg hv]
    right
    have : validB v.kind v.num v.flt v.str v.ref = false := by simpa using hv
    exact ⟨by rw [this]; rfl, 2, 0, 0, 0, ⟨#[]⟩, 0, rfl, .inl (by decide)⟩

end Go.Proofs.YtglcaejddckleaaDoor
