/-
  Dicts: DictOk of the model.
-/
import Derived.Test.YtglcaejddckleaaDoorDcH
namespace Go.Proofs.YtglcaejddckleaaDoor
open Go.RowKit
set_option linter.unusedVariables false
attribute [local go_sem] run_store_float run_equalIn_float

open Classical in
noncomputable def dictOk (d : Dc) (H : Nat → Nat) : Int :=
  if D1 d then if D2 d then if D3 d then if D4 d then if D5 d H then 0 else 5 else 4 else 3 else 2 else 1
theorem dictOk1 {d : Dc} {H : Nat → Nat} (h : ¬ D1 d) : dictOk d H = 1 := if_neg h
theorem dictOk2 {d : Dc} {H : Nat → Nat} (h1 : D1 d) (h : ¬ D2 d) : dictOk d H = 2 := by unfold dictOk; rw [if_pos h1, if_neg h]
theorem dictOk3 {d : Dc} {H : Nat → Nat} (h1 : D1 d) (h2 : D2 d) (h : ¬ D3 d) : dictOk d H = 3 := by unfold dictOk; rw [if_pos h1, if_pos h2, if_neg h]
theorem dictOk4 {d : Dc} {H : Nat → Nat} (h1 : D1 d) (h2 : D2 d) (h3 : D3 d) (h : ¬ D4 d) : dictOk d H = 4 := by unfold dictOk; rw [if_pos h1, if_pos h2, if_pos h3, if_neg h]
theorem dictOk5 {d : Dc} {H : Nat → Nat} (h1 : D1 d) (h2 : D2 d) (h3 : D3 d) (h4 : D4 d) (h : ¬ D5 d H) : dictOk d H = 5 := by unfold dictOk; rw [if_pos h1, if_pos h2, if_pos h3, if_pos h4, if_neg h]
theorem dictOk0 {d : Dc} {H : Nat → Nat} (h1 : D1 d) (h2 : D2 d) (h3 : D3 d) (h4 : D4 d) (h : D5 d H) : dictOk d H = 0 := by unfold dictOk; rw [if_pos h1, if_pos h2, if_pos h3, if_pos h4, if_pos h]
/-- What a sound dict keeps. -/
structure Sound (d : Dc) (H : Nat → Nat) : Prop where
  d1 : D1 d
  d2 : D2 d
  d3 : D3 d
  d4 : D4 d
  d5 : D5 d H
theorem sound_of {d : Dc} {H : Nat → Nat} (h : dictOk d H = 0) : Sound d H := by
  unfold dictOk at h
  split at h
  · next h1 =>
    split at h
    · next h2 =>
      split at h
      · next h3 =>
        split at h
        · next h4 =>
          split at h
          · next h5 => exact ⟨h1, h2, h3, h4, h5⟩
          · cases h
        · cases h
      · cases h
    · cases h
  · cases h
theorem Sound.zero {d : Dc} {H : Nat → Nat} (h : Sound d H) : dictOk d H = 0 := dictOk0 h.d1 h.d2 h.d3 h.d4 h.d5

end Go.Proofs.YtglcaejddckleaaDoor
