/-
  Dicts: the model's rule 3.
-/
import Derived.Test.YtglcaejddckleaaDoorDcD
namespace Go.Proofs.YtglcaejddckleaaDoor
open Go.RowKit
set_option linter.unusedVariables false
attribute [local go_sem] run_store_float run_equalIn_float

theorem not_D3 {d : Dc} {k : Nat} (hk : k < d.m) (h : ¬ okInt d k) : tells (D3 d) = false := tells_no (fun h' => h (h'.1 k hk))

theorem tells_and3 {a b c : Prop} : tells (a ∧ b ∧ c) = (tells a && tells b && tells c) := by
  by_cases ha : a <;> by_cases hb : b <;> by_cases hc : c <;> simp [tells, ha, hb, hc]
theorem tells_eq {a b : Int} : tells (a = b) = (a == b) := by
  by_cases h : a = b <;> simp [tells, h]
theorem tells_le {a b : Int} : tells (a ≤ b) = decide (a ≤ b) := by
  by_cases h : a ≤ b <;> simp [tells, h]

end Go.Proofs.YtglcaejddckleaaDoor
