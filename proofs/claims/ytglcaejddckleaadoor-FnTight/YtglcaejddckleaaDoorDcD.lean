/-
  Dicts: the model's rule 2.
-/
import Derived.Test.YtglcaejddckleaaDoorDcC
namespace Go.Proofs.YtglcaejddckleaaDoor
open Go.RowKit
set_option linter.unusedVariables false
attribute [local go_sem] run_store_float run_equalIn_float

theorem logTo_dead {d : Dc} {k : Nat} {live last : Int} (h : logTo d k = some (live, last)) (ht : (d.L k).turn = 0) : logTo d (k + 1) = if noneB (d.L k).key && noneB (d.L k).val then some (live, last) else none := by
  show (match logTo d k with | none => none | some (live, last) => _) = _
  rw [h]
  simp only [ht, if_true]
theorem logTo_live {d : Dc} {k : Nat} {live last : Int} (h : logTo d k = some (live, last)) (ht : (d.L k).turn ≠ 0) : logTo d (k + 1) = if pairB d.turns last (d.L k) then some (live + 1, (d.L k).turn) else none := by
  show (match logTo d k with | none => none | some (live, last) => _) = _
  rw [h]
  simp only [ht, if_false]
theorem not_D2 {d : Dc} {k : Nat} (hk : k < d.n) (h : logTo d (k + 1) = none) : tells (D2 d) = false := tells_no (fun ⟨l, e⟩ => by rw [logTo_none' h (by omega)] at e; cases e)

end Go.Proofs.YtglcaejddckleaaDoor
