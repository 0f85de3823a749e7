/-
  The laws' own small functions on Values; the forms of what KeyOf gives.
-/
import Derived.Test.YtglcaejddckleaaDoorOpen
import Derived.Below
namespace Go.Proofs.YtglcaejddckleaaDoor
open Go.ChangeShapes Go.WideShapes Go.ChangeAt Go.RowKit
attribute [local go_sem] run_store_float run_equalIn_float

theorem keyV_form (kind num : Int) (flt : Nat) (s : ByteArray) (ref : Int) : ∃ c k n f t r, keyV kind num flt s ref = KV c k n f t r := by
  unfold keyV
  split
  · split
    · exact ⟨_, _, _, _, _, _, rfl⟩
    · split
      · split
        · exact ⟨_, _, _, _, _, _, rfl⟩
        · split
          · exact ⟨_, _, _, _, _, _, rfl⟩
          · exact ⟨_, _, _, _, _, _, rfl⟩
      · exact ⟨_, _, _, _, _, _, rfl⟩
  · exact ⟨_, _, _, _, _, _, rfl⟩

end Go.Proofs.YtglcaejddckleaaDoor
