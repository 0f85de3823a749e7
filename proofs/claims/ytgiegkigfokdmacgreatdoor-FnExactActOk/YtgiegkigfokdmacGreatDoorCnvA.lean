/-
  The laws' own small functions on Values.
-/
import Derived.Test.YtgiegkigfokdmacGreatDoorOpnA
import Derived.Below
namespace Go.Proofs.YtgiegkigfokdmacGreatDoor
open Go.ChangeShapes Go.WideShapes Go.ChangeAt Go.RowKit
attribute [local go_sem] run_store_float run_equalIn_float

set_option maxHeartbeats 400000 in
theorem sz_any (kind num : Int) (flt : Nat) (s : ByteArray) (ref : Int) (left : Int) (w : World) (hs : s.size ≤ maxLen) (h0 : 0 ≤ left) (h1 : left ≤ 1048576) :
    Calls Tryz.prog 58 #[V kind num flt s ref, .int .i64 left] w fun e w' => e = .returned (.int .i64 (if left < s.size then -1 else left - s.size)) ∧ Below w.heap.size w w' := by
  unfold maxLen at hs
  by_cases h : left < s.size
  · rw [if_pos h]
    go_enter Tryz.func58, Tryz.ntmps58
    go_wp2
    go_ret
    exact ⟨by simp, (Below.refl _ _).alloc (Nat.le_refl _) _⟩
  · rw [if_neg h]
    go_enter Tryz.func58, Tryz.ntmps58
    go_wp2
    go_ret
    exact ⟨by simp, (Below.refl _ _).alloc (Nat.le_refl _) _⟩

set_option maxHeartbeats 400000 in
theorem toValue_any (kind num : Int) (flt : Nat) (s : ByteArray) (ref : Int) (w : World)  :
    Calls Tryz.prog 61 #[V kind num flt s ref] w fun e w' => e = .returned (V kind num flt s ref) ∧ Below w.heap.size w w' := by
  go_enter Tryz.func61, Tryz.ntmps61
  go_wp2
  exact bodyPost_ret (v := V kind num flt s ref) (by simp [results, Tryz.results61, go_sem]) rfl ⟨rfl, (((Below.refl _ _).alloc (Nat.le_refl _) _).alloc (by simp) _).alloc (by simp; omega) _⟩

end Go.Proofs.YtgiegkigfokdmacGreatDoor
