/-
  The laws' marks: the text of a number.
-/
import Derived.Test.YtgiegkigfokdmaaDigits
namespace Go.Proofs.Ytgiegkigfokdmaa
open Go.RowKit
set_option linter.unusedVariables false

/-- The mark of k. -/
def mark (k : Nat) : ByteArray := ⟨(109 :: Lib.decDigits k).toArray⟩

def digs (u : Nat) : List UInt8 := if u = 0 then [] else Lib.decDigits u

theorem digs_step {u : Nat} (h : 0 < u) : digs u = digs (u / 10) ++ [dig u] := by
  unfold digs
  rw [if_neg (by omega)]
  by_cases h10 : u < 10
  · rw [digits_small h10, if_pos (by omega)]
    unfold dig
    rw [Nat.mod_eq_of_lt h10]; rfl
  · rw [digits_big h10, if_neg (by omega)]; rfl

end Go.Proofs.Ytgiegkigfokdmaa
