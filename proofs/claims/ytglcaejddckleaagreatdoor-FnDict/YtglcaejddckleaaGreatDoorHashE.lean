/-
  The model's decimal numerals.
-/
import Derived.Test.YtglcaejddckleaaGreatDoorHashD
import Derived.Laws.IdiomStrings
namespace Go.Proofs.YtglcaejddckleaaGreatDoor
open Go.RowKit
set_option linter.unusedVariables false

set_option maxRecDepth 100000 in
set_option maxHeartbeats 1000000 in
theorem decimal_pos (n : Nat) (hn : n < 9007199254740992) (w : World) :
    Calls Tryz.prog 156 #[.int .i64 (n : Int)] w fun e w' => e = .returned (.string ⟨(Lib.decDigits n).toArray⟩) ∧ Below w.heap.size w w' := by
  have hl := digits_len n (by omega)
  have g2 : (0 : Int) ≤ (n : Int) := by omega
  go_enter Tryz.func156, Tryz.ntmps156
  go_wp2
  go_loopw [0, 3] (fun a o wr => ∃ (u : Nat) (l : List UInt8), u ≤ n ∧ a = .int .i64 (u : Int) ∧ o = .string ⟨l.toArray⟩ ∧ Lib.decDigits n = Lib.decDigits u ++ l ∧ Below w.heap.size w wr) (fun a _ _ => (intOf a).toNat)
  case atStart => exact ⟨n, [], Nat.le_refl _, rfl, rfl, by simp, Below.refl _ _⟩
  case round =>
    obtain ⟨u, l, hu, rfl, rfl, hd, hb⟩ := hrel
    have HD : Hid (Lib.decDigits n = Lib.decDigits u ++ l) := hd
    have hll : l.length ≤ 21 := by have := congrArg List.length hd; rw [List.length_append] at this; omega
    clear hd
    have hcv := conv_digit u wr
    by_cases h10 : u < 10
    · have hz : ((u : Int) / 10 == 0) = true := by simp; omega
      go_wp2
      go_ret
      refine ⟨ret_str ?_, hb.alloc hb.size _⟩
      rw [ba_append, HD.out, digits_small h10]
      have : dig u = UInt8.ofNat (48 + u) := by unfold dig; rw [Nat.mod_eq_of_lt h10]
      rw [this]
    · have hz : ((u : Int) / 10 == 0) = false := by simp; omega
      go_wp2
      go_roundw
      case rel =>
        refine ⟨u / 10, dig u :: l, by omega, by go_num, ?_, ?_, hb.alloc hb.size _⟩
        · rw [ba_append]; rfl
        · rw [HD.out, digits_big h10, List.append_assoc]; rfl
      case measure => simp [intOf]; omega
end Go.Proofs.YtglcaejddckleaaGreatDoor
