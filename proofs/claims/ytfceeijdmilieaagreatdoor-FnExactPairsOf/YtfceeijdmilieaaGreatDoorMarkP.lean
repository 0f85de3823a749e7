/-
  Mark.
-/
import Derived.Test.YtfceeijdmilieaaGreatDoorBq3
namespace Go.Proofs.YtfceeijdmilieaaGreatDoor
open Go.RowKit
set_option linter.unusedVariables false

/-- The mark of k. -/
def mark (k : Nat) : ByteArray := ⟨(109 :: Lib.decDigits k).toArray⟩

def digs (u : Nat) : List UInt8 := if u = 0 then [] else Lib.decDigits u

theorem digs_step {u : Nat} (h : 0 < u) : digs u = digs (u / 10) ++ [dig u] := by
  unfold digs
  rw [if_neg (by omega)]
  by_cases h10 : u < 10
  · rw [digits_small h10, if_pos (by omega)]
    unfold dig
    rw [Nat.mod_eq_of_lt h10]; rfl
  · rw [digits_big h10, if_neg (by omega)]; rfl

set_option maxRecDepth 100000 in
set_option maxHeartbeats 1000000 in
theorem markText_any (k : Nat) (hk : k < 9007199254740992) (w : World) :
    Calls Tryz.prog 65 #[.int .i64 (k : Int)] w fun e w' => e = .returned (.string (mark k)) ∧ Below w.heap.size w w' := by
  by_cases h0 : k = 0
  · subst h0
    go_enter Tryz.func65, Tryz.ntmps65
    go_wp2
    go_ret
    exact ⟨ret_str (by unfold mark; rw [digits_small (by omega)]; rfl), Below.refl _ _⟩
  have hl := digits_len k (by omega)
  have HE : Hid (Lib.decDigits k = digs k) := hide (by unfold digs; rw [if_neg h0])
  have hk0 : 0 < k := by omega
  go_enter Tryz.func65, Tryz.ntmps65
  go_wp2
  go_loopw [0, 3] (fun a o wr => ∃ (u : Nat) (l : List UInt8), u ≤ k ∧ a = .int .i64 (u : Int) ∧ o = .string ⟨l.toArray⟩ ∧ Lib.decDigits k = digs u ++ l ∧ Below w.heap.size w wr) (fun a _ _ => (intOf a).toNat)
  case atStart => exact ⟨k, [], Nat.le_refl _, rfl, rfl, by rw [unhide HE]; simp, Below.refl _ _⟩
  case round =>
    obtain ⟨u, l, hu, rfl, rfl, hd, hb⟩ := hrel
    have HD : Hid (Lib.decDigits k = digs u ++ l) := hd
    have hll : l.length ≤ 21 := by have := congrArg List.length hd; rw [List.length_append] at this; omega
    clear hd
    have hcv := conv_digit u wr
    go_wp2
    · have hu0 : 0 < u := by assumption
      go_roundw
      case rel =>
        refine ⟨u / 10, dig u :: l, by omega, by go_num, ?_, ?_, hb.alloc hb.size _⟩
        · rw [ba_append]; rfl
        · rw [HD.out, digs_step hu0, List.append_assoc]; rfl
      case measure => simp [intOf]; omega
    · have hu0 : u = 0 := by omega
      subst hu0
      go_ret
      refine ⟨ret_str ?_, hb⟩
      unfold mark
      rw [HD.out]
      apply ByteArray.ext
      simp [digs]
end Go.Proofs.YtfceeijdmilieaaGreatDoor
