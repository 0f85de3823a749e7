/-
  The text of a float: the program's and the model's are one.
-/
import Derived.Test.YtglcaejddckleaaGreatDoorHashG
import Derived.Test.YtglcaejddckleaaGreatDoorHashH
namespace Go.Proofs.YtglcaejddckleaaGreatDoor
open Go.RowKit
set_option linter.unusedVariables false

/-- The text of a float that is no NaN and no zero. -/
def ftOf (x : Nat) : List UInt8 := match Ieee.double.read x with
  | .infinity s => (if s then [45] else []) ++ [105, 110, 102]
  | .number s m i => ftext s (2 * (m / 2 ^ Lib.ctz 64 m / 2) + 1) (i + Lib.ctz 64 m)
  | _ => []

theorem oddF_ctz (m : Nat) (i : Int) (hm0 : m ≠ 0) (hm : m < 2 ^ 53) : OddF m i (m / 2 ^ Lib.ctz 64 m / 2) (i + Lib.ctz 64 m) := by
  obtain ⟨M, h1, _⟩ := Fl.ctz_spec false m (by omega) hm
  have e : Fl.uw false m = m := rfl
  rw [e] at h1
  refine ⟨0, Lib.ctz 64 m, ?_, by omega⟩
  generalize Lib.ctz 64 m = t at h1
  have : m / 2 ^ t = 2 * M + 1 := by rw [h1]; exact Nat.mul_div_cancel_left _ (Nat.two_pow_pos t)
  rw [this, show 2 * ((2 * M + 1) / 2) + 1 = 2 * M + 1 from by omega, Nat.pow_zero, Nat.mul_one, Nat.mul_comm]
  exact h1

set_option maxHeartbeats 400000 in
theorem itext_inf (x : Nat) (w : World) (h : (FloatKind.f64.format.order x 9218868437227405311 == some .gt) = true) :
    Calls Tryz.prog 119 #[.float .f64 x] w fun e w' => e = .returned (.string ⟨#[105, 110, 102]⟩) ∧ w' = w := by
  have H : Hid ((FloatKind.f64.format.order x 9218868437227405311 == some .gt) = true) := h
  clear h
  go_enter Tryz.func119, Tryz.ntmps119
  go_wp2_with fail
  refine (isInf_pos x _).mono ?_
  rintro e w1 ⟨rfl, rfl⟩
  rw [H.out]
  go_wp2_with fail
  go_ret
  exact ⟨rfl, rfl⟩

set_option maxHeartbeats 400000 in
theorem itext_ninf (x : Nat) (w : World) (h : (FloatKind.f64.format.order x 9218868437227405311 == some .gt) = false) (h2 : (FloatKind.f64.format.order (Op.negFloat .f64 x) 9218868437227405311 == some .gt) = true) :
    Calls Tryz.prog 119 #[.float .f64 x] w fun e w' => e = .returned (.string ⟨#[45, 105, 110, 102]⟩) ∧ w' = w := by
  have H : Hid ((FloatKind.f64.format.order x 9218868437227405311 == some .gt) = false) := h
  have H2 : Hid ((FloatKind.f64.format.order (Op.negFloat .f64 x) 9218868437227405311 == some .gt) = true) := h2
  clear h h2
  go_enter Tryz.func119, Tryz.ntmps119
  go_wp2_with fail
  refine (isInf_pos x _).mono ?_
  rintro e w1 ⟨rfl, rfl⟩
  rw [H.out]
  go_wp2_with fail
  refine (isInf_neg x _).mono ?_
  rintro e w1 ⟨rfl, rfl⟩
  rw [H2.out]
  go_wp2_with fail
  go_ret
  exact ⟨rfl, rfl⟩

set_option maxHeartbeats 1000000 in
theorem stext_inf (x r0 : Nat) (w : World)
    (g1 : (FloatKind.f64.format.order x x != some .eq) = false) (g2 : (FloatKind.f64.format.order x 0 == some .lt) = false) (g3 : (FloatKind.f64.format.order x 0 == some .eq) = false)
    (hr0 : floatBits .mul .f64 x 4602678819172646912 = some r0) (g5 : (FloatKind.f64.format.order r0 x == some .eq) = true) :
    Calls Tryz.prog 148 #[.float .f64 x] w fun e w' => e = .returned (.string ⟨#[105, 110, 102]⟩) ∧ w' = w := by
  have hmul0 : ∀ w : World, (binOp .mul 28 (.float .f64 x) (.float .f64 4602678819172646912)).run Tryz.prog w = .ok (.float .f64 r0) w := fun w => run_float_arith w .mul 28 .f64 _ _ r0 hr0
  have G1 : Hid ((FloatKind.f64.format.order x x != some .eq) = false) := g1
  clear hr0
  go_enter Tryz.func148, Tryz.ntmps148
  go_wp2_with (go_at_call 57; refine (l1nan_no x _ G1.out).mono ?_; rintro e w1 ⟨rfl, rfl⟩)
  go_ret
  exact ⟨ret_str (ba_append [] _), rfl⟩

set_option maxHeartbeats 1000000 in
theorem stext_ninf (x r0 : Nat) (w : World)
    (g1 : (FloatKind.f64.format.order x x != some .eq) = false) (g2 : (FloatKind.f64.format.order x 0 == some .lt) = true) (g4 : (FloatKind.f64.format.order (Op.negFloat .f64 x) 0 == some .eq) = false)
    (hr0 : floatBits .mul .f64 (Op.negFloat .f64 x) 4602678819172646912 = some r0) (g5 : (FloatKind.f64.format.order r0 (Op.negFloat .f64 x) == some .eq) = true) :
    Calls Tryz.prog 148 #[.float .f64 x] w fun e w' => e = .returned (.string ⟨#[45, 105, 110, 102]⟩) ∧ w' = w := by
  have hmul0 : ∀ w : World, (binOp .mul 28 (.float .f64 (Op.negFloat .f64 x)) (.float .f64 4602678819172646912)).run Tryz.prog w = .ok (.float .f64 r0) w := fun w => run_float_arith w .mul 28 .f64 _ _ r0 hr0
  have hneg : ∀ w : World, (Op.unary .neg (.float .f64 x)).run Tryz.prog w = .ok (.float .f64 (Op.negFloat .f64 x)) w := fun _ => rfl
  have G1 : Hid ((FloatKind.f64.format.order x x != some .eq) = false) := g1
  clear hr0
  go_enter Tryz.func148, Tryz.ntmps148
  go_wp2_with (go_at_call 57; refine (l1nan_no x _ G1.out).mono ?_; rintro e w1 ⟨rfl, rfl⟩)
  go_ret
  exact ⟨ret_str (ba_append [45] [105, 110, 102]), rfl⟩

theorem inf_half {x : Nat} (hx : Ieee.double.read x = .infinity false) : ∃ r0, floatBits .mul .f64 x 4602678819172646912 = some r0 ∧ (Ieee.double.order r0 x == some .eq) = true := by
  refine ⟨Ieee.double.write (.infinity (false ^^ false)), ?_, ?_⟩
  · show ((Ieee.double.read x).product (Ieee.double.read 4602678819172646912)).map Ieee.double.write = _
    rw [hx, Fl.read_half]; rfl
  · unfold Ieee.Format.order
    have : Ieee.double.read (Ieee.double.write (.infinity (false ^^ false))) = .infinity false := by decide
    rw [this, hx]; rfl

theorem st_zero_ne {y m : Nat} {i : Int} (h : Fl.St y m i) (hm : m ≠ 0) : (FloatKind.f64.format.order y 0 == some .eq) = false ∧ (FloatKind.f64.format.order y 0 == some .lt) = false ∧ (FloatKind.f64.format.order y y != some .eq) = false := by
  obtain ⟨q, l, h1, h2, h3, h4, h5, h6⟩ := Fl.st_pos h hm
  have hpos : (0 : Int) < ((q * 2 ^ (l + 1074).toNat : Nat) : Int) := Int.ofNat_lt.2 (Nat.mul_pos (by omega) (Nat.two_pow_pos _))
  refine ⟨?_, ?_, ?_⟩
  · show (Ieee.double.order y 0 == some .eq) = false
    rw [Fl.ord_of h1 Fl.read_nil h2 (by omega), Fl.cmp_eq, Fl.sc_zero, Fl.sc_false]
    simp only [decide_eq_false_iff_not]; omega
  · show (Ieee.double.order y 0 == some .lt) = false
    rw [Fl.ord_of h1 Fl.read_nil h2 (by omega), Fl.cmp_lt, Fl.sc_zero, Fl.sc_false]
    simp only [decide_eq_false_iff_not]; omega
  · show (!(Ieee.double.order y y == some .eq)) = false
    rw [Fl.ord_of h1 h1 h2 h2, Fl.cmp_eq]; simp
end Go.Proofs.YtglcaejddckleaaGreatDoor
