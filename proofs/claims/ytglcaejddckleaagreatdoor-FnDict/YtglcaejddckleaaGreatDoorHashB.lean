/-
  The library's Abs, IsInf, Frexp and TrailingZeros64, walked at the floats that come here.
-/
import Derived.Test.YtglcaejddckleaaGreatDoorFltB
import Derived.Test.YtglcaejddckleaaGreatDoorChecked
import GoSem.Claim
import GoSem.ClaimJoined
import GoSem.ClaimMapViews
import Derived.JoinedTies
import Derived.KernelRfl
import Derived.RowKit
import Derived.WalkKit
import Derived.WalkSpells
import Derived.WalkLawsBesides
import Derived.Laws.Externs
import Derived.Shelf.Spec.TrailingZeros
namespace Go.Proofs.YtglcaejddckleaaGreatDoor
open Go.RowKit
set_option linter.unusedVariables false

theorem run_bits64 (x : Nat) (w : World) : (callFunc 137 #[.float .f64 x]).run Tryz.prog w = .ok (.value (.int .u64 (x : Int))) w := by
  rw [run_callFunc_extern (e := Extern.MathFloatBits.float64bits) Tryz.func137 (by kernel_rfl) (by kernel_rfl) (by kernel_rfl) (by kernel_rfl)]
  rfl
theorem run_frombits64 (x : Nat) (w : World) : (callFunc 138 #[.int .u64 (x : Int)]).run Tryz.prog w = .ok (.value (.float .f64 x)) w := by
  rw [run_callFunc_extern (e := Extern.MathFloatBits.float64frombits) Tryz.func138 (by kernel_rfl) (by kernel_rfl) (by kernel_rfl) (by kernel_rfl)]
  rfl

set_option maxHeartbeats 400000 in
theorem abs_any (x y : Nat) (w : World) (h : bits BinOp.andNot IntKind.u64 (x : Int) 9223372036854775808 = (y : Int)) :
    Calls Tryz.prog 135 #[.float .f64 x] w fun e w' => e = .returned (.float .f64 y) ∧ w' = w := by
  have h1 := run_bits64 x
  have h2 := run_frombits64 y
  go_enter Tryz.func135, Tryz.ntmps135
  go_wp2
  go_ret
  exact ⟨rfl, rfl⟩

set_option maxHeartbeats 400000 in
theorem isInf_zero (x y : Nat) (w : World) (h : bits BinOp.andNot IntKind.u64 (x : Int) 9223372036854775808 = (y : Int)) :
    Calls Tryz.prog 139 #[.float .f64 x, .int .i64 0] w fun e w' => e = .returned (.bool (FloatKind.f64.format.order y 9218868437227405311 == some .gt)) ∧ w' = w := by
  have H : Hid (bits BinOp.andNot IntKind.u64 (x : Int) 9223372036854775808 = (y : Int)) := h
  clear h
  go_enter Tryz.func139, Tryz.ntmps139
  go_wp2_with (go_at_call 135; refine (abs_any x y _ H.out).mono ?_; rintro e w1 ⟨rfl, rfl⟩)
  go_ret
  exact ⟨rfl, rfl⟩

set_option maxHeartbeats 400000 in
theorem isInf_pos (x : Nat) (w : World) :
    Calls Tryz.prog 139 #[.float .f64 x, .int .i64 1] w fun e w' => e = .returned (.bool (FloatKind.f64.format.order x 9218868437227405311 == some .gt)) ∧ w' = w := by
  go_enter Tryz.func139, Tryz.ntmps139
  go_wp2
  go_ret
  exact ⟨rfl, rfl⟩

set_option maxHeartbeats 400000 in
theorem isInf_neg (x : Nat) (w : World) :
    Calls Tryz.prog 139 #[.float .f64 x, .int .i64 (-1)] w fun e w' => e = .returned (.bool (FloatKind.f64.format.order (Op.negFloat .f64 x) 9218868437227405311 == some .gt)) ∧ w' = w := by
  have hneg : ∀ w : World, (Op.unary .neg (.float .f64 x)).run Tryz.prog w = .ok (.float .f64 (Op.negFloat .f64 x)) w := fun _ => rfl
  go_enter Tryz.func139, Tryz.ntmps139
  go_wp2
  go_ret
  exact ⟨rfl, rfl⟩

set_option maxHeartbeats 400000 in
theorem normalize_small (x y r : Nat) (w : World) (h : bits BinOp.andNot IntKind.u64 (x : Int) 9223372036854775808 = (y : Int)) (hlt : (FloatKind.f64.format.order y 4503599627370496 == some .lt) = true)
    (hm : floatBits .mul .f64 x 4841369599423283200 = some r) :
    Calls Tryz.prog 157 #[.float .f64 x] w fun e w' => e = .returned (.tuple #[.float .f64 r, .int .i64 (-52)]) ∧ w' = w := by
  have H : Hid (bits BinOp.andNot IntKind.u64 (x : Int) 9223372036854775808 = (y : Int)) := h
  have hr : ∀ w : World, (binOp .mul 28 (.float .f64 x) (.float .f64 4841369599423283200)).run Tryz.prog w = .ok (.float .f64 r) w := fun w => run_float_arith w .mul 28 .f64 _ _ r hm
  clear h hm
  go_enter Tryz.func157, Tryz.ntmps157
  go_wp2_with (go_at_call 135; refine (abs_any x y _ H.out).mono ?_; rintro e w1 ⟨rfl, rfl⟩)
  go_ret2
  exact ⟨rfl, rfl⟩

set_option maxHeartbeats 400000 in
theorem normalize_big (x y : Nat) (w : World) (h : bits BinOp.andNot IntKind.u64 (x : Int) 9223372036854775808 = (y : Int)) (hlt : (FloatKind.f64.format.order y 4503599627370496 == some .lt) = false) :
    Calls Tryz.prog 157 #[.float .f64 x] w fun e w' => e = .returned (.tuple #[.float .f64 x, .int .i64 0]) ∧ w' = w := by
  have H : Hid (bits BinOp.andNot IntKind.u64 (x : Int) 9223372036854775808 = (y : Int)) := h
  clear h
  go_enter Tryz.func157, Tryz.ntmps157
  go_wp2_with (go_at_call 135; refine (abs_any x y _ H.out).mono ?_; rintro e w1 ⟨rfl, rfl⟩)
  go_ret2
  exact ⟨rfl, rfl⟩

set_option maxHeartbeats 1000000 in
/-- frexp, behind normalize: y with its exponent field e0 (as a number), its other fields kept in z, then in z2. -/
theorem frexp_any (x ya y e0 z z2 : Nat) (k : Int) (w : World) (hk : -60 ≤ k) (hk2 : k ≤ 60) (he0 : e0 < 2048)
    (hz : (FloatKind.f64.format.order x 0 == some .eq) = false) (hn : (FloatKind.f64.format.order x x != some .eq) = false)
    (habs : bits BinOp.andNot IntKind.u64 (x : Int) 9223372036854775808 = (ya : Int)) (hin : (FloatKind.f64.format.order ya 9218868437227405311 == some .gt) = false)
    (hnorm : ∀ w : World, Calls Tryz.prog 157 #[.float .f64 x] w fun e w' => e = .returned (.tuple #[.float .f64 y, .int .i64 k]) ∧ w' = w)
    (h1 : bits BinOp.and IntKind.u64 ((y : Int) / 4503599627370496) 2047 = (e0 : Int))
    (h2 : bits BinOp.andNot IntKind.u64 (y : Int) 9218868437227405312 = (z : Int))
    (h3 : bits BinOp.or IntKind.u64 (z : Int) 4602678819172646912 = (z2 : Int)) :
    Calls Tryz.prog 151 #[.float .f64 x] w fun e w' => e = .returned (.tuple #[.float .f64 z2, .int .i64 (k + ((e0 : Int) - 1023 + 1))]) ∧ w' = w := by
  have H : Hid (bits BinOp.andNot IntKind.u64 (x : Int) 9223372036854775808 = (ya : Int)) := habs
  have HN : Hid (∀ w : World, Calls Tryz.prog 157 #[.float .f64 x] w fun e w' => e = .returned (.tuple #[.float .f64 y, .int .i64 k]) ∧ w' = w) := hnorm
  have b1 := run_bits64 y
  have b2 := run_frombits64 z2
  have HI : Hid ((FloatKind.f64.format.order ya 9218868437227405311 == some .gt) = false) := hin
  clear habs hnorm hin
  go_enter Tryz.func151, Tryz.ntmps151
  go_wp2_with (first | (go_at_call 139; refine (isInf_zero x ya _ H.out).mono ?_; rintro e w1 ⟨rfl, rfl⟩; rw [HI.out]) | (go_at_call 49; go_in) | (go_at_call 157; refine (HN.out _).mono ?_; rintro e w1 ⟨rfl, rfl⟩))
  go_ret2
  exact ⟨rfl, rfl⟩
end Go.Proofs.YtglcaejddckleaaGreatDoor
