/-
  The text of a float, of the program: Frexp, TrailingZeros64, FormatInt, Itoa.
-/
import Derived.Test.YtglcaejddckleaaGreatDoorFltC
import Derived.Test.YtglcaejddckleaaGreatDoorHashB
import Derived.Test.YtglcaejddckleaaGreatDoorHashA
import Derived.Test.YtglcaejddckleaaGreatDoorShelf
import Derived.Lib.AppendIntMem
import Derived.WalkSmall
namespace Go.Proofs.YtglcaejddckleaaGreatDoor
open Go.RowKit
set_option linter.unusedVariables false

/-- The two tables of the library lie as their initialisers lay them. -/
structure Tabs (w : World) : Prop where
  t64 : TabAt 1 Lib.deBruijn64tab w
  p10 : Lib.TabIs Tryz.prog w "internal/strconv.uint64pow10" .u64 Lib.pow10Tab
  sz : 4 ≤ w.heap.size

theorem Tabs.below {w w' : World} (h : Tabs w) {B : Nat} (hb : Below B w w') (hB : 4 ≤ B) : Tabs w' :=
  ⟨fun j hj => (hb.cell (p := ⟨1, j, none⟩) (show 1 < B from by omega)).trans (h.t64 j hj),
   var?_below hb (show Tryz.prog.globalNamed "internal/strconv.uint64pow10" = some 2 from by kernel_rfl) (by omega) h.p10,
   Nat.le_trans h.sz hb.size⟩

set_option maxHeartbeats 1000000 in
theorem tz64_core' (x k idx : Nat) (w : World) (hx0 : ((x : Int) == 0) = false)
    (key : IntKind.u64.wrap (bits BinOp.and IntKind.u64 (x : Int) (IntKind.u64.wrap (-(x : Int))) * 285870213051353865) / 288230376151711744 = (idx : Int))
    (hi : idx < 64) (hk : k < 64) (hcell : w.cell? ⟨1, idx, none⟩ = some (.int .u8 k)) :
    Calls Tryz.prog 141 #[.int .u64 x] w fun e w' => e = .returned (.int .i64 k) ∧ w' = w := by
  go_enter Tryz.func141, Tryz.ntmps141
  go_wp2_with (simp only [key])
  go_ret
  exact ⟨rfl, rfl⟩

theorem tz64_any (x : Nat) (hx : x < 18446744073709551616) (hx0 : x ≠ 0) (w : World) (hT : Tabs w) :
    Calls Tryz.prog 141 #[.int .u64 x] w fun e w' => e = .returned (.int .i64 (Lib.ctz 64 x)) ∧ w' = w := by
  obtain ⟨hlow, hk⟩ := Lib.lowest_bit 64 x hx0 hx
  obtain ⟨hi, htab⟩ := Lib.deBruijn64_at _ hk
  have hcell := hT.t64 _ hi
  rw [htab] at hcell
  exact tz64_core' x _ _ w (by simp; omega) (tz64_key x _ hx hx0 hlow) hi hk hcell

/-- Frexp at a finite float that is not zero. -/
theorem frexp_is {x : Nat} {s : Bool} {m : Nat} {i : Int} {ya y e0 z z2 : Nat} {k : Int} {j : Nat} (hr : Ieee.double.read x = .number s m i) (hi : -1074 ≤ i) (hm : m ≠ 0) (F : Fl.Fr x s m i ya y e0 z z2 k j) (w : World) :
    Calls Tryz.prog 151 #[.float .f64 x] w fun e w' => e = .returned (.tuple #[.float .f64 z2, .int .i64 (k + ((e0 : Int) - 1023 + 1))]) ∧ w' = w := by
  have hz : (FloatKind.f64.format.order x 0 == some .eq) = false := by
    show (Ieee.double.order x 0 == some .eq) = false
    rw [Fl.ord_of hr Fl.read_nil hi (by omega), Fl.cmp_eq, Fl.sc_zero]
    have hp := Fl.pow_pos' (i + 1074).toNat
    simp only [decide_eq_false_iff_not]
    unfold Fl.sc
    rw [Fl.signed_eq]
    generalize (2 : Int) ^ (i + 1074).toNat = u at hp
    intro h
    have h1 : (m : Int) * u = 0 := by cases s <;> simpa using h
    rcases Int.mul_eq_zero.1 h1 with h | h <;> omega
  have hn : (FloatKind.f64.format.order x x != some .eq) = false := by
    show (!(Ieee.double.order x x == some .eq)) = false
    rw [Fl.ord_of hr hr hi hi, Fl.cmp_eq]; simp
  refine frexp_any x ya y e0 z z2 k w F.hk F.hk2 F.he0 hz hn F.habs F.hin ?_ F.h1 F.h2 F.h3
  intro w
  rcases F.hnorm with ⟨h1, h2, h3⟩ | ⟨h1, h2, h3⟩
  · rw [h1, h2]; exact normalize_big x ya w F.habs h3
  · rw [h1]; exact normalize_small x ya y w F.habs h3 h2

set_option maxHeartbeats 400000 in
theorem frexp_pub {x : Nat} {s : Bool} {m : Nat} {i : Int} {ya y e0 z z2 : Nat} {k : Int} {j : Nat} (hr : Ieee.double.read x = .number s m i) (hi : -1074 ≤ i) (hm : m ≠ 0) (F : Fl.Fr x s m i ya y e0 z z2 k j) (w : World) :
    Calls Tryz.prog 140 #[.float .f64 x] w fun e w' => e = .returned (.tuple #[.float .f64 z2, .int .i64 (k + ((e0 : Int) - 1023 + 1))]) ∧ w' = w := by
  have H : Hid (∀ w : World, Calls Tryz.prog 151 #[.float .f64 x] w fun e w' => e = .returned (.tuple #[.float .f64 z2, .int .i64 (k + ((e0 : Int) - 1023 + 1))]) ∧ w' = w) := fun w => frexp_is hr hi hm F w
  clear F hr hm hi
  go_enter Tryz.func140, Tryz.ntmps140
  go_wp2_with (go_at_call 151; refine (H.out _).mono ?_; rintro e w1 ⟨rfl, rfl⟩)
  go_ret2
  exact ⟨rfl, rfl⟩
end Go.Proofs.YtglcaejddckleaaGreatDoor
