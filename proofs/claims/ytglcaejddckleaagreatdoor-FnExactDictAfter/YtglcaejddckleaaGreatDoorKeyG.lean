/-
  What is held against itself is the same: the laws' own comparisons.
-/
import Derived.Test.YtglcaejddckleaaGreatDoorKeyF
namespace Go.Proofs.YtglcaejddckleaaGreatDoor
open Go.RowKit
attribute [local go_sem] run_store_float run_equalIn_float

theorem zero_num {x : Nat} (h : fz x = true) : ∃ s i, Ieee.double.read x = .number s 0 i := by
  have h' : (Ieee.double.order x 0 == some .eq) = true := h
  rcases Fl.read_cases x with ⟨s, m, i, hr, hi, hi2, hm, _⟩ | ⟨s, hr⟩ | ⟨s, t, hr⟩
  · rw [Fl.ord_of hr Fl.read_nil hi (by omega), Fl.cmp_eq, Fl.sc_zero] at h'
    have h0 : Fl.sc s m i = 0 := by simpa using h'
    unfold Fl.sc at h0
    rw [Fl.signed_eq] at h0
    have hp := Fl.pow_pos' (i + 1074).toNat
    have : m = 0 := by
      generalize (2 : Int) ^ (i + 1074).toNat = u at h0 hp
      have h1 : (m : Int) * u = 0 := by
        cases s
        · simpa using h0
        · simpa using h0
      rcases Int.mul_eq_zero.1 h1 with h | h <;> omega
    subst this
    exact ⟨s, i, hr⟩
  · exfalso
    unfold Ieee.Format.order at h'
    rw [hr, Fl.read_nil] at h'
    cases s <;> simp [Ieee.Datum.order] at h'
  · exfalso
    unfold Ieee.Format.order at h'
    rw [hr] at h'
    simp [Ieee.Datum.order] at h'

theorem quo_zero {x : Nat} (h : fz x = true) : ∃ r, floatBits .quo .f64 4607182418800017408 x = some r := by
  obtain ⟨s, i, hr⟩ := zero_num h
  refine ⟨Ieee.double.write (.infinity (false ^^ s)), ?_⟩
  show ((Ieee.double.read 4607182418800017408).quotient _ (Ieee.double.read x)).map Ieee.double.write = _
  rw [hr, Fl.read_one]
  simp [Ieee.Datum.quotient]

set_option maxHeartbeats 1000000 in
theorem sameFloat_self (x : Nat) (w : World) :
    Calls Tryz.prog 81 #[.float .f64 x, .float .f64 x] w fun e w' => e = .returned (.bool true) ∧ w' = w := by
  by_cases h1 : fnan x = true
  · have g1 : (FloatKind.f64.format.order x x != some .eq) = true := h1
    clear h1
    go_enter Tryz.func81, Tryz.ntmps81
    go_wp2
    go_ret
    exact ⟨rfl, rfl⟩
  have g1 : (FloatKind.f64.format.order x x != some .eq) = false := (by simpa using h1 : fnan x = false)
  have g2 : (FloatKind.f64.format.order x x == some .eq) = true := by simpa using g1
  by_cases h2 : fz x = true
  · have g3 : (FloatKind.f64.format.order x 0 == some .eq) = true := h2
    obtain ⟨r, hr⟩ := quo_zero h2
    have hq : ∀ w : World, (binOp .quo 28 (.float .f64 4607182418800017408) (.float .f64 x)).run Tryz.prog w = .ok (.float .f64 r) w := fun w => run_float_arith w .quo 28 .f64 _ _ r hr
    clear h1 h2 hr
    go_enter Tryz.func81, Tryz.ntmps81
    go_wp2
    go_ret
    exact ⟨by simp, rfl⟩
  · have g3 : (FloatKind.f64.format.order x 0 == some .eq) = false := (by simpa using h2 : fz x = false)
    clear h1 h2
    go_enter Tryz.func81, Tryz.ntmps81
    go_wp2
    go_ret
    exact ⟨rfl, rfl⟩

set_option maxHeartbeats 1000000 in
theorem eqValue_self (kind num : Int) (flt : Nat) (s : ByteArray) (ref : Int) (w : World) :
    Calls Tryz.prog 35 #[V kind num flt s ref, V kind num flt s ref] w fun e w' => e = .returned (.bool true) ∧ Below w.heap.size w w' := by
  go_enter Tryz.func35, Tryz.ntmps35
  go_wp2_with (go_at_call 81; refine (sameFloat_self flt _).mono ?_; rintro e w1 ⟨rfl, rfl⟩)
  go_ret
  exact ⟨rfl, ((Below.refl _ _).alloc (Nat.le_refl _) _).alloc (by simp) _⟩

end Go.Proofs.YtglcaejddckleaaGreatDoor
