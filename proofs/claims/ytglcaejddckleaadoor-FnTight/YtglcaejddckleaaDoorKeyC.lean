/-
  The model's floor, held against the float that it was asked of.
-/
import Derived.Test.YtglcaejddckleaaDoorKeyB
namespace Go.Proofs.YtglcaejddckleaaDoor
open Go.RowKit
attribute [local go_sem] run_store_float run_equalIn_float

/-- Where the model's floor hands its argument back. -/
def asIs (x : Nat) : Bool := fnan x || fz x || (FloatKind.f64.format.order x 4890909195324358656 == some .gt || FloatKind.f64.format.order x 4890909195324358656 == some .eq) || (FloatKind.f64.format.order x 14114281232179134464 == some .lt || FloatKind.f64.format.order x 14114281232179134464 == some .eq)

theorem not_asIs {x : Nat} (h : asIs x = false) : fnan x = false ∧ fz x = false ∧ (FloatKind.f64.format.order x 4890909195324358656 == some .gt || FloatKind.f64.format.order x 4890909195324358656 == some .eq) = false ∧ (FloatKind.f64.format.order x 14114281232179134464 == some .lt || FloatKind.f64.format.order x 14114281232179134464 == some .eq) = false := by
  unfold asIs at h
  simp only [Bool.or_eq_false_iff] at h
  exact ⟨h.1.1.1, h.1.1.2, by simp [h.1.2], by simp [h.2]⟩

theorem num_of {x : Nat} (h : asIs x = false) : ∃ s m i, Ieee.double.read x = .number s m i ∧ -1074 ≤ i ∧ i ≤ 971 ∧ m < 2 ^ 53 ∧ -(9223372036854775808 * Fl.U) ≤ Fl.sc s m i ∧ Fl.sc s m i < 9223372036854775808 * Fl.U := by
  obtain ⟨h1, h2, h3, h4⟩ := not_asIs h
  have h1' : (Ieee.double.order x x != some .eq) = false := h1
  have h3' : (Ieee.double.order x 4890909195324358656 == some .gt || Ieee.double.order x 4890909195324358656 == some .eq) = false := h3
  have h4' : (Ieee.double.order x 14114281232179134464 == some .lt || Ieee.double.order x 14114281232179134464 == some .eq) = false := h4
  rcases Fl.read_cases x with ⟨s, m, i, hr, hi, hi2, hm, _⟩ | ⟨s, hr⟩ | ⟨s, t, hr⟩
  · refine ⟨s, m, i, hr, hi, hi2, hm, ?_, ?_⟩
    · rw [Fl.ord_of hr Fl.read_m63 hi (by omega), Fl.sc_m63, Fl.cmp_lt, Fl.cmp_eq] at h4'
      simp at h4'; omega
    · rw [Fl.ord_of hr Fl.read_c63 hi (by omega), Fl.sc_c63, Fl.cmp_gt, Fl.cmp_eq] at h3'
      simp at h3'; omega
  · exfalso
    unfold Ieee.Format.order at h3' h4'
    rw [hr, Fl.read_c63] at h3'
    rw [hr, Fl.read_m63] at h4'
    cases s <;> simp [Ieee.Datum.order] at h3' h4'
  · exfalso
    unfold Ieee.Format.order at h1'
    rw [hr] at h1'
    simp [Ieee.Datum.order] at h1'

/-- Where the model's floor hands its argument back, a float within the bounds is whole. -/
theorem asIs_whole {x : Nat} (h : asIs x = true) (hn : fnan x = false) (h1 : geB x = true) (h2 : ltB x = true) : isW x = true := by
  obtain ⟨s, m, i, hr, hi, hi2, hm, hlo, hhi⟩ := fin_of h1 h2
  have hw : isW x = decide (Fl.sc s m i = Fl.sg s (Fl.whole m i) * Fl.U) := by unfold isW; rw [hr]
  rw [hw]
  have hb := Fl.whole_bounds m i hi
  have hu := Fl.U_pos
  unfold asIs at h
  rw [hn] at h
  have e1 : fz x = decide (Fl.sc s m i = 0) := by
    show (Ieee.double.order x 0 == some .eq) = _
    rw [Fl.ord_of hr Fl.read_nil hi (by omega), Fl.cmp_eq, Fl.sc_zero]
  have e2 : (FloatKind.f64.format.order x 4890909195324358656 == some .gt || FloatKind.f64.format.order x 4890909195324358656 == some .eq) = false := by
    show (Ieee.double.order x 4890909195324358656 == some .gt || Ieee.double.order x 4890909195324358656 == some .eq) = false
    rw [Fl.ord_of hr Fl.read_c63 hi (by omega), Fl.sc_c63, Fl.cmp_gt, Fl.cmp_eq]
    simp; omega
  have e3 : (FloatKind.f64.format.order x 14114281232179134464 == some .lt || FloatKind.f64.format.order x 14114281232179134464 == some .eq) = decide (Fl.sc s m i = -(9223372036854775808 * Fl.U)) := by
    show (Ieee.double.order x 14114281232179134464 == some .lt || Ieee.double.order x 14114281232179134464 == some .eq) = _
    rw [Fl.ord_of hr Fl.read_m63 hi (by omega), Fl.sc_m63, Fl.cmp_lt, Fl.cmp_eq]
    have : ¬ Fl.sc s m i < -(9223372036854775808 * Fl.U) := by omega
    simp [this]
  rw [e1, e2, e3] at h
  simp at h
  have hk : (Fl.whole m i : Int) = 0 ∨ (s = true ∧ (Fl.whole m i : Int) = 9223372036854775808) := by
    rcases h with h | h
    · left
      have h0 : Fl.sc false m i = 0 := by
        cases s
        · exact h
        · rw [Fl.sc_neg] at h; omega
      rw [h0] at hb
      have := Int.le_of_mul_le_mul_right (show (Fl.whole m i : Int) * Fl.U ≤ 0 * Fl.U from by omega) hu
      omega
    · right
      have hs : s = true := by
        cases s
        · exfalso
          have h0 : 0 ≤ (Fl.whole m i : Int) * Fl.U := Int.mul_nonneg (by omega) (by omega)
          omega
        · rfl
      subst hs
      rw [Fl.sc_neg] at h
      have h0 : Fl.sc false m i = 9223372036854775808 * Fl.U := by omega
      rw [h0] at hb
      have h3 := Int.lt_of_mul_lt_mul_right hb.2 (by omega)
      have h4 := Int.le_of_mul_le_mul_right hb.1 hu
      exact ⟨rfl, by omega⟩
  rcases h with h | h
  · have : (Fl.whole m i : Int) = 0 := by
      rcases hk with k | ⟨k1, k2⟩
      · exact k
      · exfalso; subst k1; rw [Fl.sc_neg] at h; rw [k2] at hb; omega
    have e0 : Fl.whole m i = 0 := by omega
    rw [h, e0]; cases s <;> simp [Fl.sg]
  · rcases hk with k | ⟨k1, k2⟩
    · exfalso
      rw [k] at hb
      have : Fl.sc false m i < Fl.U := by simpa using hb.2
      cases s
      · omega
      · rw [Fl.sc_neg] at h; omega
    · subst k1
      have e0 : Fl.whole m i = 9223372036854775808 := by omega
      rw [h, e0]; simp [Fl.sg, Int.neg_mul]

end Go.Proofs.YtglcaejddckleaaDoor
