/-
  The model's floor, held against the float that it was asked of.
-/
import Derived.Test.YtglcaejddckleaaGreatDoorKeyB
namespace Go.Proofs.YtglcaejddckleaaGreatDoor
open Go.RowKit
attribute [local go_sem] run_store_float run_equalIn_float

/-- Where the model's floor hands its argument back. -/
def asIs (x : Nat) : Bool := fnan x || fz x || (FloatKind.f64.format.order x 4890909195324358656 == some .gt || FloatKind.f64.format.order x 4890909195324358656 == some .eq) || (FloatKind.f64.format.order x 14114281232179134464 == some .lt || FloatKind.f64.format.order x 14114281232179134464 == some .eq)

set_option maxHeartbeats 1000000 in
theorem floor_same (x : Nat) (w : World) (h : asIs x = true) :
    Calls Tryz.prog 58 #[.float .f64 x] w fun e w' => e = .returned (.float .f64 x) ∧ w' = w := by
  by_cases h1 : fnan x = true
  · have g1 : (FloatKind.f64.format.order x x != some .eq) = true := h1
    clear h h1
    go_enter Tryz.func58, Tryz.ntmps58
    go_wp2
    go_ret
    exact ⟨rfl, rfl⟩
  have g1 : (FloatKind.f64.format.order x x != some .eq) = false := (by simpa using h1 : fnan x = false)
  by_cases h2 : fz x = true
  · have g2 : (FloatKind.f64.format.order x 0 == some .eq) = true := h2
    clear h h1 h2
    go_enter Tryz.func58, Tryz.ntmps58
    go_wp2
    go_ret
    exact ⟨rfl, rfl⟩
  have g2 : (FloatKind.f64.format.order x 0 == some .eq) = false := (by simpa using h2 : fz x = false)
  by_cases h3 : (FloatKind.f64.format.order x 4890909195324358656 == some .gt || FloatKind.f64.format.order x 4890909195324358656 == some .eq) = true
  · clear h h1 h2
    go_enter Tryz.func58, Tryz.ntmps58
    go_wp2
    go_ret
    exact ⟨rfl, rfl⟩
  have g3 : (FloatKind.f64.format.order x 4890909195324358656 == some .gt || FloatKind.f64.format.order x 4890909195324358656 == some .eq) = false := Bool.eq_false_iff.2 h3
  have g4 : (FloatKind.f64.format.order x 14114281232179134464 == some .lt || FloatKind.f64.format.order x 14114281232179134464 == some .eq) = true := by
    unfold asIs at h
    rw [g3] at h
    have a1 : fnan x = false := Bool.eq_false_iff.2 h1
    have a2 : fz x = false := Bool.eq_false_iff.2 h2
    rw [a1, a2] at h
    simpa using h
  clear h h1 h2 h3
  go_enter Tryz.func58, Tryz.ntmps58
  go_wp2
  go_ret
  exact ⟨rfl, rfl⟩

theorem not_asIs {x : Nat} (h : asIs x = false) : fnan x = false ∧ fz x = false ∧ (FloatKind.f64.format.order x 4890909195324358656 == some .gt || FloatKind.f64.format.order x 4890909195324358656 == some .eq) = false ∧ (FloatKind.f64.format.order x 14114281232179134464 == some .lt || FloatKind.f64.format.order x 14114281232179134464 == some .eq) = false := by
  unfold asIs at h
  simp only [Bool.or_eq_false_iff] at h
  exact ⟨h.1.1.1, h.1.1.2, by simp [h.1.2], by simp [h.2]⟩

theorem num_of {x : Nat} (h : asIs x = false) : ∃ s m i, Ieee.double.read x = .number s m i ∧ -1074 ≤ i ∧ i ≤ 971 ∧ m < 2 ^ 53 ∧ -(9223372036854775808 * Fl.U) ≤ Fl.sc s m i ∧ Fl.sc s m i < 9223372036854775808 * Fl.U := by
  obtain ⟨h1, h2, h3, h4⟩ := not_asIs h
  have h1' : (Ieee.double.order x x != some .eq) = false := h1
  have h3' : (Ieee.double.order x 4890909195324358656 == some .gt || Ieee.double.order x 4890909195324358656 == some .eq) = false := h3
  have h4' : (Ieee.double.order x 14114281232179134464 == some .lt || Ieee.double.order x 14114281232179134464 == some .eq) = false := h4
  rcases Fl.read_cases x with ⟨s, m, i, hr, hi, hi2, hm, _⟩ | ⟨s, hr⟩ | ⟨s, t, hr⟩
  · refine ⟨s, m, i, hr, hi, hi2, hm, ?_, ?_⟩
    · rw [Fl.ord_of hr Fl.read_m63 hi (by omega), Fl.sc_m63, Fl.cmp_lt, Fl.cmp_eq] at h4'
      simp at h4'; omega
    · rw [Fl.ord_of hr Fl.read_c63 hi (by omega), Fl.sc_c63, Fl.cmp_gt, Fl.cmp_eq] at h3'
      simp at h3'; omega
  · exfalso
    unfold Ieee.Format.order at h3' h4'
    rw [hr, Fl.read_c63] at h3'
    rw [hr, Fl.read_m63] at h4'
    cases s <;> simp [Ieee.Datum.order] at h3' h4'
  · exfalso
    unfold Ieee.Format.order at h1'
    rw [hr] at h1'
    simp [Ieee.Datum.order] at h1'

set_option maxHeartbeats 1000000 in
theorem floor_else (x : Nat) (h : asIs x = false) :
    ∃ r, (FloatKind.f64.format.order x r == some .eq) = isW x ∧ ∀ w : World, Calls Tryz.prog 58 #[.float .f64 x] w fun e w' => e = .returned (.float .f64 r) ∧ w' = w := by
  obtain ⟨s, m, i, hr, hi, hi2, hm, hlo, hhi⟩ := num_of h
  obtain ⟨h1, h2, h3, h4⟩ := not_asIs h
  have g1 : (FloatKind.f64.format.order x x != some .eq) = false := h1
  have g2 : (FloatKind.f64.format.order x 0 == some .eq) = false := h2
  have hw : isW x = decide (Fl.sc s m i = Fl.sg s (Fl.whole m i) * Fl.U) := by unfold isW; rw [hr]
  have hint := Fl.toIntVal hr hi hlo hhi
  obtain ⟨o1, o2⟩ := Fl.ord_float hr hi hi2 hm
  have hconv : ∀ w : World, (convert 28 2 (.float .f64 x)).run Tryz.prog w = .ok (.int .i64 (Fl.sg s (Fl.whole m i))) w := fun w => run_convert_float_int w 28 2 .f64 .i64 x _ (by kernel_rfl) Tryz.underlying2 hint
  by_cases hgt : Fl.sc s m i < Fl.sg s (Fl.whole m i) * Fl.U
  · obtain ⟨r, hsub, hne⟩ := Fl.floor_gt hr hi hm hgt
    have hsub' : ∀ w : World, (binOp .sub 28 (.float .f64 (floatOfInt .f64 (Fl.sg s (Fl.whole m i)))) (.float .f64 4607182418800017408)).run Tryz.prog w = .ok (.float .f64 r) w := fun w => run_float_arith w .sub 28 .f64 _ _ r hsub
    have hW : isW x = false := by rw [hw]; simp; omega
    have g5 : (FloatKind.f64.format.order (floatOfInt .f64 (Fl.sg s (Fl.whole m i))) x == some .gt) = true := by
      show (Ieee.double.order (Ieee.double.nearest (decide (Fl.sg s (Fl.whole m i) < 0)) (Fl.sg s (Fl.whole m i)).natAbs 0) x == some .gt) = true
      rw [o2, Fl.cmp_gt]; simpa using hgt
    have HF : Hid ((FloatKind.f64.format.order x r == some .eq) = isW x) := by rw [hW]; exact hne
    refine ⟨r, HF.out, fun w => ?_⟩
    clear hr h1 h2 hw hint o1 o2 hgt hsub hne hW h hlo hhi hi hi2 hm
    generalize Fl.sg s (Fl.whole m i) = n at *
    go_enter Tryz.func58, Tryz.ntmps58
    go_wp2
    go_ret
    exact ⟨rfl, rfl⟩
  · have g5 : (FloatKind.f64.format.order (floatOfInt .f64 (Fl.sg s (Fl.whole m i))) x == some .gt) = false := by
      show (Ieee.double.order (Ieee.double.nearest (decide (Fl.sg s (Fl.whole m i) < 0)) (Fl.sg s (Fl.whole m i)).natAbs 0) x == some .gt) = false
      rw [o2, Fl.cmp_gt]; simpa using hgt
    have HF : Hid ((FloatKind.f64.format.order x (floatOfInt .f64 (Fl.sg s (Fl.whole m i))) == some .eq) = isW x) := by
      show (Ieee.double.order x (Ieee.double.nearest (decide (Fl.sg s (Fl.whole m i) < 0)) (Fl.sg s (Fl.whole m i)).natAbs 0) == some .eq) = isW x
      rw [o1, Fl.cmp_eq, hw]
    refine ⟨_, HF.out, fun w => ?_⟩
    clear hr h1 h2 hw hint o1 o2 hgt h hlo hhi hi hi2 hm
    generalize Fl.sg s (Fl.whole m i) = n at *
    go_enter Tryz.func58, Tryz.ntmps58
    go_wp2
    go_ret
    exact ⟨rfl, rfl⟩

/-- Where the model's floor hands its argument back, a float within the bounds is whole. -/
theorem asIs_whole {x : Nat} (h : asIs x = true) (hn : fnan x = false) (h1 : geB x = true) (h2 : ltB x = true) : isW x = true := by
  obtain ⟨s, m, i, hr, hi, hi2, hm, hlo, hhi⟩ := fin_of h1 h2
  have hw : isW x = decide (Fl.sc s m i = Fl.sg s (Fl.whole m i) * Fl.U) := by unfold isW; rw [hr]
  rw [hw]
  have hb := Fl.whole_bounds m i hi
  have hu := Fl.U_pos
  unfold asIs at h
  rw [hn] at h
  have e1 : fz x = decide (Fl.sc s m i = 0) := by
    show (Ieee.double.order x 0 == some .eq) = _
    rw [Fl.ord_of hr Fl.read_nil hi (by omega), Fl.cmp_eq, Fl.sc_zero]
  have e2 : (FloatKind.f64.format.order x 4890909195324358656 == some .gt || FloatKind.f64.format.order x 4890909195324358656 == some .eq) = false := by
    show (Ieee.double.order x 4890909195324358656 == some .gt || Ieee.double.order x 4890909195324358656 == some .eq) = false
    rw [Fl.ord_of hr Fl.read_c63 hi (by omega), Fl.sc_c63, Fl.cmp_gt, Fl.cmp_eq]
    simp; omega
  have e3 : (FloatKind.f64.format.order x 14114281232179134464 == some .lt || FloatKind.f64.format.order x 14114281232179134464 == some .eq) = decide (Fl.sc s m i = -(9223372036854775808 * Fl.U)) := by
    show (Ieee.double.order x 14114281232179134464 == some .lt || Ieee.double.order x 14114281232179134464 == some .eq) = _
    rw [Fl.ord_of hr Fl.read_m63 hi (by omega), Fl.sc_m63, Fl.cmp_lt, Fl.cmp_eq]
    have : ¬ Fl.sc s m i < -(9223372036854775808 * Fl.U) := by omega
    simp [this]
  rw [e1, e2, e3] at h
  simp at h
  have hk : (Fl.whole m i : Int) = 0 ∨ (s = true ∧ (Fl.whole m i : Int) = 9223372036854775808) := by
    rcases h with h | h
    · left
      have h0 : Fl.sc false m i = 0 := by
        cases s
        · exact h
        · rw [Fl.sc_neg] at h; omega
      rw [h0] at hb
      have := Int.le_of_mul_le_mul_right (show (Fl.whole m i : Int) * Fl.U ≤ 0 * Fl.U from by omega) hu
      omega
    · right
      have hs : s = true := by
        cases s
        · exfalso
          have h0 : 0 ≤ (Fl.whole m i : Int) * Fl.U := Int.mul_nonneg (by omega) (by omega)
          omega
        · rfl
      subst hs
      rw [Fl.sc_neg] at h
      have h0 : Fl.sc false m i = 9223372036854775808 * Fl.U := by omega
      rw [h0] at hb
      have h3 := Int.lt_of_mul_lt_mul_right hb.2 (by omega)
      have h4 := Int.le_of_mul_le_mul_right hb.1 hu
      exact ⟨rfl, by omega⟩
  rcases h with h | h
  · have : (Fl.whole m i : Int) = 0 := by
      rcases hk with k | ⟨k1, k2⟩
      · exact k
      · exfalso; subst k1; rw [Fl.sc_neg] at h; rw [k2] at hb; omega
    have e0 : Fl.whole m i = 0 := by omega
    rw [h, e0]; cases s <;> simp [Fl.sg]
  · rcases hk with k | ⟨k1, k2⟩
    · exfalso
      rw [k] at hb
      have : Fl.sc false m i < Fl.U := by simpa using hb.2
      cases s
      · omega
      · rw [Fl.sc_neg] at h; omega
    · subst k1
      have e0 : Fl.whole m i = 9223372036854775808 := by omega
      rw [h, e0]; simp [Fl.sg, Int.neg_mul]

end Go.Proofs.YtglcaejddckleaaGreatDoor
