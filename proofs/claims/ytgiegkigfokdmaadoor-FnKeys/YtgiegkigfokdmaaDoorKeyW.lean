/-
  What is held against itself is the same: wVal; KeyOf of a key is the key.
-/
import Derived.Test.YtgiegkigfokdmaaDoorHashK
namespace Go.Proofs.YtgiegkigfokdmaaDoor
open Go.RowKit
set_option linter.unusedVariables false
attribute [local go_sem] run_store_float run_equalIn_float

theorem zero_num' {x : Nat} (h : fz x = true) : ∃ s i, Ieee.double.read x = .number s 0 i := by
  have h' : (Ieee.double.order x 0 == some .eq) = true := h
  rcases Fl.read_cases x with ⟨s, m, i, hr, hi, hi2, hm, _⟩ | ⟨s, hr⟩ | ⟨s, t, hr⟩
  · rw [Fl.ord_of hr Fl.read_nil hi (by omega), Fl.cmp_eq, Fl.sc_zero] at h'
    have h0 : Fl.sc s m i = 0 := by simpa using h'
    unfold Fl.sc at h0
    rw [Fl.signed_eq] at h0
    have hp := Fl.pow_pos' (i + 1074).toNat
    have : m = 0 := by
      generalize (2 : Int) ^ (i + 1074).toNat = u at h0 hp
      have h1 : (m : Int) * u = 0 := by
        cases s
        · simpa using h0
        · simpa using h0
      rcases Int.mul_eq_zero.1 h1 with h | h <;> omega
    subst this
    exact ⟨s, i, hr⟩
  · exfalso
    unfold Ieee.Format.order at h'
    rw [hr, Fl.read_nil] at h'
    cases s <;> simp [Ieee.Datum.order] at h'
  · exfalso
    unfold Ieee.Format.order at h'
    rw [hr] at h'
    simp [Ieee.Datum.order] at h'

theorem quo_zero' {x : Nat} (h : fz x = true) : ∃ r, floatBits .quo .f64 4607182418800017408 x = some r ∧ (FloatKind.f64.format.order r r == some .eq) = true := by
  obtain ⟨s, i, hr⟩ := zero_num' h
  refine ⟨Ieee.double.write (.infinity (false ^^ s)), ?_, ?_⟩
  · show ((Ieee.double.read 4607182418800017408).quotient _ (Ieee.double.read x)).map Ieee.double.write = _
    rw [hr, Fl.read_one]
    simp [Ieee.Datum.quotient]
  · cases s <;> decide

set_option maxHeartbeats 1000000 in
theorem wVal_self (kind num : Int) (flt : Nat) (s : ByteArray) (ref : Int) (w : World) :
    Calls Tryd.prog 17 #[V kind num flt s ref, V kind num flt s ref] w fun e w' => e = .returned (.bool true) ∧ Below w.heap.size w w' := by
  by_cases h1 : fnan flt = true
  · have g1 : (FloatKind.f64.format.order flt flt != some .eq) = true := h1
    clear h1
    go_enter Tryd.func17, Tryd.ntmps17
    go_wp2
    go_ret
    exact ⟨rfl, ((Below.refl _ _).alloc (Nat.le_refl _) _).alloc (by simp) _⟩
  have g1 : (FloatKind.f64.format.order flt flt != some .eq) = false := (by simpa using h1 : fnan flt = false)
  have g2 : (FloatKind.f64.format.order flt flt == some .eq) = true := by simpa using g1
  by_cases h2 : fz flt = true
  · have g3 : (FloatKind.f64.format.order flt 0 != some .eq) = false := by
      have : (FloatKind.f64.format.order flt 0 == some .eq) = true := h2
      simpa using this
    obtain ⟨r, hr, g4⟩ := quo_zero' h2
    have hq : ∀ w : World, (binOp .quo 30 (.float .f64 4607182418800017408) (.float .f64 flt)).run Tryd.prog w = .ok (.float .f64 r) w := fun w => run_float_arith w .quo 30 .f64 _ _ r hr
    clear h1 h2 hr
    go_enter Tryd.func17, Tryd.ntmps17
    go_wp2
    go_ret
    exact ⟨rfl, ((Below.refl _ _).alloc (Nat.le_refl _) _).alloc (by simp) _⟩
  · have g3 : (FloatKind.f64.format.order flt 0 != some .eq) = true := by
      have : (FloatKind.f64.format.order flt 0 == some .eq) = false := (by simpa using h2 : fz flt = false)
      simpa using this
    clear h1 h2
    go_enter Tryd.func17, Tryd.ntmps17
    go_wp2
    go_ret
    exact ⟨rfl, ((Below.refl _ _).alloc (Nat.le_refl _) _).alloc (by simp) _⟩

theorem fz_nil : fz 0 = true := by decide

/-- KeyOf of a key is the key. -/
theorem keyV_again (kind num : Int) (flt : Nat) (s : ByteArray) (ref : Int) {k n : Int} {f : Nat} {t : ByteArray} {r : Int} (h : keyV kind num flt s ref = KV 0 k n f t r) : keyV k n f t r = KV 0 k n f t r := by
  unfold keyV at h
  by_cases hv : validB kind num flt s ref = true
  · rw [if_pos hv] at h
    by_cases h0 : kind = 0
    · rw [if_pos h0] at h; simp at h
    · rw [if_neg h0] at h
      by_cases h3 : kind = 3
      · rw [if_pos h3] at h
        by_cases hn : fnan flt = true
        · rw [if_pos hn] at h; simp at h
        · rw [if_neg hn] at h
          by_cases hw : wholeB flt = true
          · rw [if_pos hw] at h
            simp only [Value.agg.injEq, Array.mk.injEq, List.cons.injEq, Value.int.injEq, Value.float.injEq, Value.string.injEq, true_and, and_true] at h
            obtain ⟨rfl, rfl, rfl, rfl, rfl⟩ := h
            unfold keyV
            have : validB 2 (fint flt) 0 ⟨#[]⟩ 0 = true := by unfold validB; simp [fz_nil]
            rw [if_pos this, if_neg (by decide), if_neg (by decide)]
          · rw [if_neg hw] at h
            simp only [Value.agg.injEq, Array.mk.injEq, List.cons.injEq, Value.int.injEq, Value.float.injEq, Value.string.injEq, true_and, and_true] at h
            obtain ⟨rfl, rfl, rfl, rfl, rfl⟩ := h
            unfold keyV
            rw [if_pos hv, if_neg h0, if_pos h3, if_neg hn, if_neg hw]
      · rw [if_neg h3] at h
        simp only [Value.agg.injEq, Array.mk.injEq, List.cons.injEq, Value.int.injEq, Value.float.injEq, Value.string.injEq, true_and, and_true] at h
        obtain ⟨rfl, rfl, rfl, rfl, rfl⟩ := h
        unfold keyV
        rw [if_pos hv, if_neg h0, if_neg h3]
  · rw [if_neg hv] at h; simp at h

/-- A small int as a float: that int as a key. -/
theorem keyV_float (i : Int) (h1 : -1000 < i) (h2 : i < 1000) : keyV 3 0 (floatOfInt .f64 i) ⟨#[]⟩ 0 = KV 0 2 i 0 ⟨#[]⟩ 0 ∧ keyV 2 i 0 ⟨#[]⟩ 0 = KV 0 2 i 0 ⟨#[]⟩ 0 := by
  obtain ⟨q, l, hr, hl, hv⟩ := Fl.nearest_whole (decide (i < 0)) i.natAbs (Fl.fits_small (by omega))
  rw [Fl.sg_again] at hv
  have hx : Ieee.double.read (floatOfInt .f64 i) = .number (decide (i < 0)) q l := hr
  have hu := Fl.U_pos
  obtain ⟨hl2, hq⟩ : l ≤ 971 ∧ q < 2 ^ 53 := by
    rcases Fl.read_cases (floatOfInt .f64 i) with ⟨s, m, j, hr', _, h2, h3, _⟩ | ⟨s, hr'⟩ | ⟨s, t, hr'⟩
    · rw [hr'] at hx; injection hx with _ e1 e2; rw [← e1, ← e2]; exact ⟨h2, h3⟩
    · rw [hr'] at hx; cases hx
    · rw [hr'] at hx; cases hx
  have hiu : i * Fl.U < 9223372036854775808 * Fl.U := Int.mul_lt_mul_of_pos_right (by omega) hu
  have hil : -9223372036854775808 * Fl.U < i * Fl.U := Int.mul_lt_mul_of_pos_right (by omega) hu
  have hwl : Fl.sg (decide (i < 0)) (Fl.whole q l) = i := by
    have hb := Fl.whole_bounds q l hl
    by_cases hneg : i < 0
    · simp only [hneg, decide_true] at hv ⊢
      rw [Fl.sc_neg] at hv
      have e : Fl.sc false q l = ((-i : Int)) * Fl.U := by rw [Int.neg_mul]; omega
      rw [e] at hb
      have a1 := Int.le_of_mul_le_mul_right hb.1 hu
      have a2 := Int.lt_of_mul_lt_mul_right hb.2 (by omega)
      simp only [Fl.sg, if_true]; omega
    · simp only [hneg, decide_false] at hv ⊢
      rw [hv] at hb
      have a1 := Int.le_of_mul_le_mul_right hb.1 hu
      have a2 := Int.lt_of_mul_lt_mul_right hb.2 (by omega)
      simp only [Fl.sg, Bool.false_eq_true, if_false]; omega
  have g : geB (floatOfInt .f64 i) = true := by
    show (Ieee.double.order _ 14114281232179134464 == some .gt || Ieee.double.order _ 14114281232179134464 == some .eq) = true
    rw [Fl.ord_of hx Fl.read_m63 hl (by omega), Fl.sc_m63, Fl.cmp_gt, Fl.cmp_eq, hv]
    simp only [Bool.or_eq_true, decide_eq_true_eq]; left; omega
  have lt : ltB (floatOfInt .f64 i) = true := by
    show (Ieee.double.order _ 4890909195324358656 == some .lt) = true
    rw [Fl.ord_of hx Fl.read_c63 hl (by omega), Fl.sc_c63, Fl.cmp_lt, hv]
    simp only [decide_eq_true_eq]; omega
  have iw : isW (floatOfInt .f64 i) = true := by
    unfold isW; rw [hx]; simp only [decide_eq_true_eq]; rw [hwl, hv]
  have fi : fint (floatOfInt .f64 i) = i := by unfold fint; rw [hx]; exact hwl
  have hn : fnan (floatOfInt .f64 i) = false := by
    show (!(Ieee.double.order _ _ == some .eq)) = false
    rw [Fl.ord_of hx hx hl hl, Fl.cmp_eq]; simp
  have hw : wholeB (floatOfInt .f64 i) = true := by unfold wholeB; rw [g, lt, iw]; rfl
  constructor
  · unfold keyV
    have : validB 3 0 (floatOfInt .f64 i) ⟨#[]⟩ 0 = true := by unfold validB; simp
    rw [if_pos this, if_neg (by decide), if_pos rfl, if_neg (by rw [hn]; decide), if_pos hw, fi]
  · unfold keyV
    have : validB 2 i 0 ⟨#[]⟩ 0 = true := by unfold validB; simp [fz_nil]
    rw [if_pos this, if_neg (by decide), if_neg (by decide)]
end Go.Proofs.YtgiegkigfokdmaaDoor
