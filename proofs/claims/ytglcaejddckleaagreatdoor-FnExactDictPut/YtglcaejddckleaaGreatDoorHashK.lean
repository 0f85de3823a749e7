/-
  HashOf, of the program and of the model.
-/
import Derived.Test.YtglcaejddckleaaGreatDoorHashJ
import Derived.Test.YtglcaejddckleaaGreatDoorConv
namespace Go.Proofs.YtglcaejddckleaaGreatDoor
open Go.RowKit
set_option linter.unusedVariables false
attribute [local go_sem] run_store_float run_equalIn_float

theorem fz_whole {x : Nat} (h : fz x = true) : wholeB x = true := by
  have h' : (Ieee.double.order x 0 == some .eq) = true := h
  rcases Fl.read_cases x with ⟨s, m, i, hr, hi, hi2, hm, _⟩ | ⟨s, hr⟩ | ⟨s, t, hr⟩
  · rw [Fl.ord_of hr Fl.read_nil hi (by omega), Fl.cmp_eq, Fl.sc_zero] at h'
    have h0 : Fl.sc s m i = 0 := by simpa using h'
    have hu := Fl.U_pos
    have g : geB x = true := by
      show (Ieee.double.order x 14114281232179134464 == some .gt || Ieee.double.order x 14114281232179134464 == some .eq) = true
      rw [Fl.ord_of hr Fl.read_m63 hi (by omega), Fl.sc_m63, Fl.cmp_gt, Fl.cmp_eq, h0]
      simp only [Bool.or_eq_true, decide_eq_true_eq]; left; omega
    have l : ltB x = true := by
      show (Ieee.double.order x 4890909195324358656 == some .lt) = true
      rw [Fl.ord_of hr Fl.read_c63 hi (by omega), Fl.sc_c63, Fl.cmp_lt, h0]
      simp only [decide_eq_true_eq]; omega
    have hn : fnan x = false := by
      show (!(Ieee.double.order x x == some .eq)) = false
      rw [Fl.ord_of hr hr hi hi, Fl.cmp_eq]; simp
    have ha : asIs x = true := by unfold asIs; rw [h]; simp
    unfold wholeB
    rw [g, l, asIs_whole ha hn g l]; rfl
  · exfalso
    unfold Ieee.Format.order at h'
    rw [hr, Fl.read_nil] at h'
    cases s <;> simp [Ieee.Datum.order] at h'
  · exfalso
    unfold Ieee.Format.order at h'
    rw [hr] at h'
    simp [Ieee.Datum.order] at h'

theorem valid_kind {kind num : Int} {flt : Nat} {s : ByteArray} {ref : Int} (h : validB kind num flt s ref = true) : 0 ≤ kind ∧ kind ≤ 8 := by
  unfold validB at h
  by_cases k0 : kind = 0
  · omega
  by_cases k1 : kind = 1
  · omega
  by_cases k2 : kind = 2
  · omega
  by_cases k3 : kind = 3
  · omega
  by_cases k4 : kind = 4
  · omega
  by_cases k5 : kind = 5
  · omega
  by_cases k6 : kind = 6
  · omega
  by_cases k7 : kind = 7
  · omega
  by_cases k8 : kind = 8
  · omega
  exfalso
  simp [k0, k1, k2, k3, k4, k5, k6, k7, k8] at h

/-- What KeyOf gives, and that it can be hashed where it is a key. -/
theorem keyV_hash (kind num : Int) (flt : Nat) (s : ByteArray) (ref : Int) (hs : s.size ≤ maxLen) (hf : flt < 18446744073709551616) :
    ∃ c k n f t r, keyV kind num flt s ref = KV c k n f t r ∧ (c = 0 → HK k f t) := by
  unfold keyV
  by_cases hv : validB kind num flt s ref = true
  · rw [if_pos hv]
    have hk := valid_kind hv
    by_cases h0 : kind = 0
    · rw [if_pos h0]; exact ⟨_, _, _, _, _, _, rfl, fun h => by omega⟩
    · rw [if_neg h0]
      by_cases h3 : kind = 3
      · rw [if_pos h3]
        by_cases hn : fnan flt = true
        · rw [if_pos hn]; exact ⟨_, _, _, _, _, _, rfl, fun h => by omega⟩
        · rw [if_neg hn]
          by_cases hw : wholeB flt = true
          · rw [if_pos hw]
            exact ⟨_, _, _, _, _, _, rfl, fun _ => ⟨by unfold maxLen; decide, by omega, by omega, fun h => by omega⟩⟩
          · rw [if_neg hw]
            refine ⟨_, _, _, _, _, _, rfl, fun _ => ⟨hs, hk.1, hk.2, fun _ => ⟨hf, by simpa using hn, ?_⟩⟩⟩
            rw [Bool.eq_false_iff]; intro hz; exact hw (fz_whole hz)
      · rw [if_neg h3]
        exact ⟨_, _, _, _, _, _, rfl, fun _ => ⟨hs, hk.1, hk.2, fun h => absurd h h3⟩⟩
  · rw [if_neg hv]; exact ⟨_, _, _, _, _, _, rfl, fun h => by omega⟩

end Go.Proofs.YtglcaejddckleaaGreatDoor
