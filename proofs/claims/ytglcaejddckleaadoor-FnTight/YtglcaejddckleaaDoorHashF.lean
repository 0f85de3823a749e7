/-
  The text of a float, of the model: floor at every finite float; doubling, halving.
-/
import Derived.Test.YtglcaejddckleaaDoorFltE
import Derived.Test.YtglcaejddckleaaDoorHashE
import Derived.Test.YtglcaejddckleaaDoorKeyC
namespace Go.Proofs.YtglcaejddckleaaDoor
open Go.RowKit
set_option linter.unusedVariables false

/-- Whole, told of m * 2^p. -/
def wh (m : Nat) (p : Int) : Prop := ∃ N, m * 2 ^ (p + 1074).toNat = N * 2 ^ ((0 : Int) + 1074).toNat

theorem isW_iff {x m : Nat} {p : Int} (h : Fl.St x m p) : isW x = true ↔ wh m p := by
  obtain ⟨q, l, h1, h2, h3, h4, h6⟩ := h
  have hw : isW x = decide (Fl.sc false q l = Fl.sg false (Fl.whole q l) * Fl.U) := by unfold isW; rw [h1]
  have e : Fl.sg false (Fl.whole q l) = (Fl.whole q l : Int) := rfl
  rw [hw, decide_eq_true_eq, e]
  constructor
  · intro k
    refine ⟨Fl.whole q l, ?_⟩
    rw [← h6]
    have k' := k
    rw [Fl.sc_false, ← e, ← Fl.sc_whole, Fl.sc_false] at k'
    exact Int.ofNat.inj k'
  · rintro ⟨N, hN⟩
    have := Fl.whole_of q l N h2 (h6.trans hN)
    rw [this, ← show Fl.sg false N = (N : Int) from rfl, ← Fl.sc_whole]
    exact Fl.sc_of false q l N 0 (h6.trans hN)

theorem wh_nonneg (m : Nat) (p : Int) (hp : 0 ≤ p) : wh m p := by
  refine ⟨m * 2 ^ p.toNat, ?_⟩
  rw [Fl.pw]; congr 2; omega

/-- A whole one is a number N; where its half is not whole N is odd. -/
theorem wh_odd {m : Nat} {p : Int} (h : wh m p) (hm : m ≠ 0) (hp : -1073 ≤ p) (hn : ¬ wh m (p - 1)) : ∃ M, m * 2 ^ (p + 1074).toNat = (2 * M + 1) * 2 ^ ((0 : Int) + 1074).toNat := by
  obtain ⟨N, hN⟩ := h
  by_cases hodd : N % 2 = 1
  · exact ⟨N / 2, by rw [hN]; congr 1; omega⟩
  · exfalso; apply hn
    refine ⟨N / 2, ?_⟩
    have e : (p + 1074).toNat = (p - 1 + 1074).toNat + 1 := by omega
    rw [e, ← Fl.pw, Nat.pow_one] at hN
    obtain ⟨K, hK⟩ : ∃ K, N = K * 2 := ⟨N / 2, by omega⟩
    have e3 : N / 2 = K := by omega
    rw [hK, Nat.mul_right_comm K 2] at hN
    rw [e3]
    exact Nat.eq_of_mul_eq_mul_right (by omega) hN

theorem wh_low {m : Nat} {p : Int} (h : wh m p) (hm : m ≠ 0) (hm2 : m < 2 ^ 53) (hp : -1074 ≤ p) : -53 < p := by
  obtain ⟨N, hN⟩ := h
  apply Int.lt_of_not_ge
  intro hle
  have hN0 : N ≠ 0 := by
    intro e; subst e
    rw [Nat.zero_mul] at hN
    have := Nat.two_pow_pos (p + 1074).toNat
    rcases Nat.mul_eq_zero.1 hN with h | h <;> omega
  obtain ⟨c, hc⟩ : ∃ c : Nat, ((0 : Int) + 1074).toNat = (p + 1074).toNat + (53 + c) := ⟨(-p).toNat - 53, by omega⟩
  rw [hc, Nat.add_comm (p + 1074).toNat, ← Fl.pw] at hN
  have h2 := Nat.eq_of_mul_eq_mul_right (Nat.two_pow_pos _) hN
  rw [Nat.pow_add, Nat.mul_comm (2 ^ 53), ← Nat.mul_assoc] at h2
  have : 1 ≤ N * 2 ^ c := Nat.mul_pos (by omega) (Nat.two_pow_pos c)
  have : 1 * 2 ^ 53 ≤ N * 2 ^ c * 2 ^ 53 := Nat.mul_le_mul_right _ this
  omega

theorem odd_of {m : Nat} {i p : Int} {M : Nat} (h : m * 2 ^ (p + 1074).toNat = (2 * M + 1) * 2 ^ ((0 : Int) + 1074).toNat) (hp : -1074 ≤ p) : OddF m i M (i - p) := by
  by_cases h0 : 0 ≤ p
  · refine ⟨p.toNat, 0, ?_, by omega⟩
    rw [show (p + 1074).toNat = p.toNat + ((0 : Int) + 1074).toNat from by omega, ← Fl.pw] at h
    rw [Nat.eq_of_mul_eq_mul_right (Nat.two_pow_pos _) h]; simp
  · refine ⟨0, (-p).toNat, ?_, by omega⟩
    rw [show ((0 : Int) + 1074).toNat = (-p).toNat + (p + 1074).toNat from by omega, ← Fl.pw] at h
    rw [← Nat.eq_of_mul_eq_mul_right (Nat.two_pow_pos _) h]; simp

theorem ftext_eq (s : Bool) (M : Nat) (E : Int) : ftext s (2 * M + 1) E = (if s then [45] else []) ++ Lib.itoa ((2 * M + 1 : Nat) : Int) ++ [112] ++ Lib.itoa E := by
  unfold ftext
  cases s
  · simp [Fl.sg]
  · have e1 : Lib.itoa (Fl.sg true (2 * M + 1)) = 45 :: Lib.decDigits (2 * M + 1) := by
      unfold Lib.itoa Fl.sg
      rw [if_pos rfl, if_pos (by omega)]
      congr 2
    have e2 : Lib.itoa ((2 * M + 1 : Nat) : Int) = Lib.decDigits (2 * M + 1) := by
      unfold Lib.itoa
      rw [if_neg (by omega)]; rfl
    rw [e1, e2]; simp
end Go.Proofs.YtglcaejddckleaaDoor
