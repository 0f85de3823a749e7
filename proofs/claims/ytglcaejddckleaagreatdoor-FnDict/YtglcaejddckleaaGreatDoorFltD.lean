/-
  The odd form; ctz; signs. Plain mathematics.
-/
import Derived.Test.YtglcaejddckleaaGreatDoorFltC
namespace Go.Proofs.YtglcaejddckleaaGreatDoor.Fl
open Ieee

theorem odd_unique : ∀ (a b m n : Nat), 2 ^ a * (2 * m + 1) = 2 ^ b * (2 * n + 1) → a = b ∧ m = n
  | 0, 0, m, n, h => by simp at h; exact ⟨rfl, by omega⟩
  | 0, b + 1, m, n, h => by rw [Nat.pow_succ] at h; simp at h; exfalso; have : (2 * m + 1) % 2 = (2 ^ b * 2 * (2 * n + 1)) % 2 := by rw [h]
                            rw [Nat.mul_assoc, Nat.mul_left_comm, Nat.mul_mod_right] at this; omega
  | a + 1, 0, m, n, h => by rw [Nat.pow_succ] at h; simp at h; exfalso; have : (2 ^ a * 2 * (2 * m + 1)) % 2 = (2 * n + 1) % 2 := by rw [h]
                            rw [Nat.mul_assoc, Nat.mul_left_comm, Nat.mul_mod_right] at this; omega
  | a + 1, b + 1, m, n, h => by
    have h' : 2 ^ a * (2 * m + 1) = 2 ^ b * (2 * n + 1) := by
      rw [Nat.pow_succ, Nat.pow_succ, Nat.mul_comm (2 ^ a), Nat.mul_comm (2 ^ b), Nat.mul_assoc, Nat.mul_assoc] at h
      exact Nat.eq_of_mul_eq_mul_left (by omega) h
    obtain ⟨e1, e2⟩ := odd_unique a b m n h'
    exact ⟨by omega, e2⟩

/-- The word of a number with its sign, as an unsigned one. -/
def uw (s : Bool) (N : Nat) : Nat := if s then 18446744073709551616 - N else N

theorem uw_wrap (s : Bool) (N : Nat) (h0 : 0 < N) (h : N < 2 ^ 53) : IntKind.u64.wrap (sg s N) = ((uw s N : Nat) : Int) := by
  rw [IntKind.wrap_u64]
  cases s
  · simp only [sg, uw, Bool.false_eq_true, if_false]; omega
  · simp only [sg, uw, if_true]; omega

/-- The trailing zeros of N, below 2^53 and above 0: N = 2^t * (2 M + 1); those of its negative are the same. -/
theorem ctz_spec (s : Bool) (N : Nat) (h0 : 0 < N) (h : N < 2 ^ 53) : ∃ M, N = 2 ^ Lib.ctz 64 (uw s N) * (2 * M + 1) ∧ Lib.ctz 64 (uw s N) < 53 := by
  have hN0 : N ≠ 0 := by omega
  obtain ⟨M, hM, hlt⟩ := Lib.ctzFrom_spec 53 N h0 h
  generalize ht : Lib.ctzFrom 53 N = t at hM hlt
  have hu0 : uw s N ≠ 0 := by unfold uw; split <;> omega
  have hu64 : uw s N < 2 ^ 64 := by unfold uw; split <;> omega
  obtain ⟨M', hM', _⟩ := Lib.ctzFrom_spec 64 (uw s N) (by omega) hu64
  have e : Lib.ctz 64 (uw s N) = Lib.ctzFrom 64 (uw s N) := by unfold Lib.ctz; rw [if_neg hu0]
  rw [e]
  generalize Lib.ctzFrom 64 (uw s N) = t' at hM'
  have ht' : t = t' := by
    cases s
    · have : uw false N = N := rfl
      rw [this, hM] at hM'
      exact (odd_unique _ _ _ _ hM').1
    · have hu : uw true N = 18446744073709551616 - N := rfl
      obtain ⟨d, hd⟩ : ∃ d, 64 = t + (d + 1) := ⟨63 - t, by omega⟩
      have h64 : 18446744073709551616 = 2 ^ t * 2 ^ (d + 1) := by rw [← Nat.pow_add, ← hd]
      have hlt2 : 2 * M + 1 < 2 ^ (d + 1) := by
        have : 2 ^ t * (2 * M + 1) < 2 ^ t * 2 ^ (d + 1) := by rw [← hM, ← h64]; omega
        exact Nat.lt_of_mul_lt_mul_left this
      have : uw true N = 2 ^ t * (2 * (2 ^ d - M - 1) + 1) := by
        rw [hu, hM, h64, ← Nat.mul_sub]
        congr 1
        rw [Nat.pow_succ] at hlt2 ⊢
        omega
      rw [this] at hM'
      exact (odd_unique _ _ _ _ hM').1
  subst ht'
  exact ⟨M, hM, hlt⟩

theorem sg_shift (s : Bool) (t M : Nat) : sg s (2 ^ t * (2 * M + 1)) / 2 ^ t = sg s (2 * M + 1) := by
  have hp : (2 : Int) ^ t ≠ 0 := by have := pow_pos' t; omega
  cases s
  · simp only [sg, Bool.false_eq_true, if_false]
    push_cast
    exact Int.mul_ediv_cancel_left _ hp
  · simp only [sg, if_true]
    push_cast
    rw [← Int.mul_neg]
    exact Int.mul_ediv_cancel_left _ hp

theorem whole_of (q : Nat) (l : Int) (N : Nat) (hl : -1074 ≤ l) (h : q * 2 ^ (l + 1074).toNat = N * 2 ^ ((0 : Int) + 1074).toNat) : whole q l = N := by
  have hb := whole_bounds q l hl
  have hu := U_pos
  rw [sc_of false q l N 0 h, sc_whole] at hb
  have e : sg false N = (N : Int) := rfl
  rw [e] at hb
  have h1 := Int.le_of_mul_le_mul_right hb.1 hu
  have h2 := Int.lt_of_mul_lt_mul_right hb.2 (by omega)
  omega

theorem xor_sign (r : Nat) (h : r < 9223372036854775808) : r ^^^ 9223372036854775808 = 9223372036854775808 + r ∧ (9223372036854775808 + r) ^^^ 9223372036854775808 = r := by
  have e : r ^^^ 2 ^ 63 = 2 ^ 63 + r := by
    apply Nat.eq_of_testBit_eq
    intro i
    rw [Nat.testBit_xor, Nat.testBit_two_pow]
    by_cases hi : i = 63
    · subst hi
      rw [Nat.testBit_two_pow_add_eq]
      have : r.testBit 63 = false := Nat.testBit_lt_two_pow (by rw [c63]; exact h)
      simp [this]
    · by_cases hlt : i < 63
      · rw [Nat.testBit_two_pow_add_gt hlt]
        have : (63 : Nat) ≠ i := by omega
        simp [this]
      · have h1 : r.testBit i = false := Nat.testBit_lt_two_pow (Nat.lt_of_lt_of_le (by rw [← c63] at h; exact h) (Nat.pow_le_pow_right (by omega) (by omega)))
        have h2 : (2 ^ 63 + r).testBit i = false := Nat.testBit_lt_two_pow (Nat.lt_of_lt_of_le (show 2 ^ 63 + r < 2 ^ 64 from by rw [c63]; omega) (Nat.pow_le_pow_right (by omega) (by omega)))
        have : (63 : Nat) ≠ i := by omega
        rw [h1, h2]; simp [this]
  rw [c63] at e
  refine ⟨e, ?_⟩
  rw [← e, Nat.xor_assoc, Nat.xor_self, Nat.xor_zero]

theorem neg_is (x : Nat) : Op.negFloat .f64 x = x ^^^ 9223372036854775808 := by
  unfold Op.negFloat
  have : FloatKind.f64.format.exponentBits + FloatKind.f64.format.fractionBits = 63 := rfl
  rw [this, c63]

theorem fields_lt (e f : Nat) (b2 : e < 2048) (b3 : f < 4503599627370496) : e * 4503599627370496 + f < 9223372036854775808 := by
  have h : e * 4503599627370496 ≤ 2047 * 4503599627370496 := Nat.mul_le_mul_right _ (by omega)
  omega

theorem read_neg (x : Nat) (hx : x < 18446744073709551616) : double.read (Op.negFloat .f64 x) = (double.read x).opposite := by
  rw [neg_is]
  obtain ⟨sb, e, f, rfl, b1, b2, b3⟩ := fields x hx
  have hs : sb = 0 ∨ sb = 1 := by omega
  have hb : e * 4503599627370496 + f < 9223372036854775808 := fields_lt e f b2 b3
  have key : (sb * 9223372036854775808 + e * 4503599627370496 + f) ^^^ 9223372036854775808 = (1 - sb) * 9223372036854775808 + e * 4503599627370496 + f := by
    rcases hs with rfl | rfl
    · have := (xor_sign (e * 4503599627370496 + f) hb).1
      rw [show 0 * 9223372036854775808 + e * 4503599627370496 + f = e * 4503599627370496 + f from by rw [Nat.zero_mul, Nat.zero_add], this]
      show _ = 1 * 9223372036854775808 + e * 4503599627370496 + f
      rw [Nat.one_mul, Nat.add_assoc]
    · have := (xor_sign (e * 4503599627370496 + f) hb).2
      rw [show 1 * 9223372036854775808 + e * 4503599627370496 + f = 9223372036854775808 + (e * 4503599627370496 + f) from by rw [Nat.one_mul, Nat.add_assoc], this]
      show _ = 0 * 9223372036854775808 + e * 4503599627370496 + f
      rw [Nat.zero_mul, Nat.zero_add]
  rw [key]
  by_cases he : e < 2047
  · rw [read_fields _ e f (by omega) he b3, read_fields sb e f b1 he b3]
    rcases hs with rfl | rfl <;> rfl
  · have : e = 2047 := by omega
    subst this
    rw [read_inf_fields _ f (by omega) b3, read_inf_fields sb f b1 b3]
    rcases hs with rfl | rfl <;> by_cases hf : f = 0 <;> simp [hf, Datum.opposite]
end Go.Proofs.YtglcaejddckleaaGreatDoor.Fl
